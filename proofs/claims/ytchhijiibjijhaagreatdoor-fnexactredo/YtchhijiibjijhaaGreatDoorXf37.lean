import Derived.Test.YtchhijiibjijhaaGreatDoorXf36
namespace Go.Proofs.YtchhijiibjijhaaGreatDoor
set_option maxRecDepth 100000
set_option maxHeartbeats 2000000
open Go.ChangeShapes Go.WideShapes Go.ChangeAt Go.RowKit Go.Deep
theorem qoo (w:World):Calls Tryz.prog 104 #[.slice none 0 0,.slice none 0 0] w fun e w'=>e=.returned (.bool true)/\Below w.heap.size w w':=by
 go_enter Tryz.func104,Tryz.ntmps104
 go_wp2_with fail
 go_loopw [5] (fun i wr=>i=.int .i64 0/\Below w.heap.size w wr) (fun _ _=>0)
 case atStart=>exact ⟨rfl,Below.refl _ _⟩
 case round=>
  obtain ⟨rfl,hbw⟩:=hrel
  go_wp2
  go_ret
  exact ⟨rfl,hbw⟩
theorem qkm (k:Int) (w:World):Calls Tryz.prog 107 #[.slice none 0 0,.int .i64 k] w fun e w'=>e=.returned (.int .i64 k)/\Below w.heap.size w w':=by
 go_enter Tryz.func107,Tryz.ntmps107
 go_wp2_with fail
 go_loopw [1,5] (fun q i wr=>i=.int .i64 0/\q=.int .i64 k/\Below w.heap.size w wr) (fun _ _ _=>0)
 case atStart=>exact ⟨rfl,rfl,Below.refl _ _⟩
 case round=>
  obtain ⟨rfl,rfl,hbw⟩:=hrel
  go_wp2
  go_ret
  exact ⟨rfl,hbw⟩
theorem qj6 (k:Int) (w:World):Calls Tryz.prog 110 #[.slice none 0 0,.int .i64 k] w fun e w'=>e=.returned (.int .i64 k)/\Below w.heap.size w w':=by
 go_enter Tryz.func110,Tryz.ntmps110
 go_wp2_with fail
 go_loopw [1,5] (fun q i wr=>i=.int .i64 0/\q=.int .i64 k/\Below w.heap.size w wr) (fun _ _ _=>0)
 case atStart=>exact ⟨rfl,rfl,Below.refl _ _⟩
 case round=>
  obtain ⟨rfl,rfl,hbw⟩:=hrel
  go_wp2
  go_ret
  exact ⟨rfl,hbw⟩
theorem ql4 (w:World):Calls Tryz.prog 105 #[.slice none 0 0,.slice none 0 0] w fun e w'=>e=.returned (.bool true)/\Below w.heap.size w w':=by
 go_enter Tryz.func105,Tryz.ntmps105
 go_wp2_with fail
 go_loopw [5] (fun i wr=>i=.int .i64 0/\Below w.heap.size w wr) (fun _ _=>0)
 case atStart=>exact ⟨rfl,Below.refl _ _⟩
 case round=>
  obtain ⟨rfl,hbw⟩:=hrel
  go_wp2
  go_ret
  exact ⟨rfl,hbw⟩
theorem qix (k:Int) (w:World):Calls Tryz.prog 108 #[.slice none 0 0,.int .i64 k] w fun e w'=>e=.returned (.int .i64 k)/\Below w.heap.size w w':=by
 go_enter Tryz.func108,Tryz.ntmps108
 go_wp2_with fail
 go_loopw [1,5] (fun q i wr=>i=.int .i64 0/\q=.int .i64 k/\Below w.heap.size w wr) (fun _ _ _=>0)
 case atStart=>exact ⟨rfl,rfl,Below.refl _ _⟩
 case round=>
  obtain ⟨rfl,rfl,hbw⟩:=hrel
  go_wp2
  go_ret
  exact ⟨rfl,hbw⟩
theorem qio (k:Int) (w:World):Calls Tryz.prog 111 #[.slice none 0 0,.int .i64 k] w fun e w'=>e=.returned (.int .i64 k)/\Below w.heap.size w w':=by
 go_enter Tryz.func111,Tryz.ntmps111
 go_wp2_with fail
 go_loopw [1,5] (fun q i wr=>i=.int .i64 0/\q=.int .i64 k/\Below w.heap.size w wr) (fun _ _ _=>0)
 case atStart=>exact ⟨rfl,rfl,Below.refl _ _⟩
 case round=>
  obtain ⟨rfl,rfl,hbw⟩:=hrel
  go_wp2
  go_ret
  exact ⟨rfl,hbw⟩
structure OwnM (w:World) (c:Nat->Nat) (B n:Nat) (L:Nat->Nat) (H:Nat->Nat->I5) (S:Nat->S4) (vp vs vw vh:Value) (up us:Nat->Value):Prop where
 p:LI true w (Cl B c 1) vp n up L H
 s:LS w (Cl B c 2) vs n us S
 t:ZL 136 w (Cl B c 3) vw (n*n)
 h:ZL 75 w (Cl B c 4) vh n
def Own2 (w:World) (B T n:Nat) (L:Nat->Nat) (H:Nat->Nat->I5) (S:Nat->S4) (vp vs vw vh:Value):Prop:=∃ c up us,OwnM w c B n L H S vp vs vw vh up us/\∀ b,T<=b->c b=0
section
variable {w w':World} {B T n:Nat} {L:Nat->Nat} {H:Nat->Nat->I5} {S:Nat->S4} {vp vs vw vh:Value}
theorem Own1.two (o:Own1 w B T n L H vp vs vw vh):Own2 w B T n L H (fun _=>newS) vp vs vw vh:=by
 obtain ⟨c,up,us,o,h⟩:=o
 exact ⟨c,up,us,⟨o.p,o.s,o.t,o.h⟩,h⟩
theorem Own2.below (o:Own2 w B T n L H S vp vs vw vh) (hb:Below w.heap.size w w'):Own2 w' B T n L H S vp vs vw vh:=by
 obtain ⟨c,up,us,o,h⟩:=o
 exact ⟨c,up,us,⟨o.p.below hb,o.s.below hb,o.t.below hb,o.h.below hb⟩,h⟩
theorem Own2.touch {P:Nat->Prop} (o:Own2 w B T n L H S vp vs vw vh) (ht:qac P w w') (hp:∀ b,P b->T<=b\/b<B):Own2 w' B T n L H S vp vs vw vh:=by
 obtain ⟨c,up,us,o,h⟩:=o
 have hk:∀ i,i≠0->∀ k,Cl B c i k->k<w.heap.size->w'.heap[k]? = w.heap[k]?:=fun i hi k hk hl=>ht.block k hl fun e=>by
  rcases hp k e with h1 | h1
  ·exact hi (hk.2.symm.trans (h k h1))
  ·have:=hk.1
   omega
 exact ⟨c,up,us,⟨o.p.keep (hk 1 (by decide)),o.s.keep (hk 2 (by decide)),o.t.keep (hk 3 (by decide)),o.h.keep (hk 4 (by decide))⟩,h⟩
end
variable {z:Bool}
theorem LL.remarkZ {e:TypeId} {sz:Nat} {E:TypeId} {w:World} {P:Nat->Prop} {v:Value} {n:Nat} {u:Nat->Value} {L:Nat->Nat} {c:Nat->List Value} (o:LL z e sz E w P v n u L c) {i:Nat} (hi:i<n) {w1:World} {c':List Value} (hu:w1.ownsRow 0 e sz (u i) (L i) c') (g:∀ k,k<w.heap.size->(u i).ownBlock≠some k->w1.heap[k]? = w.heap[k]?):LL z e sz E w1 P v n u L (fun j=>if j=i then c' else c j):=by
 refine ⟨qau o.row fun k hk=>g k (o.row.lt k hk).2 fun e=>o.ra i hi k e hk,fun j hj=>?_,o.rb,o.ob,o.ra,o.oa,o.nn⟩
 by_cases ej:j=i
 ·subst ej
  simp only [if_true]
  exact hu
 ·simp only [if_neg ej]
  exact qau (o.own j hj) fun k hk=>g k ((o.own j hj).lt k hk).2 fun e=>o.oa j i hj hi ej k hk e
theorem LL.castZ {e:TypeId} {sz:Nat} {E:TypeId} {w:World} {P:Nat->Prop} {v:Value} {n:Nat} {u:Nat->Value} {L:Nat->Nat} {c:Nat->List Value} (o:LL z e sz E w P v n u L c) {c':Nat->List Value} (h:∀ i,i<n->c i=c' i):LL z e sz E w P v n u L c':=
 ⟨o.row,fun i hi=>by rw [<- h i hi];exact o.own i hi,o.rb,o.ob,o.ra,o.oa,o.nn⟩
theorem qo3 (u:Value) (n B:Nat) (h:Nat->I2) (k:Int) (w:World) (hlen:n<=1048576) (k0:0<=k) (k1:k<=100000000) (o:w.ownsRow B 138 2 u n (fT h n)):
  Calls Tryz.prog 107 #[u,.int .i64 k] w fun e w'=>e=.returned (.int .i64 (k+2*n))/\w.grownBy w' u.ownBlock/\w'.ownsRow B 138 2 u n (fT (mkT k) n):=by
 by_cases hu:u=.slice none 0 0
 ·subst hu
  rcases o.2 with ⟨-,h0⟩ | ⟨g,cap,cur,e,-⟩
  ·subst h0
   refine (qkm k w).mono ?_
   rintro e w' ⟨rfl,hb⟩
   exact ⟨by simp,zZ hb,⟨rfl,.inl ⟨rfl,rfl⟩⟩⟩
  ·cases e
 ·obtain ⟨b,m,rfl,-,-,-⟩:=atT o hu
  exact qkn b n m B h k w hlen k0 k1 o
theorem qov (u:Value) (n B:Nat) (k:Int) (w:World) (hlen:n<=1048576) (k0:0<=k) (k1:k<=100000000) (o:w.ownsRow B 138 2 u n (fT (mkT k) n)):
  Calls Tryz.prog 110 #[u,.int .i64 k] w fun e w'=>e=.returned (.int .i64 (k+2*n))/\Below w.heap.size w w':=by
 by_cases hu:u=.slice none 0 0
 ·subst hu
  rcases o.2 with ⟨-,h0⟩ | ⟨g,cap,cur,e,-⟩
  ·subst h0
   refine (qj6 k w).mono ?_
   rintro e w' ⟨rfl,hb⟩
   exact ⟨by simp,hb⟩
  ·cases e
 ·obtain ⟨b,m,rfl,lb,it,-⟩:=atT o hu
  exact qj7 b n m k w hlen k0 k1 lb it
theorem ql9 (b m:Nat) (w:World):Calls Tryz.prog 104 #[.slice none 0 0,.slice (some ⟨b,0,none⟩) 0 m] w fun e w'=>e=.returned (.bool true)/\Below w.heap.size w w':=by
 go_enter Tryz.func104,Tryz.ntmps104
 go_wp2_with fail
 go_loopw [5] (fun i wr=>i=.int .i64 0/\Below w.heap.size w wr) (fun _ _=>0)
 case atStart=>exact ⟨rfl,Below.refl _ _⟩
 case round=>
  obtain ⟨rfl,hbw⟩:=hrel
  go_wp2
  go_ret
  exact ⟨rfl,hbw⟩
theorem qs0 {B1 B2 n:Nat} {u1 u2:Value} {g:Nat->I2} {w:World} (hn:n<=1048576) (o1:w.ownsRow B1 138 2 u1 n (fT g n)) (o2:w.ownsRow B2 138 2 u2 n (fT g n)):
  Calls Tryz.prog 104 #[u1,u2] w fun e w'=>e=.returned (.bool true)/\Below w.heap.size w w':=by
 by_cases h1:u1=.slice none 0 0
 ·subst h1
  rcases o1.2 with ⟨-,h0⟩ | ⟨g,cap,cur,e,-⟩
  ·subst h0
   by_cases h2:u2=.slice none 0 0
   ·subst h2
    exact qoo w
   ·obtain ⟨b2,m2,rfl,-,-,-⟩:=atT o2 h2
    exact ql9 b2 m2 w
  ·cases e
 ·exact qop hn o1 h1 o2
theorem qmu (v:Value) (P:Nat->Prop) (n:Nat) (u:Nat->Value) (L:Nat->Nat) (H:Nat->Nat->I2) (k:Int) (w:World) (hn:n<=1048576) (hl:sumL L n<=1048576) (k0:0<=k) (k1:k<=50000000) (o:LT z w P v n u L H):
  Calls Tryz.prog 59 #[v,.int .i64 k] w fun e w'=>e=.returned (.int .i64 (k+2*(sumL L n:Nat)))/\LT z w' P v n u L (fun i=>mkT (k+2*(sumL L i:Nat)))/\qac P w w':=by
 have hl':(n:Int)<=1048576:=by omega
 obtain ⟨a1,c1,rfl⟩:=zU o.row
 have O:Hid (LT z w P (.slice a1 n c1) n u L H):=o
 have HL:Hid (sumL L n<=1048576):=hl
 clear o hl
 go_enter Tryz.func59,Tryz.ntmps59
 go_wp2_with fail
 go_loopw [1,5] (fun q i wr=>∃ j:Nat,j<=n/\i=.int .i64 j/\q=.int .i64 (k+2*(sumL L j:Nat))/\Hid (LL z 138 2 136 wr P (.slice a1 n c1) n u L (fun t=>fT (if t<j then mkT (k+2*(sumL L t:Nat)) else H t) (L t))/\qac P w wr)) (fun _ i _=>n - (intOf i).toNat)
 case atStart=>exact ⟨0,Nat.zero_le _,rfl,by simp [sumL],O.out.castZ fun i _=>by rw [if_neg (by omega)],qac.refl _ _⟩
 case round=>
  obtain ⟨j,hj,rfl,rfl,HT⟩:=hrel
  by_cases hlt:j<n
  ·have hlt':(j:Int)<(n:Int):=by omega
   obtain ⟨g1,m1,e1,-,-,ck,-⟩:=HT.out.1.cell hlt
   obtain rfl:=qa2 e1
   have how:=HT.out.1.own j hlt
   rw [if_neg (by omega)] at how
   obtain ⟨aw,m,f1⟩:=zU how
   rw [f1] at ck how
   have OW:Hid (wr.ownsRow 0 138 2 (.slice aw (L j) m) (L j) (fT (H j) (L j))):=how
   have HU:Hid (u j=.slice aw (L j) m):=f1
   have hsl:=qbw L hlt
   have hS:=HL.out
   have e1':k+2*(sumL L j:Nat)+2*(L j:Int)=k+2*(sumL L (j+1):Nat):=by simp only [sumL];omega
   have HE:Hid (k+2*(sumL L j:Nat)+2*(L j:Int)=k+2*(sumL L (j+1):Nat)):=e1'
   have e2:0<=k+2*(sumL L j:Nat):=by omega
   have e3:k+2*(sumL L j:Nat)<=100000000:=by omega
   have e4:L j<=1048576:=by omega
   clear e1' hS hsl how f1 e1
   go_wp2_with fail
   refine (qo3 (.slice aw (L j) m) (L j) 0 (H j) _ wr e4 e2 e3 OW.out).mono ?_
   rintro e w1 ⟨rfl,g1',o1⟩
   rw [HE.out]
   have HT1:Hid (LL z 138 2 136 w1 P (.slice (some ⟨g1,0,none⟩) n c1) n u L (fun t=>fT (if t<j+1 then mkT (k+2*(sumL L t:Nat)) else H t) (L t))/\qac P w w1):=by
    refine ⟨(HT.out.1.remarkZ hlt (c':=fT (mkT (k+2*(sumL L j:Nat))) (L j)) (by rw [HU.out];exact o1) fun q hq hne=>g1'.block q hq fun e=>hne (by rw [HU.out];exact e.symm)).castZ fun t ht=>?_,HT.out.2.trans (qac.of_grown g1' fun q e=>HT.out.1.ob j hlt q (by rw [HU.out];exact e))⟩
    by_cases et:t=j
    ·rw [if_pos et,if_pos (by omega),et]
    ·rw [if_neg et]
     by_cases e2:t<j
     ·rw [if_pos e2,if_pos (by omega)]
     ·rw [if_neg e2,if_neg (by omega)]
   clear HT e2 e3 e4 g1' o1 ck
   go_wp2
   go_roundw
   case rel=>exact ⟨j+1,by omega,by go_num,rfl,HT1.out⟩
   case measure=>simp [intOf];omega
  ·have hkl:j=n:=by omega
   subst hkl
   have HT1:Hid (LT z wr P (.slice a1 j c1) j u L (fun i=>mkT (k+2*(sumL L i:Nat)))/\qac P w wr):=⟨HT.out.1.castZ fun t ht=>by rw [if_pos ht],HT.out.2⟩
   clear HT
   go_wp2
   go_ret
   exact ⟨rfl,HT1.out⟩
theorem qmj (v:Value) (P:Nat->Prop) (n:Nat) (u:Nat->Value) (L:Nat->Nat) (k:Int) (w:World) (hn:n<=1048576) (hl:sumL L n<=1048576) (k0:0<=k) (k1:k<=50000000) (o:LT z w P v n u L (fun i=>mkT (k+2*(sumL L i:Nat)))):
  Calls Tryz.prog 63 #[v,.int .i64 k] w fun e w'=>e=.returned (.int .i64 (k+2*(sumL L n:Nat)))/\Below w.heap.size w w':=by
 have hl':(n:Int)<=1048576:=by omega
 obtain ⟨a1,c1,rfl⟩:=zU o.row
 have O:Hid (LT z w P (.slice a1 n c1) n u L (fun i=>mkT (k+2*(sumL L i:Nat)))):=o
 have HL:Hid (sumL L n<=1048576):=hl
 clear o hl
 go_enter Tryz.func63,Tryz.ntmps63
 go_wp2_with fail
 go_loopw [1,5] (fun q i wr=>∃ j:Nat,j<=n/\i=.int .i64 j/\q=.int .i64 (k+2*(sumL L j:Nat))/\Below w.heap.size w wr) (fun _ i _=>n - (intOf i).toNat)
 case atStart=>exact ⟨0,Nat.zero_le _,rfl,by simp [sumL],Below.refl _ _⟩
 case round=>
  obtain ⟨j,hj,rfl,rfl,hbw⟩:=hrel
  by_cases hlt:j<n
  ·have hlt':(j:Int)<(n:Int):=by omega
   have Q:=O.out.below hbw
   obtain ⟨g1,m1,e1,-,-,ck,-⟩:=Q.cell hlt
   obtain rfl:=qa2 e1
   obtain ⟨aw,m,f1⟩:=zU (Q.own j hlt)
   rw [f1] at ck
   have IT:Hid (wr.ownsRow 0 138 2 (.slice aw (L j) m) (L j) (fT (mkT (k+2*(sumL L j:Nat))) (L j))):=by have h9:=Q.own j hlt;rw [f1] at h9;exact h9
   have hsl:=qbw L hlt
   have hS:=HL.out
   have e1':k+2*(sumL L j:Nat)+2*(L j:Int)=k+2*(sumL L (j+1):Nat):=by simp only [sumL];omega
   have HE:Hid (k+2*(sumL L j:Nat)+2*(L j:Int)=k+2*(sumL L (j+1):Nat)):=e1'
   have e2:0<=k+2*(sumL L j:Nat):=by omega
   have e3:k+2*(sumL L j:Nat)<=100000000:=by omega
   have e4:L j<=1048576:=by omega
   have e5:¬ (k+2*(sumL L (j+1):Nat)<0):=by omega
   clear e1' hS hsl Q f1 e1
   go_wp2_with fail
   refine (qov (.slice aw (L j) m) (L j) 0 _ wr e4 e2 e3 IT.out).mono ?_
   rintro e w1 ⟨rfl,b1⟩
   rw [HE.out]
   have B1:Hid (Below w.heap.size w w1):=hbw.trans (b1.mono hbw.size)
   clear b1 e2 e3 e4 ck hbw
   go_wp2
   go_roundw
   case rel=>exact ⟨j+1,by omega,by go_num,rfl,B1.out⟩
   case measure=>simp [intOf];omega
  ·have hkl:j=n:=by omega
   subst hkl
   go_wp2
   go_ret
   exact ⟨rfl,hbw⟩
theorem qri (v1 v2:Value) (P1 P2:Nat->Prop) (n:Nat) (u1 u2:Nat->Value) (L:Nat->Nat) (H:Nat->Nat->I2) (w:World) (hn:n<=1048576) (hl:∀ i,i<n->L i<=1048576) (o1:LT z w P1 v1 n u1 L H) (o2:LT z w P2 v2 n u2 L H):
  Calls Tryz.prog 54 #[v1,v2] w fun e w'=>e=.returned (.bool true)/\Below w.heap.size w w':=by
 have hl':(n:Int)<=1048576:=by omega
 obtain ⟨a1,c1,rfl⟩:=zU o1.row
 obtain ⟨a2,c2,rfl⟩:=zU o2.row
 have O1:Hid (LT z w P1 (.slice a1 n c1) n u1 L H):=o1
 have O2:Hid (LT z w P2 (.slice a2 n c2) n u2 L H):=o2
 have HL:Hid (∀ i,i<n->L i<=1048576):=hl
 clear o1 o2 hl
 go_enter Tryz.func54,Tryz.ntmps54
 go_wp2_with fail
 go_loopw [5] (fun i wr=>∃ k:Nat,k<=n/\i=.int .i64 k/\Below w.heap.size w wr) (fun i _=>n - (intOf i).toNat)
 case atStart=>exact ⟨0,Nat.zero_le _,rfl,Below.refl _ _⟩
 case round=>
  obtain ⟨k,hk,rfl,hbw⟩:=hrel
  have hs:=hbw.size
  by_cases hlt:k<n
  ·have Q1:=O1.out.below hbw
   have Q2:=O2.out.below hbw
   obtain ⟨g1,k1,e1,-,-,ck,-⟩:=Q1.cell hlt
   obtain ⟨g2,k2,e2,-,-,dk,-⟩:=Q2.cell hlt
   obtain rfl:=qa2 e1
   obtain rfl:=qa2 e2
   obtain ⟨p1,m1,f1⟩:=zU (Q1.own k hlt)
   obtain ⟨p2,m2,f2⟩:=zU (Q2.own k hlt)
   have HC:Hid (Calls Tryz.prog 104 #[.slice p1 (L k) m1,.slice p2 (L k) m2] wr.drew fun e w'=>e=.returned (.bool true)/\Below wr.drew.heap.size wr.drew w'):=by
    have d:=(Below.refl wr.heap.size wr).drew
    have h:=qs0 (HL.out k hlt) ((Q1.below d).own k hlt) ((Q2.below d).own k hlt)
    rw [f1,f2] at h
    exact h
   rw [f1] at ck
   rw [f2] at dk
   have hlt':(k:Int)<(n:Int):=by omega
   clear Q1 Q2 e1 e2 f1 f2
   go_wp2_with fail
   first|(go_region_with (go_at_call 104;refine HC.out.mono ?_;rintro e w1 ⟨rfl,hq1⟩)) | fail
   all_goals
    go_wp2
    go_roundw
    case rel=>exact ⟨k+1,by omega,by go_num,hbw.drew.trans (hq1.mono hs)⟩
    case measure=>simp [intOf];omega
  ·go_wp2
   go_ret
   exact ⟨rfl,hbw⟩
theorem qmr (u:Value) (n B:Nat) (h:Nat->E3) (k:Int) (w:World) (hlen:n<=1048576) (k0:0<=k) (k1:k<=100000000) (o:w.ownsRow B 74 3 u n (fE h n)):
  Calls Tryz.prog 108 #[u,.int .i64 k] w fun e w'=>e=.returned (.int .i64 (k+3*n))/\w.grownBy w' u.ownBlock/\w'.ownsRow B 74 3 u n (fE (mkEv k) n):=by
 by_cases hu:u=.slice none 0 0
 ·subst hu
  rcases o.2 with ⟨-,h0⟩ | ⟨g,cap,cur,e,-⟩
  ·subst h0
   refine (qix k w).mono ?_
   rintro e w' ⟨rfl,hb⟩
   exact ⟨by simp,zZ hb,⟨rfl,.inl ⟨rfl,rfl⟩⟩⟩
  ·cases e
 ·obtain ⟨b,m,rfl,-,-,-⟩:=atE o hu
  exact qiy b n m B h k w hlen k0 k1 o
theorem qmh (u:Value) (n B:Nat) (k:Int) (w:World) (hlen:n<=1048576) (k0:0<=k) (k1:k<=100000000) (o:w.ownsRow B 74 3 u n (fE (mkEv k) n)):
  Calls Tryz.prog 111 #[u,.int .i64 k] w fun e w'=>e=.returned (.int .i64 (k+3*n))/\Below w.heap.size w w':=by
 by_cases hu:u=.slice none 0 0
 ·subst hu
  rcases o.2 with ⟨-,h0⟩ | ⟨g,cap,cur,e,-⟩
  ·subst h0
   refine (qio k w).mono ?_
   rintro e w' ⟨rfl,hb⟩
   exact ⟨by simp,hb⟩
  ·cases e
 ·obtain ⟨b,m,rfl,lb,it,-⟩:=atE o hu
  exact qip b n m k w hlen k0 k1 lb it
theorem qjx (b m:Nat) (w:World):Calls Tryz.prog 105 #[.slice none 0 0,.slice (some ⟨b,0,none⟩) 0 m] w fun e w'=>e=.returned (.bool true)/\Below w.heap.size w w':=by
 go_enter Tryz.func105,Tryz.ntmps105
 go_wp2_with fail
 go_loopw [5] (fun i wr=>i=.int .i64 0/\Below w.heap.size w wr) (fun _ _=>0)
 case atStart=>exact ⟨rfl,Below.refl _ _⟩
 case round=>
  obtain ⟨rfl,hbw⟩:=hrel
  go_wp2
  go_ret
  exact ⟨rfl,hbw⟩
theorem qrg {B1 B2 n:Nat} {u1 u2:Value} {g:Nat->E3} {w:World} (hn:n<=1048576) (o1:w.ownsRow B1 74 3 u1 n (fE g n)) (o2:w.ownsRow B2 74 3 u2 n (fE g n)):
  Calls Tryz.prog 105 #[u1,u2] w fun e w'=>e=.returned (.bool true)/\Below w.heap.size w w':=by
 by_cases h1:u1=.slice none 0 0
 ·subst h1
  rcases o1.2 with ⟨-,h0⟩ | ⟨g,cap,cur,e,-⟩
  ·subst h0
   by_cases h2:u2=.slice none 0 0
   ·subst h2
    exact ql4 w
   ·obtain ⟨b2,m2,rfl,-,-,-⟩:=atE o2 h2
    exact qjx b2 m2 w
  ·cases e
 ·exact ql5 hn o1 h1 o2
theorem qki (v:Value) (P:Nat->Prop) (n:Nat) (u:Nat->Value) (L:Nat->Nat) (H:Nat->Nat->E3) (k:Int) (w:World) (hn:n<=1048576) (hl:sumL L n<=1048576) (k0:0<=k) (k1:k<=50000000) (o:LE z w P v n u L H):
  Calls Tryz.prog 60 #[v,.int .i64 k] w fun e w'=>e=.returned (.int .i64 (k+3*(sumL L n:Nat)))/\LE z w' P v n u L (fun i=>mkEv (k+3*(sumL L i:Nat)))/\qac P w w':=by
 have hl':(n:Int)<=1048576:=by omega
 obtain ⟨a1,c1,rfl⟩:=zU o.row
 have O:Hid (LE z w P (.slice a1 n c1) n u L H):=o
 have HL:Hid (sumL L n<=1048576):=hl
 clear o hl
 go_enter Tryz.func60,Tryz.ntmps60
 go_wp2_with fail
 go_loopw [1,5] (fun q i wr=>∃ j:Nat,j<=n/\i=.int .i64 j/\q=.int .i64 (k+3*(sumL L j:Nat))/\Hid (LL z 74 3 75 wr P (.slice a1 n c1) n u L (fun t=>fE (if t<j then mkEv (k+3*(sumL L t:Nat)) else H t) (L t))/\qac P w wr)) (fun _ i _=>n - (intOf i).toNat)
 case atStart=>exact ⟨0,Nat.zero_le _,rfl,by simp [sumL],O.out.castZ fun i _=>by rw [if_neg (by omega)],qac.refl _ _⟩
 case round=>
  obtain ⟨j,hj,rfl,rfl,HT⟩:=hrel
  by_cases hlt:j<n
  ·have hlt':(j:Int)<(n:Int):=by omega
   obtain ⟨g1,m1,e1,-,-,ck,-⟩:=HT.out.1.cell hlt
   obtain rfl:=qa2 e1
   have how:=HT.out.1.own j hlt
   rw [if_neg (by omega)] at how
   obtain ⟨aw,m,f1⟩:=zU how
   rw [f1] at ck how
   have OW:Hid (wr.ownsRow 0 74 3 (.slice aw (L j) m) (L j) (fE (H j) (L j))):=how
   have HU:Hid (u j=.slice aw (L j) m):=f1
   have hsl:=qbw L hlt
   have hS:=HL.out
   have e1':k+3*(sumL L j:Nat)+3*(L j:Int)=k+3*(sumL L (j+1):Nat):=by simp only [sumL];omega
   have HE:Hid (k+3*(sumL L j:Nat)+3*(L j:Int)=k+3*(sumL L (j+1):Nat)):=e1'
   have e2:0<=k+3*(sumL L j:Nat):=by omega
   have e3:k+3*(sumL L j:Nat)<=100000000:=by omega
   have e4:L j<=1048576:=by omega
   clear e1' hS hsl how f1 e1
   go_wp2_with fail
   refine (qmr (.slice aw (L j) m) (L j) 0 (H j) _ wr e4 e2 e3 OW.out).mono ?_
   rintro e w1 ⟨rfl,g1',o1⟩
   rw [HE.out]
   have HT1:Hid (LL z 74 3 75 w1 P (.slice (some ⟨g1,0,none⟩) n c1) n u L (fun t=>fE (if t<j+1 then mkEv (k+3*(sumL L t:Nat)) else H t) (L t))/\qac P w w1):=by
    refine ⟨(HT.out.1.remarkZ hlt (c':=fE (mkEv (k+3*(sumL L j:Nat))) (L j)) (by rw [HU.out];exact o1) fun q hq hne=>g1'.block q hq fun e=>hne (by rw [HU.out];exact e.symm)).castZ fun t ht=>?_,HT.out.2.trans (qac.of_grown g1' fun q e=>HT.out.1.ob j hlt q (by rw [HU.out];exact e))⟩
    by_cases et:t=j
    ·rw [if_pos et,if_pos (by omega),et]
    ·rw [if_neg et]
     by_cases e2:t<j
     ·rw [if_pos e2,if_pos (by omega)]
     ·rw [if_neg e2,if_neg (by omega)]
   clear HT e2 e3 e4 g1' o1 ck
   go_wp2
   go_roundw
   case rel=>exact ⟨j+1,by omega,by go_num,rfl,HT1.out⟩
   case measure=>simp [intOf];omega
  ·have hkl:j=n:=by omega
   subst hkl
   have HT1:Hid (LE z wr P (.slice a1 j c1) j u L (fun i=>mkEv (k+3*(sumL L i:Nat)))/\qac P w wr):=⟨HT.out.1.castZ fun t ht=>by rw [if_pos ht],HT.out.2⟩
   clear HT
   go_wp2
   go_ret
   exact ⟨rfl,HT1.out⟩
theorem qj4 (v:Value) (P:Nat->Prop) (n:Nat) (u:Nat->Value) (L:Nat->Nat) (k:Int) (w:World) (hn:n<=1048576) (hl:sumL L n<=1048576) (k0:0<=k) (k1:k<=50000000) (o:LE z w P v n u L (fun i=>mkEv (k+3*(sumL L i:Nat)))):
  Calls Tryz.prog 64 #[v,.int .i64 k] w fun e w'=>e=.returned (.int .i64 (k+3*(sumL L n:Nat)))/\Below w.heap.size w w':=by
 have hl':(n:Int)<=1048576:=by omega
 obtain ⟨a1,c1,rfl⟩:=zU o.row
 have O:Hid (LE z w P (.slice a1 n c1) n u L (fun i=>mkEv (k+3*(sumL L i:Nat)))):=o
 have HL:Hid (sumL L n<=1048576):=hl
 clear o hl
 go_enter Tryz.func64,Tryz.ntmps64
 go_wp2_with fail
 go_loopw [1,5] (fun q i wr=>∃ j:Nat,j<=n/\i=.int .i64 j/\q=.int .i64 (k+3*(sumL L j:Nat))/\Below w.heap.size w wr) (fun _ i _=>n - (intOf i).toNat)
 case atStart=>exact ⟨0,Nat.zero_le _,rfl,by simp [sumL],Below.refl _ _⟩
 case round=>
  obtain ⟨j,hj,rfl,rfl,hbw⟩:=hrel
  by_cases hlt:j<n
  ·have hlt':(j:Int)<(n:Int):=by omega
   have Q:=O.out.below hbw
   obtain ⟨g1,m1,e1,-,-,ck,-⟩:=Q.cell hlt
   obtain rfl:=qa2 e1
   obtain ⟨aw,m,f1⟩:=zU (Q.own j hlt)
   rw [f1] at ck
   have IT:Hid (wr.ownsRow 0 74 3 (.slice aw (L j) m) (L j) (fE (mkEv (k+3*(sumL L j:Nat))) (L j))):=by have h9:=Q.own j hlt;rw [f1] at h9;exact h9
   have hsl:=qbw L hlt
   have hS:=HL.out
   have e1':k+3*(sumL L j:Nat)+3*(L j:Int)=k+3*(sumL L (j+1):Nat):=by simp only [sumL];omega
   have HE:Hid (k+3*(sumL L j:Nat)+3*(L j:Int)=k+3*(sumL L (j+1):Nat)):=e1'
   have e2:0<=k+3*(sumL L j:Nat):=by omega
   have e3:k+3*(sumL L j:Nat)<=100000000:=by omega
   have e4:L j<=1048576:=by omega
   have e5:¬ (k+3*(sumL L (j+1):Nat)<0):=by omega
   clear e1' hS hsl Q f1 e1
   go_wp2_with fail
   refine (qmh (.slice aw (L j) m) (L j) 0 _ wr e4 e2 e3 IT.out).mono ?_
   rintro e w1 ⟨rfl,b1⟩
   rw [HE.out]
   have B1:Hid (Below w.heap.size w w1):=hbw.trans (b1.mono hbw.size)
   clear b1 e2 e3 e4 ck hbw
   go_wp2
   go_roundw
   case rel=>exact ⟨j+1,by omega,by go_num,rfl,B1.out⟩
   case measure=>simp [intOf];omega
  ·have hkl:j=n:=by omega
   subst hkl
   go_wp2
   go_ret
   exact ⟨rfl,hbw⟩
theorem qom (v1 v2:Value) (P1 P2:Nat->Prop) (n:Nat) (u1 u2:Nat->Value) (L:Nat->Nat) (H:Nat->Nat->E3) (w:World) (hn:n<=1048576) (hl:∀ i,i<n->L i<=1048576) (o1:LE z w P1 v1 n u1 L H) (o2:LE z w P2 v2 n u2 L H):
  Calls Tryz.prog 55 #[v1,v2] w fun e w'=>e=.returned (.bool true)/\Below w.heap.size w w':=by
 have hl':(n:Int)<=1048576:=by omega
 obtain ⟨a1,c1,rfl⟩:=zU o1.row
 obtain ⟨a2,c2,rfl⟩:=zU o2.row
 have O1:Hid (LE z w P1 (.slice a1 n c1) n u1 L H):=o1
 have O2:Hid (LE z w P2 (.slice a2 n c2) n u2 L H):=o2
 have HL:Hid (∀ i,i<n->L i<=1048576):=hl
 clear o1 o2 hl
 go_enter Tryz.func55,Tryz.ntmps55
 go_wp2_with fail
 go_loopw [5] (fun i wr=>∃ k:Nat,k<=n/\i=.int .i64 k/\Below w.heap.size w wr) (fun i _=>n - (intOf i).toNat)
 case atStart=>exact ⟨0,Nat.zero_le _,rfl,Below.refl _ _⟩
 case round=>
  obtain ⟨k,hk,rfl,hbw⟩:=hrel
  have hs:=hbw.size
  by_cases hlt:k<n
  ·have Q1:=O1.out.below hbw
   have Q2:=O2.out.below hbw
   obtain ⟨g1,k1,e1,-,-,ck,-⟩:=Q1.cell hlt
   obtain ⟨g2,k2,e2,-,-,dk,-⟩:=Q2.cell hlt
   obtain rfl:=qa2 e1
   obtain rfl:=qa2 e2
   obtain ⟨p1,m1,f1⟩:=zU (Q1.own k hlt)
   obtain ⟨p2,m2,f2⟩:=zU (Q2.own k hlt)
   have HC:Hid (Calls Tryz.prog 105 #[.slice p1 (L k) m1,.slice p2 (L k) m2] wr.drew fun e w'=>e=.returned (.bool true)/\Below wr.drew.heap.size wr.drew w'):=by
    have d:=(Below.refl wr.heap.size wr).drew
    have h:=qrg (HL.out k hlt) ((Q1.below d).own k hlt) ((Q2.below d).own k hlt)
    rw [f1,f2] at h
    exact h
   rw [f1] at ck
   rw [f2] at dk
   have hlt':(k:Int)<(n:Int):=by omega
   clear Q1 Q2 e1 e2 f1 f2
   go_wp2_with fail
   first|(go_region_with (go_at_call 105;refine HC.out.mono ?_;rintro e w1 ⟨rfl,hq1⟩)) | fail
   all_goals
    go_wp2
    go_roundw
    case rel=>exact ⟨k+1,by omega,by go_num,hbw.drew.trans (hq1.mono hs)⟩
    case measure=>simp [intOf];omega
  ·go_wp2
   go_ret
   exact ⟨rfl,hbw⟩
theorem qor (y:Sy) (B1 B2:Nat) (v1 v2:Value) (w:World) (hl:y.Len) (o1:qbg z w B1 y v1) (o2:qbg z w B2 y v2):
  Calls Tryz.prog 15 #[v1,v2] w fun e w'=>e=.returned (.bool true)/\Below w.heap.size w w':=by
 obtain ⟨c,vp,vs,vw,vh,up,us,uw,uh,rfl,o1⟩:=o1
 obtain ⟨d,xp,xs,xw,xh,tp,ts,tw,th,rfl,o2⟩:=o2
 obtain ⟨a1,c1,rfl⟩:=zU o1.p.row
 obtain ⟨a2,c2,rfl⟩:=zU o1.s.row
 obtain ⟨a3,c3,rfl⟩:=zU o1.t.row
 obtain ⟨a4,c4,rfl⟩:=zU o1.h.row
 obtain ⟨e1,d1,rfl⟩:=zU o2.p.row
 obtain ⟨e2,d2,rfl⟩:=zU o2.s.row
 obtain ⟨e3,d3,rfl⟩:=zU o2.t.row
 obtain ⟨e4,d4,rfl⟩:=zU o2.h.row
 have HL:Hid y.Len:=hl
 have O1:Hid (OwnS z w B1 c y (.slice a1 y.pn c1) (.slice a2 y.sn c2) (.slice a3 y.wn c3) (.slice a4 y.hn c4) up us uw uh):=o1
 have O2:Hid (OwnS z w B2 d y (.slice e1 y.pn d1) (.slice e2 y.sn d2) (.slice e3 y.wn d3) (.slice e4 y.hn d4) tp ts tw th):=o2
 have BW:Hid (Below w.heap.size w ((w.alloc (oQ4 a1 y.pn c1 a2 y.sn c2 a3 y.wn c3 a4 y.hn c4)).alloc (oQ4 e1 y.pn d1 e2 y.sn d2 e3 y.wn d3 e4 y.hn d4))):=(zQ _ _).trans ((zQ _ _).mono (by simp))
 have NA:Hid (BoxC ((w.alloc (oQ4 a1 y.pn c1 a2 y.sn c2 a3 y.wn c3 a4 y.hn c4)).alloc (oQ4 e1 y.pn d1 e2 y.sn d2 e3 y.wn d3 e4 y.hn d4)) w.heap.size (.slice a1 y.pn c1) (.slice a2 y.sn c2) (.slice a3 y.wn c3) (.slice a4 y.hn c4)):=(BoxC.new w _ _ _ _ _).below (zQ _ _)
 have NB:Hid (BoxC ((w.alloc (oQ4 a1 y.pn c1 a2 y.sn c2 a3 y.wn c3 a4 y.hn c4)).alloc (oQ4 e1 y.pn d1 e2 y.sn d2 e3 y.wn d3 e4 y.hn d4)) (w.heap.size+1) (.slice e1 y.pn d1) (.slice e2 y.sn d2) (.slice e3 y.wn d3) (.slice e4 y.hn d4)):=⟨zW _ _ _ 0 (by simp),zW _ _ _ 1 (by simp),zW _ _ _ 2 (by simp),zW _ _ _ 3 (by simp)⟩
 clear o1 o2 hl
 go_enter Tryz.func15,Tryz.ntmps15
 go_wp2_with fail
 generalize (w.alloc (oQ4 a1 y.pn c1 a2 y.sn c2 a3 y.wn c3 a4 y.hn c4)).alloc (oQ4 e1 y.pn d1 e2 y.sn d2 e3 y.wn d3 e4 y.hn d4)=wA at *
 refine (qon _ _ _ _ y.pn up tp y.pL y.pH wA HL.out.p.1 HL.out.p.2 (LI.strong (O1.out.p.below BW.out)) (LI.strong (O2.out.p.below BW.out))).mono ?_
 rintro e w1 ⟨rfl,b1⟩
 have F1:Hid (Below w.heap.size w w1/\BoxC w1 w.heap.size (.slice a1 y.pn c1) (.slice a2 y.sn c2) (.slice a3 y.wn c3) (.slice a4 y.hn c4)/\BoxC w1 (w.heap.size+1) (.slice e1 y.pn d1) (.slice e2 y.sn d2) (.slice e3 y.wn d3) (.slice e4 y.hn d4)):=⟨BW.out.trans (b1.mono BW.out.size),NA.out.below b1,NB.out.below b1⟩
 clear b1 BW NA NB
 obtain ⟨-,⟨p0,p1,p2,p3⟩,⟨q0,q1,q2,q3⟩⟩:=F1.out
 go_wp2_with fail
 clear p0 p1 p2 p3 q0 q1 q2 q3
 refine (qma _ _ _ _ y.sn us ts y.sS w1 HL.out.s.1 HL.out.s.2 (O1.out.s.below F1.out.1) (O2.out.s.below F1.out.1)).mono ?_
 rintro e w2 ⟨rfl,b2⟩
 have F2:Hid (Below w.heap.size w w2/\BoxC w2 w.heap.size (.slice a1 y.pn c1) (.slice a2 y.sn c2) (.slice a3 y.wn c3) (.slice a4 y.hn c4)/\BoxC w2 (w.heap.size+1) (.slice e1 y.pn d1) (.slice e2 y.sn d2) (.slice e3 y.wn d3) (.slice e4 y.hn d4)):=⟨F1.out.1.trans (b2.mono F1.out.1.size),F1.out.2.1.below b2,F1.out.2.2.below b2⟩
 clear b2 F1
 obtain ⟨-,⟨p0,p1,p2,p3⟩,⟨q0,q1,q2,q3⟩⟩:=F2.out
 go_wp2_with fail
 clear p0 p1 p2 p3 q0 q1 q2 q3
 refine (qri _ _ _ _ y.wn uw tw y.wL y.wH w2 HL.out.w.1 HL.out.w.2 (O1.out.t.below F2.out.1) (O2.out.t.below F2.out.1)).mono ?_
 rintro e w3 ⟨rfl,b3⟩
 have F3:Hid (Below w.heap.size w w3/\BoxC w3 w.heap.size (.slice a1 y.pn c1) (.slice a2 y.sn c2) (.slice a3 y.wn c3) (.slice a4 y.hn c4)/\BoxC w3 (w.heap.size+1) (.slice e1 y.pn d1) (.slice e2 y.sn d2) (.slice e3 y.wn d3) (.slice e4 y.hn d4)):=⟨F2.out.1.trans (b3.mono F2.out.1.size),F2.out.2.1.below b3,F2.out.2.2.below b3⟩
 clear b3 F2
 obtain ⟨-,⟨p0,p1,p2,p3⟩,⟨q0,q1,q2,q3⟩⟩:=F3.out
 go_wp2_with fail
 clear p0 p1 p2 p3 q0 q1 q2 q3
 refine (qom _ _ _ _ y.hn uh th y.hL y.hH w3 HL.out.h.1 HL.out.h.2 (O1.out.h.below F3.out.1) (O2.out.h.below F3.out.1)).mono ?_
 rintro e w4 ⟨rfl,b4⟩
 have F4:Hid (Below w.heap.size w w4):=F3.out.1.trans (b4.mono F3.out.1.size)
 clear b4 F3
 go_wp2
 go_ret
 exact ⟨rfl,F4.out⟩
theorem LI.weak {w:World} {P:Nat->Prop} {v:Value} {n:Nat} {u:Nat->Value} {L:Nat->Nat} {H:Nat->Nat->I5} (o:LI true w P v n u L H):LI false w P v n u L H:=⟨o.row,o.own,o.rb,o.ob,o.ra,o.oa,fun _=>o.nn (.inr rfl)⟩
theorem qtu (y:Sy) (B T:Nat) (vp vs vw vh:Value) (w:World) (hS:y.Sums) (hB:B<=w.heap.size) (o:OwnZ w B T y vp vs vw vh):
  Calls Tryz.prog 17 #[.agg #[vp,vs,vw,vh],.int .i64 1] w fun e w'=>e=.returned (.int .i64 (mkZ5 y 1))/\OwnZ w' B T (mkY y 1) vp vs vw vh/\qac (fun b=>B<=b/\b<T) w w':=by
 obtain ⟨c,up,us,uw,uh,o,hT⟩:=o
 have HT:Hid (∀ b,T<=b->rcol c w.heap.size 0 b=0):=fun b hb=>by
  unfold rcol
  split
  ·exact hT b hb
  ·rfl
 have HC : Hid (∀ i, i ≠ 0 → ∀ b, Cl B (rcol c w.heap.size 0) i b → B ≤ b ∧ b < T) := fun i hi b hb => ⟨hb.1, by
  rcases Nat.lt_or_ge b T with h | h
  ·exact h
  ·exact absurd (hb.2.symm.trans (HT.out b h)) hi⟩
 obtain ⟨a1,c1,rfl⟩:=zU o.p.row
 obtain ⟨a2,c2,rfl⟩:=zU o.s.row
 obtain ⟨a3,c3,rfl⟩:=zU o.t.row
 obtain ⟨a4,c4,rfl⟩:=zU o.h.row
 have HS:Hid y.Sums:=hS
 have HB:Hid (B<=w.heap.size):=hB
 have ba:=zQ w (oQ4 a1 y.pn c1 a2 y.sn c2 a3 y.wn c3 a4 y.hn c4)
 have o0:OwnS false w B (rcol c w.heap.size 0) y (.slice a1 y.pn c1) (.slice a2 y.sn c2) (.slice a3 y.wn c3) (.slice a4 y.hn c4) up us uw uh:=⟨o.p.mono fun _ h hl=>h.old hl,o.s.mono fun _ h hl=>h.old hl,o.t.mono fun _ h hl=>h.old hl,o.h.mono fun _ h hl=>h.old hl⟩
 have OA:Hid (OwnS false (w.alloc (oQ4 a1 y.pn c1 a2 y.sn c2 a3 y.wn c3 a4 y.hn c4)) B (rcol c w.heap.size 0) y (.slice a1 y.pn c1) (.slice a2 y.sn c2) (.slice a3 y.wn c3) (.slice a4 y.hn c4) up us uw uh):=⟨o0.p.below ba,o0.s.below ba,o0.t.below ba,o0.h.below ba⟩
 have NA:Hid (BoxC (w.alloc (oQ4 a1 y.pn c1 a2 y.sn c2 a3 y.wn c3 a4 y.hn c4)) w.heap.size (.slice a1 y.pn c1) (.slice a2 y.sn c2) (.slice a3 y.wn c3) (.slice a4 y.hn c4)):=BoxC.new w _ _ _ _ _
 have BA:Hid (qac (fun b=>B<=b/\b<T) w (w.alloc (oQ4 a1 y.pn c1 a2 y.sn c2 a3 y.wn c3 a4 y.hn c4))):=qac.of_below ba
 have HM:Hid (∀ i k,Cl B (rcol c w.heap.size 0) i k->i≠0->k<w.heap.size):=fun i k h hi=>by
  rcases Nat.lt_or_ge k w.heap.size with h1 | h1
  ·exact h1
  ·exact absurd (h.2.symm.trans (qah h1)) hi
 have hz:=qtv hS
 have HZ:Hid ((0<=mkZ2 y 1/\mkZ2 y 1<=6000000)/\(0<=mkZ3 y 1/\mkZ3 y 1<=12000000)/\(0<=mkZ4 y 1/\mkZ4 y 1<=18000000)/\(0<=mkZ5 y 1/\mkZ5 y 1<=24000000)):=hz
 clear o o0 hS hB ba hz hT
 go_enter Tryz.func17,Tryz.ntmps17
 go_wp2_with fail
 generalize w.alloc (oQ4 a1 y.pn c1 a2 y.sn c2 a3 y.wn c3 a4 y.hn c4)=wA at *
 refine (qkk _ _ y.pn up y.pL y.pH 1 wA HS.out.p.1 HS.out.p.2 (by omega) (by omega) (LI.strong OA.out.p)).mono ?_
 rintro e w1 ⟨rfl,q1,t1⟩
 have K1:Hid (∀ i,i≠1->∀ k,Cl B (rcol c w.heap.size 0) i k->k<wA.heap.size->w1.heap[k]? = wA.heap[k]?):=fun i hi k hk hl=>t1.block k hl fun h=>hi (hk.2.symm.trans h.2)
 have F1:Hid (LI false w1 (Cl B (rcol c w.heap.size 0) 1) (.slice a1 y.pn c1) y.pn up y.pL (mkY y 1).pH/\LS w1 (Cl B (rcol c w.heap.size 0) 2) (.slice a2 y.sn c2) y.sn us y.sS/\LT false w1 (Cl B (rcol c w.heap.size 0) 3) (.slice a3 y.wn c3) y.wn uw y.wL y.wH/\LE false w1 (Cl B (rcol c w.heap.size 0) 4) (.slice a4 y.hn c4) y.hn uh y.hL y.hH):=⟨LI.weak q1,OA.out.s.keep (K1.out 2 (by decide)),OA.out.t.keep (K1.out 3 (by decide)),OA.out.h.keep (K1.out 4 (by decide))⟩
 have hm1:w1.heap[w.heap.size]? = wA.heap[w.heap.size]?:=t1.block _ (zJ _ _ NA.out.1) fun h=>Nat.lt_irrefl _ (HM.out 1 _ h (by decide))
 have G1:Hid (qac (fun b=>B<=b/\b<T) w w1/\BoxC w1 w.heap.size (.slice a1 y.pn c1) (.slice a2 y.sn c2) (.slice a3 y.wn c3) (.slice a4 y.hn c4)):=⟨BA.out.trans (t1.mono (HC.out 1 (by decide))),⟨(zH hm1).trans NA.out.1,(zH hm1).trans NA.out.2.1,(zH hm1).trans NA.out.2.2.1,(zH hm1).trans NA.out.2.2.2⟩⟩
 clear hm1
 rw [show (1:Int)+5*(sumL y.pL y.pn:Nat)=mkZ2 y 1 from rfl]
 clear t1 q1 OA NA BA K1
 obtain ⟨-,p0,p1,p2,p3⟩:=G1.out
 go_wp2_with fail
 clear p0 p1 p2 p3
 refine (qi1 _ _ y.sn us y.sS (mkZ2 y 1) w1 HS.out.s.1 HS.out.s.2 HZ.out.1.1 (by have:=HZ.out;omega) F1.out.2.1).mono ?_
 rintro e w2 ⟨rfl,⟨ts,q2⟩,t2⟩
 have K2:Hid (∀ i,i≠2->∀ k,Cl B (rcol c w.heap.size 0) i k->k<w1.heap.size->w2.heap[k]? = w1.heap[k]?):=fun i hi k hk hl=>t2.block k hl fun h=>hi (hk.2.symm.trans h.2)
 have F2:Hid (LI false w2 (Cl B (rcol c w.heap.size 0) 1) (.slice a1 y.pn c1) y.pn up y.pL (mkY y 1).pH/\LS w2 (Cl B (rcol c w.heap.size 0) 2) (.slice a2 y.sn c2) y.sn ts (mkY y 1).sS/\LT false w2 (Cl B (rcol c w.heap.size 0) 3) (.slice a3 y.wn c3) y.wn uw y.wL y.wH/\LE false w2 (Cl B (rcol c w.heap.size 0) 4) (.slice a4 y.hn c4) y.hn uh y.hL y.hH):=⟨F1.out.1.keep (K2.out 1 (by decide)),q2,F1.out.2.2.1.keep (K2.out 3 (by decide)),F1.out.2.2.2.keep (K2.out 4 (by decide))⟩
 have hm2:w2.heap[w.heap.size]? = w1.heap[w.heap.size]?:=t2.block _ (zJ _ _ G1.out.2.1) fun h=>Nat.lt_irrefl _ (HM.out 2 _ h (by decide))
 have G2:Hid (qac (fun b=>B<=b/\b<T) w w2/\BoxC w2 w.heap.size (.slice a1 y.pn c1) (.slice a2 y.sn c2) (.slice a3 y.wn c3) (.slice a4 y.hn c4)):=⟨G1.out.1.trans (t2.mono (HC.out 2 (by decide))),⟨(zH hm2).trans G1.out.2.1,(zH hm2).trans G1.out.2.2.1,(zH hm2).trans G1.out.2.2.2.1,(zH hm2).trans G1.out.2.2.2.2⟩⟩
 clear hm2
 rw [show mkZ2 y 1+(2*y.sn+sumL (lenS y.sS) y.sn:Nat)=mkZ3 y 1 from rfl]
 clear t2 q2 F1 G1 K2
 obtain ⟨-,p0,p1,p2,p3⟩:=G2.out
 go_wp2_with fail
 clear p0 p1 p2 p3
 refine (qmu _ _ y.wn uw y.wL y.wH (mkZ3 y 1) w2 HS.out.w.1 HS.out.w.2 HZ.out.2.1.1 (by have:=HZ.out;omega) F2.out.2.2.1).mono ?_
 rintro e w3 ⟨rfl,q3,t3⟩
 have K3:Hid (∀ i,i≠3->∀ k,Cl B (rcol c w.heap.size 0) i k->k<w2.heap.size->w3.heap[k]? = w2.heap[k]?):=fun i hi k hk hl=>t3.block k hl fun h=>hi (hk.2.symm.trans h.2)
 have F3:Hid (LI false w3 (Cl B (rcol c w.heap.size 0) 1) (.slice a1 y.pn c1) y.pn up y.pL (mkY y 1).pH/\LS w3 (Cl B (rcol c w.heap.size 0) 2) (.slice a2 y.sn c2) y.sn ts (mkY y 1).sS/\LT false w3 (Cl B (rcol c w.heap.size 0) 3) (.slice a3 y.wn c3) y.wn uw y.wL (mkY y 1).wH/\LE false w3 (Cl B (rcol c w.heap.size 0) 4) (.slice a4 y.hn c4) y.hn uh y.hL y.hH):=⟨F2.out.1.keep (K3.out 1 (by decide)),F2.out.2.1.keep (K3.out 2 (by decide)),q3,F2.out.2.2.2.keep (K3.out 4 (by decide))⟩
 have hm3:w3.heap[w.heap.size]? = w2.heap[w.heap.size]?:=t3.block _ (zJ _ _ G2.out.2.1) fun h=>Nat.lt_irrefl _ (HM.out 3 _ h (by decide))
 have G3:Hid (qac (fun b=>B<=b/\b<T) w w3/\BoxC w3 w.heap.size (.slice a1 y.pn c1) (.slice a2 y.sn c2) (.slice a3 y.wn c3) (.slice a4 y.hn c4)):=⟨G2.out.1.trans (t3.mono (HC.out 3 (by decide))),⟨(zH hm3).trans G2.out.2.1,(zH hm3).trans G2.out.2.2.1,(zH hm3).trans G2.out.2.2.2.1,(zH hm3).trans G2.out.2.2.2.2⟩⟩
 clear hm3
 rw [show mkZ3 y 1+2*(sumL y.wL y.wn:Nat)=mkZ4 y 1 from rfl]
 clear t3 q3 F2 G2 K3
 obtain ⟨-,p0,p1,p2,p3⟩:=G3.out
 go_wp2_with fail
 clear p0 p1 p2 p3
 refine (qki _ _ y.hn uh y.hL y.hH (mkZ4 y 1) w3 HS.out.h.1 HS.out.h.2 HZ.out.2.2.1.1 (by have:=HZ.out;omega) F3.out.2.2.2).mono ?_
 rintro e w4 ⟨rfl,q4,t4⟩
 have K4:Hid (∀ i,i≠4->∀ k,Cl B (rcol c w.heap.size 0) i k->k<w3.heap.size->w4.heap[k]? = w3.heap[k]?):=fun i hi k hk hl=>t4.block k hl fun h=>hi (hk.2.symm.trans h.2)
 have F4:Hid (OwnZ w4 B T (mkY y 1) (.slice a1 y.pn c1) (.slice a2 y.sn c2) (.slice a3 y.wn c3) (.slice a4 y.hn c4)):=⟨_,up,ts,uw,uh,⟨F3.out.1.keep (K4.out 1 (by decide)),F3.out.2.1.keep (K4.out 2 (by decide)),F3.out.2.2.1.keep (K4.out 3 (by decide)),q4⟩,HT.out⟩
 have hm4:w4.heap[w.heap.size]? = w3.heap[w.heap.size]?:=t4.block _ (zJ _ _ G3.out.2.1) fun h=>Nat.lt_irrefl _ (HM.out 4 _ h (by decide))
 have G4:Hid (qac (fun b=>B<=b/\b<T) w w4/\BoxC w4 w.heap.size (.slice a1 y.pn c1) (.slice a2 y.sn c2) (.slice a3 y.wn c3) (.slice a4 y.hn c4)):=⟨G3.out.1.trans (t4.mono (HC.out 4 (by decide))),⟨(zH hm4).trans G3.out.2.1,(zH hm4).trans G3.out.2.2.1,(zH hm4).trans G3.out.2.2.2.1,(zH hm4).trans G3.out.2.2.2.2⟩⟩
 clear hm4
 rw [show mkZ4 y 1+3*(sumL y.hL y.hn:Nat)=mkZ5 y 1 from rfl]
 clear t4 q4 F3 G3 K4
 go_wp2
 go_ret
 exact ⟨rfl,F4.out,G4.out.1⟩
theorem qmk (y:Sy) (B:Nat) (v:Value) (w:World) (hS:y.Sums) (o:qbg false w B (mkY y 1) v):
  Calls Tryz.prog 19 #[v,.int .i64 1] w fun e w'=>e=.returned (.int .i64 (mkZ5 y 1))/\Below w.heap.size w w':=by
 obtain ⟨c,vp,vs,vw,vh,up,us,uw,uh,rfl,o⟩:=o
 obtain ⟨a1,c1,rfl⟩:=zU o.p.row
 obtain ⟨a2,c2,rfl⟩:=zU o.s.row
 obtain ⟨a3,c3,rfl⟩:=zU o.t.row
 obtain ⟨a4,c4,rfl⟩:=zU o.h.row
 have HS:Hid y.Sums:=hS
 have O:Hid (LI false w (Cl B c 1) (.slice a1 y.pn c1) y.pn up y.pL (mkY y 1).pH/\LS w (Cl B c 2) (.slice a2 y.sn c2) y.sn us (mkY y 1).sS/\LT false w (Cl B c 3) (.slice a3 y.wn c3) y.wn uw y.wL (mkY y 1).wH/\LE false w (Cl B c 4) (.slice a4 y.hn c4) y.hn uh y.hL (mkY y 1).hH):=⟨o.p,o.s,o.t,o.h⟩
 have BA:Hid (Below w.heap.size w (w.alloc (oQ4 a1 y.pn c1 a2 y.sn c2 a3 y.wn c3 a4 y.hn c4))):=zQ _ _
 have NA:Hid (BoxC (w.alloc (oQ4 a1 y.pn c1 a2 y.sn c2 a3 y.wn c3 a4 y.hn c4)) w.heap.size (.slice a1 y.pn c1) (.slice a2 y.sn c2) (.slice a3 y.wn c3) (.slice a4 y.hn c4)):=BoxC.new w _ _ _ _ _
 have hz:=qtv hS
 have HZ:Hid ((0<=mkZ2 y 1/\mkZ2 y 1<=6000000)/\(0<=mkZ3 y 1/\mkZ3 y 1<=12000000)/\(0<=mkZ4 y 1/\mkZ4 y 1<=18000000)/\(0<=mkZ5 y 1/\mkZ5 y 1<=24000000)):=hz
 have z2:¬ mkZ2 y 1<0:=by omega
 have z3:¬ mkZ3 y 1<0:=by omega
 have z4:¬ mkZ4 y 1<0:=by omega
 have z5:¬ mkZ5 y 1<0:=by omega
 clear o hS hz
 change Calls Tryz.prog 19 #[sysV a1 y.pn c1 a2 y.sn c2 a3 y.wn c3 a4 y.hn c4,.int .i64 1] w _
 go_enter Tryz.func19,Tryz.ntmps19
 go_wp2_with fail
 generalize w.alloc (oQ4 a1 y.pn c1 a2 y.sn c2 a3 y.wn c3 a4 y.hn c4)=wA at *
 refine (qj5 _ _ y.pn up y.pL 1 wA HS.out.p.1 HS.out.p.2 (by omega) (by omega) (LI.strong (O.out.1.below BA.out))).mono ?_
 rintro e w1 ⟨rfl,b1⟩
 have F1:Hid (Below w.heap.size w w1/\BoxC w1 w.heap.size (.slice a1 y.pn c1) (.slice a2 y.sn c2) (.slice a3 y.wn c3) (.slice a4 y.hn c4)):=⟨BA.out.trans (b1.mono BA.out.size),NA.out.below b1⟩
 rw [show (1:Int)+5*(sumL y.pL y.pn:Nat)=mkZ2 y 1 from rfl]
 clear b1 BA NA
 obtain ⟨-,p0,p1,p2,p3⟩:=F1.out
 go_wp2_with fail
 clear p0 p1 p2 p3
 refine (qiq _ _ y.sn us y.sS (mkZ2 y 1) w1 HS.out.s.1 HS.out.s.2 HZ.out.1.1 (by have:=HZ.out;omega) (O.out.2.1.below F1.out.1)).mono ?_
 rintro e w2 ⟨rfl,b2⟩
 have F2:Hid (Below w.heap.size w w2/\BoxC w2 w.heap.size (.slice a1 y.pn c1) (.slice a2 y.sn c2) (.slice a3 y.wn c3) (.slice a4 y.hn c4)):=⟨F1.out.1.trans (b2.mono F1.out.1.size),F1.out.2.below b2⟩
 rw [show mkZ2 y 1+(2*y.sn+sumL (lenS y.sS) y.sn:Nat)=mkZ3 y 1 from rfl]
 clear b2 F1
 obtain ⟨-,p0,p1,p2,p3⟩:=F2.out
 go_wp2_with fail
 clear p0 p1 p2 p3
 refine (qmj _ _ y.wn uw y.wL (mkZ3 y 1) w2 HS.out.w.1 HS.out.w.2 HZ.out.2.1.1 (by have:=HZ.out;omega) (O.out.2.2.1.below F2.out.1)).mono ?_
 rintro e w3 ⟨rfl,b3⟩
 have F3:Hid (Below w.heap.size w w3/\BoxC w3 w.heap.size (.slice a1 y.pn c1) (.slice a2 y.sn c2) (.slice a3 y.wn c3) (.slice a4 y.hn c4)):=⟨F2.out.1.trans (b3.mono F2.out.1.size),F2.out.2.below b3⟩
 rw [show mkZ3 y 1+2*(sumL y.wL y.wn:Nat)=mkZ4 y 1 from rfl]
 clear b3 F2
 obtain ⟨-,p0,p1,p2,p3⟩:=F3.out
 go_wp2_with fail
 clear p0 p1 p2 p3
 refine (qj4 _ _ y.hn uh y.hL (mkZ4 y 1) w3 HS.out.h.1 HS.out.h.2 HZ.out.2.2.1.1 (by have:=HZ.out;omega) (O.out.2.2.2.below F3.out.1)).mono ?_
 rintro e w4 ⟨rfl,b4⟩
 have F4:Hid (Below w.heap.size w w4):=F3.out.1.trans (b4.mono F3.out.1.size)
 rw [show mkZ4 y 1+3*(sumL y.hL y.hn:Nat)=mkZ5 y 1 from rfl]
 clear b4 F3
 go_wp2
 go_ret
 exact ⟨rfl,F4.out⟩
