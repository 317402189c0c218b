import Derived.Test.YtlpckaoldaijlaaGreatDoorUe0
import Derived.Test.YtlpckaoldaijlaaGreatDoorUe32
import Derived.Test.YtlpckaoldaijlaaGreatDoorUe20
import Derived.Test.YtlpckaoldaijlaaGreatDoorUe22
import Derived.Test.YtlpckaoldaijlaaGreatDoorUe36
import Derived.Test.YtlpckaoldaijlaaGreatDoorUe38
import Derived.Test.YtlpckaoldaijlaaGreatDoorUe33
namespace Go.Proofs.YtlpckaoldaijlaaGreatDoor
set_option maxRecDepth 100000
set_option maxHeartbeats 4000000
open Go.ChangeShapes Go.WideShapes Go.ChangeAt Go.RowKit Go.Deep
theorem OwnSys.base {z:Bool} {w:World} {B B':Nat} {y:Sy} {v:Value} (o:OwnSys z w B y v) (h:B'<=B):OwnSys z w B' y v:=by
 obtain ⟨c,vp,vs,vw,vh,up,us,uw,uh,e,o⟩:=o
 exact ⟨c,vp,vs,vw,vh,up,us,uw,uh,e,o.p.mono fun _ q _=>⟨zS h q.1,q.2⟩,o.s.mono fun _ q _=>⟨zS h q.1,q.2⟩,o.t.mono fun _ q _=>⟨zS h q.1,q.2⟩,o.h.mono fun _ q _=>⟨zS h q.1,q.2⟩⟩
theorem OwnSys.setBelow {z:Bool} {w:World} {B:Nat} {y:Sy} {v:Value} (o:OwnSys z w B y v) {N:Nat} (h:N<B) (j:Nat) (u:Value):OwnSys z (w.setCell ⟨N,j,none⟩ u) B y v:=by
 obtain ⟨c,vp,vs,vw,vh,up,us,uw,uh,e,o⟩:=o
 have hk:∀ i k,Cl B c i k->k<w.heap.size->(w.setCell ⟨N,j,none⟩ u).heap[k]? = w.heap[k]?:=fun i k q _=>zQ _ _ _ _ fun e=>by
  have e:k=N:=e
  have:=q.1
  omega
 exact ⟨c,vp,vs,vw,vh,up,us,uw,uh,e,o.p.keep (hk 1),o.s.keep (hk 2),o.t.keep (hk 3),o.h.keep (hk 4)⟩
theorem OwnSys.zero {z:Bool} (w:World) (B:Nat) (y:Sy):OwnSys z w B { y with pn:=0,sn:=0,wn:=0,hn:=0 } (sysV none 0 0 none 0 0 none 0 0 none 0 0):=
 ⟨fun _=>0,_,_,_,_,fun _=>.slice none 0 0,fun _=>.slice none 0 0,fun _=>.slice none 0 0,fun _=>.slice none 0 0,rfl,LL.nil _ _ _ _ _ _ _ _,LS.nil _ _ _ _,LL.nil _ _ _ _ _ _ _ _,LL.nil _ _ _ _ _ _ _ _⟩
theorem OwnSys.form {z:Bool} {w:World} {B:Nat} {y:Sy} {v:Value} (o:OwnSys z w B y v):∃ pa pc sa sc wa wc ha hc,v=sysV pa y.pn pc sa y.sn sc wa y.wn wc ha y.hn hc:=by
 obtain ⟨c,vp,vs,vw,vh,up,us,uw,uh,rfl,o⟩:=o
 obtain ⟨pa,pc,rfl⟩:=zW o.p.row
 obtain ⟨sa,sc,rfl⟩:=zW o.s.row
 obtain ⟨wa,wc,rfl⟩:=zW o.t.row
 obtain ⟨ha,hc,rfl⟩:=zW o.h.row
 exact ⟨pa,pc,sa,sc,wa,wc,ha,hc,rfl⟩
open Go.Sort
noncomputable def pB (p:Prop):Bool:=@decide p (Classical.propDecidable _)
theorem pB_true {p:Prop} (h:p):pB p=true:=by simp [pB,h]
theorem pB_false {p:Prop} (h:¬ p):pB p=false:=by simp [pB,h]
theorem specSameState_any (S T:S4) (ra oa ra' oa':Option Addr) (rc oc rc' oc':Nat) (w:World) (l1:S.rs.length<=1048576) (l2:S.os.length<=1048576) (_l3:T.rs.length<=1048576) (_l4:T.os.length<=1048576) (h1:Sl w ra S.rs) (h2:Sl w oa S.os) (h3:Sl w ra' T.rs) (h4:Sl w oa' T.os):
  Calls Tryz.prog 53 #[stV S.p ra S.rs.length rc oa S.os.length oc S.c,stV T.p ra' T.rs.length rc' oa' T.os.length oc' T.c] w fun e w'=>e=.returned (.bool (eqS S T))/\Below w.heap.size w w':=by
 have l1':(S.rs.length:Int)<=1048576:=by omega
 have l2':(S.os.length:Int)<=1048576:=by omega
 have H1:Hid (Sl w ra S.rs/\Sl w ra' T.rs):=⟨h1,h3⟩
 have H2:Hid (Sl w oa S.os/\Sl w oa' T.os):=⟨h2,h4⟩
 clear h1 h2 h3 h4 l1 l2
 rcases zO (S.p != T.p) with t1 | t1
 case inl=>
  have HE:Hid (eqS S T=false):=by
   show eqS S T=false
   have:(S.p == T.p)=false:=by simpa using t1
   simp [eqS,this]
  go_enter Tryz.func53,Tryz.ntmps53
  go_wp2
  go_ret
  rw [HE.out]
  exact ⟨rfl,by go_grown⟩
 rcases zO (S.c != T.c) with t2 | t2
 case inl=>
  have HE:Hid (eqS S T=false):=by
   show eqS S T=false
   have:(S.c == T.c)=false:=by simpa using t2
   simp [eqS,this]
  go_enter Tryz.func53,Tryz.ntmps53
  go_wp2
  go_ret
  rw [HE.out]
  exact ⟨rfl,by go_grown⟩
 rcases zO ((S.rs.length:Int) != (T.rs.length:Int)) with t3 | t3
 case inl=>
  have HE:Hid (eqS S T=false):=by
   show eqS S T=false
   have:(S.rs == T.rs)=false:=by
    rw [beq_eq_false_iff_ne]
    intro e
    rw [e] at t3
    simp at t3
   simp [eqS,this]
  go_enter Tryz.func53,Tryz.ntmps53
  go_wp2
  go_ret
  rw [HE.out]
  exact ⟨rfl,by go_grown⟩
 rcases zO ((S.os.length:Int) != (T.os.length:Int)) with t4 | t4
 case inl=>
  have HE:Hid (eqS S T=false):=by
   show eqS S T=false
   have:(S.os == T.os)=false:=by
    rw [beq_eq_false_iff_ne]
    intro e
    rw [e] at t4
    simp at t4
   simp [eqS,this]
  go_enter Tryz.func53,Tryz.ntmps53
  go_wp2
  go_ret
  rw [HE.out]
  exact ⟨rfl,by go_grown⟩
 have HE:Hid (eqS S T=((S.rs == T.rs) && (S.os == T.os))/\S.rs.length=T.rs.length/\S.os.length=T.os.length):=by
  have e1:(S.p == T.p)=true:=by simpa using t1
  have e2:(S.c == T.c)=true:=by simpa using t2
  have e3:S.rs.length=T.rs.length:=by simp at t3;omega
  have e4:S.os.length=T.os.length:=by simp at t4;omega
  refine ⟨?_,e3,e4⟩
  show eqS S T=_
  simp [eqS,e1,e2]
 have N1:Hid (BoxC ((w.alloc (oQ1 S.p ra S.rs.length rc oa S.os.length oc S.c)).alloc (oQ1 T.p ra' T.rs.length rc' oa' T.os.length oc' T.c)) w.heap.size (.int .i64 S.p) (.slice ra S.rs.length rc) (.slice oa S.os.length oc) (.int .i64 S.c)):=(BoxC.new w _ _ _ _ _).below (zV _ _)
 have N2:Hid (BoxC ((w.alloc (oQ1 S.p ra S.rs.length rc oa S.os.length oc S.c)).alloc (oQ1 T.p ra' T.rs.length rc' oa' T.os.length oc' T.c)) (w.heap.size+1) (.int .i64 T.p) (.slice ra' T.rs.length rc') (.slice oa' T.os.length oc') (.int .i64 T.c)):=by
  have h:=BoxC.new (w.alloc (oQ1 S.p ra S.rs.length rc oa S.os.length oc S.c)) (.int .i64 T.p) (.slice ra' T.rs.length rc') (.slice oa' T.os.length oc') (.int .i64 T.c) 80
  rw [World.size_alloc] at h
  exact h
 have NB:Hid (Below w.heap.size w ((w.alloc (oQ1 S.p ra S.rs.length rc oa S.os.length oc S.c)).alloc (oQ1 T.p ra' T.rs.length rc' oa' T.os.length oc' T.c))):=by
  show Below _ _ _
  go_grown
 go_enter Tryz.func53,Tryz.ntmps53
 go_wp2_with fail
 generalize (w.alloc (oQ1 S.p ra S.rs.length rc oa S.os.length oc S.c)).alloc (oQ1 T.p ra' T.rs.length rc' oa' T.os.length oc' T.c)=wb at *
 go_loopw [5] (fun i wr=>∃ k:Nat,k<=S.rs.length/\i=.int .i64 k/\Below wb.heap.size wb wr/\Hid (∀ j,j<k->zi S.rs j=zi T.rs j)) (fun i _=>S.rs.length - (intOf i).toNat)
 case atStart=>exact ⟨0,Nat.zero_le _,rfl,Below.refl _ _,fun j hj=>by omega⟩
 case round=>
  obtain ⟨k,hk,rfl,hbw,HZ⟩:=hrel
  have hw:Below w.heap.size w wr:=NB.out.trans (hbw.mono NB.out.size)
  obtain ⟨n0,n1,n2,n3⟩:=N1.out.below hbw
  obtain ⟨m0,m1,m2,m3⟩:=N2.out.below hbw
  by_cases hlt:k<S.rs.length
  ·have hlt2:k<T.rs.length:=by have:=HE.out;omega
   obtain ⟨b,off,rfl,hbl,ck⟩:=(H1.out.1.below hw).at hlt
   obtain ⟨b',off',rfl,hbl',ck'⟩:=(H1.out.2.below hw).at hlt2
   have hlt':(k:Int)<(S.rs.length:Int):=by omega
   have hlt2':(k:Int)<(T.rs.length:Int):=by omega
   clear hlt2
   rcases zO (zi S.rs k != zi T.rs k) with t | t
   ·have HN:Hid (eqS S T=false):=by
     show eqS S T=false
     rw [HE.out.1]
     have:(S.rs == T.rs)=false:=by
      rw [beq_eq_false_iff_ne]
      intro e
      rw [e] at t
      simp at t
     rw [this,Bool.false_and]
    go_wp2_with fail
    go_quiet (fail)
    go_wp2
    go_ret
    rw [HN.out]
    exact ⟨rfl,yE hw _⟩
   ·have HZ':Hid (∀ j,j<k+1->zi S.rs j=zi T.rs j):=fun j hj=>by
     by_cases e:j=k
     ·subst e
      simpa using t
     ·exact HZ.out j (by omega)
    clear HZ
    go_wp2_with fail
    go_quiet (fail)
    go_wp2
    go_roundw
    case rel=>exact ⟨k+1,by omega,by go_num,yE hbw _,HZ'.out⟩
    case measure=>simp [intOf];omega
  ·have HR:Hid ((S.rs == T.rs)=true):=by
    show (S.rs == T.rs)=true
    rw [beq_iff_eq]
    exact list_of_zi HE.out.2.1 fun j hj=>HZ.out j (by omega)
   have hkl:k=S.rs.length:=by omega
   subst hkl
   clear HZ hlt hk
   go_wp2_with fail
   clear n0 n1 n2 n3 m0 m1 m2 m3
   go_loopw [6] (fun i wr=>∃ k:Nat,k<=S.os.length/\i=.int .i64 k/\Below wb.heap.size wb wr/\Hid (∀ j,j<k->zi S.os j=zi T.os j)) (fun i _=>S.os.length - (intOf i).toNat)
   case atStart=>exact ⟨0,Nat.zero_le _,rfl,hbw,fun j hj=>by omega⟩
   case round=>
    clear hbw hw
    obtain ⟨k,hk,rfl,hbw,HZ⟩:=hrel
    have hw:Below w.heap.size w wr:=NB.out.trans (hbw.mono NB.out.size)
    obtain ⟨n0,n1,n2,n3⟩:=N1.out.below hbw
    obtain ⟨m0,m1,m2,m3⟩:=N2.out.below hbw
    by_cases hlt:k<S.os.length
    ·have hlt2:k<T.os.length:=by have:=HE.out;omega
     obtain ⟨b,off,rfl,hbl,ck⟩:=(H2.out.1.below hw).at hlt
     obtain ⟨b',off',rfl,hbl',ck'⟩:=(H2.out.2.below hw).at hlt2
     have hlt':(k:Int)<(S.os.length:Int):=by omega
     have hlt2':(k:Int)<(T.os.length:Int):=by omega
     clear hlt2
     rcases zO (zi S.os k != zi T.os k) with t | t
     ·have HN:Hid (eqS S T=false):=by
       show eqS S T=false
       rw [HE.out.1]
       have:(S.os == T.os)=false:=by
        rw [beq_eq_false_iff_ne]
        intro e
        rw [e] at t
        simp at t
       rw [this,Bool.and_false]
      go_wp2_with fail
      go_quiet (fail)
      go_wp2
      go_ret
      rw [HN.out]
      exact ⟨rfl,yE hw _⟩
     ·have HZ':Hid (∀ j,j<k+1->zi S.os j=zi T.os j):=fun j hj=>by
       by_cases e:j=k
       ·subst e
        simpa using t
       ·exact HZ.out j (by omega)
      clear HZ
      go_wp2_with fail
      go_quiet (fail)
      go_wp2
      go_roundw
      case rel=>exact ⟨k+1,by omega,by go_num,yE hbw _,HZ'.out⟩
      case measure=>simp [intOf];omega
    ·have HN:Hid (eqS S T=true):=by
      show eqS S T=true
      rw [HE.out.1,HR.out,Bool.true_and,beq_iff_eq]
      exact list_of_zi HE.out.2.2 fun j hj=>HZ.out j (by omega)
     clear HZ
     go_wp2
     go_ret
     rw [HN.out]
     exact ⟨rfl,hw⟩
structure LWay (h:Nat->I2) (len:Nat) (sent:List Int) (t:Nat):Prop where
 it:∀ i,i<len->itemB (h i)=true
 le:len<=12
 ln:sent.length=t+(numL h len).length
 eq:∀ j,j<(numL h len).length->zi (numL h len) j=zi sent (t+j)
theorem zi_append_left {xs ys:List Int} {j:Nat} (h:j<xs.length):zi (xs ++ ys) j=zi xs j:=by
 simp [zi,List.getD_eq_getElem?_getD,List.getElem?_append_left h]
theorem zi_append_right {xs ys:List Int} {j:Nat}:zi (xs ++ ys) (xs.length+j)=zi ys j:=by
 simp [zi,List.getD_eq_getElem?_getD,List.getElem?_append_right]
theorem LWay.iff {h:Nat->I2} {len:Nat} {took sent:List Int}:(LWay h len sent took.length/\∀ i,i<took.length->zi took i=zi sent i) ↔ WayP h len took sent:=by
 refine ⟨fun ⟨a,b⟩=>⟨a.it,a.le,?_⟩,fun a=>⟨⟨a.it,a.le,by rw [<- a.eq,List.length_append],fun j _=>by rw [<- a.eq,zi_append_right]⟩,fun i hi=>by rw [<- a.eq,zi_append_left hi]⟩⟩
 refine list_of_zi (by rw [List.length_append,a.ln]) fun j hj=>?_
 by_cases hl:j<took.length
 ·rw [zi_append_left hl,b j hl]
 ·rw [List.length_append] at hj
  have e:j=took.length+(j - took.length):=by omega
  rw [e,zi_append_right]
  exact a.eq _ (by omega)
theorem l4Way_any (a:Option Addr) (len cap:Nat) (h:Nat->I2) (sa:Option Addr) (sc:Nat) (sent:List Int) (t:Nat) (w:World) (hlen:len<=1048576) (hc:ItL w a len h) (hs:sent.length<=1048576) (hS:Sl w sa sent) (ht:t<=1048576):
  Calls Tryz.prog 55 #[.slice a len cap,.slice sa sent.length sc,.int .i64 t] w fun e w'=>e=.returned (.bool (pB (LWay h len sent t)))/\Below w.heap.size w w':=by
 have hl':(len:Int)<=1048576:=by omega
 have hs':(sent.length:Int)<=1048576:=by omega
 have ht':(t:Int)<=1048576:=by omega
 have HC:Hid (ItL w a len h):=hc
 have HS:Hid (Sl w sa sent):=hS
 clear hc hS
 go_enter Tryz.func55,Tryz.ntmps55
 go_wp2_with fail
 go_loopw [7] (fun i wr=>∃ k:Nat,k<=len/\i=.int .i64 k/\Below w.heap.size w wr/\Hid (∀ j,j<k->itemB (h j)=true)) (fun i _=>len - (intOf i).toNat)
 case atStart=>exact ⟨0,Nat.zero_le _,rfl,Below.refl _ _,fun j hj=>by omega⟩
 case round=>
  obtain ⟨k,hk,rfl,hbw,HZ⟩:=hrel
  by_cases hlt:k<len
  ·have hlt':(k:Int)<(len:Int):=by omega
   obtain ⟨b,off,rfl,-,c0,c1⟩:=(HC.out.below hbw).at hlt
   have hN:∀ {x:Bool},inB (h k).v (-1000000000) 1000000000=x->numB (h k).v=x:=fun e=>e
   rcases zO (inB (h k).v (-1000000000) 1000000000) with t1 | t1
   ·have go_on:itemB (h k)=true->Hid (∀ j,j<k+1->itemB (h j)=true):=fun t j hj=>by
     by_cases e:j=k
     ·subst e
      exact t
     ·exact HZ.out j (by omega)
    have stop:itemB (h k)=false->Hid (pB (LWay h len sent t)=false):=fun t=>pB_false fun x=>by
     have:=x.it k hlt
     rw [t] at this
     cases this
    rcases zO (h k).m with t2 | t2
    ·rcases zO ((h k).v != 0) with t3 | t3
     ·have HN := stop (by
       have:((h k).v == 0)=false:=by simpa using t3
       simp [itemB,t2,this])
      rw [t2] at c0
      clear go_on stop HZ hN
      go_wp2_with fail
      refine (l1Num_any _ _).mono ?_
      rintro e w1 ⟨rfl,rfl⟩
      rw [t1]
      go_wp2
      go_ret
      rw [HN.out]
      exact ⟨rfl,hbw⟩
     ·have HZ' := go_on (by
       have:((h k).v == 0)=true:=by simpa using t3
       simp [itemB,hN t1,this])
      rw [t2] at c0
      clear go_on stop HZ hN
      go_wp2_with fail
      refine (l1Num_any _ _).mono ?_
      rintro e w1 ⟨rfl,rfl⟩
      rw [t1]
      go_wp2
      go_roundw
      case rel=>exact ⟨k+1,by omega,by go_num,hbw,HZ'.out⟩
      case measure=>simp [intOf];omega
    ·have HZ':=go_on (by simp [itemB,hN t1,t2])
     rw [t2] at c0
     clear go_on stop HZ hN
     go_wp2_with fail
     refine (l1Num_any _ _).mono ?_
     rintro e w1 ⟨rfl,rfl⟩
     rw [t1]
     go_wp2
     go_roundw
     case rel=>exact ⟨k+1,by omega,by go_num,hbw,HZ'.out⟩
     case measure=>simp [intOf];omega
   ·have HN:Hid (pB (LWay h len sent t)=false):=pB_false fun x=>by
     have:=x.it k hlt
     simp [itemB,hN t1] at this
    clear HZ hN
    go_wp2_with fail
    refine (l1Num_any _ _).mono ?_
    rintro e w1 ⟨rfl,rfl⟩
    rw [t1]
    go_wp2
    go_ret
    rw [HN.out]
    exact ⟨rfl,hbw⟩
  ·have HZ':Hid (∀ j,j<len->itemB (h j)=true):=fun j hj=>HZ.out j (by omega)
   have hkl:k=len:=by omega
   subst hkl
   clear HZ hlt hk
   go_wp2_with fail
   refine (specNumbers_l a k cap h wr hlen (HC.out.below hbw)).mono ?_
   rintro e w1 ⟨v,rfl,o1,b1⟩
   obtain ⟨na,nc,rfl,s1⟩:=o1.form
   have B1:Hid (Below w.heap.size w w1):=hbw.trans (b1.mono hbw.size)
   have S1:Hid (Sl w1 na (numL h k)):=s1
   have hnl:=numL_le h k
   have hnl':((numL h k).length:Int)<=1048576:=by omega
   clear o1 b1 s1 hbw
   generalize hNU:numL h k=nu at *
   have HNU:Hid (numL h k=nu):=hNU
   clear hNU hnl
   by_cases h12:k<=12
   case neg=>
    have h12':(12:Int)<(k:Int):=by omega
    have HN:Hid (pB (LWay h k sent t)=false):=pB_false fun x=>h12 x.le
    go_wp2
    go_ret
    rw [HN.out]
    exact ⟨rfl,B1.out⟩
   have h12':¬ (12:Int)<(k:Int):=by omega
   rcases zO (((sent.length:Int) - (t:Int)) != (nu.length:Int)) with t5 | t5
   ·have HN:Hid (pB (LWay h k sent t)=false):=pB_false fun x=>by
     have:=x.ln
     rw [HNU.out] at this
     rw [this] at t5
     simp at t5
     omega
    go_wp2
    go_ret
    rw [HN.out]
    exact ⟨rfl,B1.out⟩
   have HLN:Hid (sent.length=t+nu.length):=by
    show sent.length=t+nu.length
    simp at t5
    omega
   go_wp2_with fail
   go_loopw [9] (fun i wr=>∃ j:Nat,j<=nu.length/\i=.int .i64 j/\Below w1.heap.size w1 wr/\Hid (∀ i,i<j->zi nu i=zi sent (t+i))) (fun i _=>nu.length - (intOf i).toNat)
   case atStart=>exact ⟨0,Nat.zero_le _,rfl,Below.refl _ _,fun j hj=>by omega⟩
   case round=>
    obtain ⟨j,hj,rfl,hbw,HZ⟩:=hrel
    have hw:Below w.heap.size w wr:=B1.out.trans (hbw.mono B1.out.size)
    by_cases hlt:j<nu.length
    ·have hlt2:t+j<sent.length:=by have:=HLN.out;omega
     obtain ⟨b,off,rfl,hbl,ck⟩:=(S1.out.below hbw).at hlt
     obtain ⟨b',off',rfl,hbl',ck'⟩:=(HS.out.below hw).at hlt2
     have hlt':(j:Int)<(nu.length:Int):=by omega
     have hlt2':(t:Int)+(j:Int)<(sent.length:Int):=by omega
     have hq:((t:Int)+(j:Int)).toNat=t+j:=by omega
     clear hlt2
     rcases zO (zi nu j != zi sent (t+j)) with t6 | t6
     ·have HN:Hid (pB (LWay h k sent t)=false):=pB_false fun x=>by
       have:=x.eq j (by rw [HNU.out];exact hlt)
       rw [HNU.out] at this
       rw [this] at t6
       simp at t6
      go_wp2_with fail
      go_quiet (fail)
      go_wp2
      go_ret
      rw [HN.out]
      exact ⟨rfl,yE hw _⟩
     ·have HZ2:Hid (∀ i,i<j+1->zi nu i=zi sent (t+i)):=fun i hi=>by
       by_cases e:i=j
       ·subst e
        simpa using t6
       ·exact HZ.out i (by omega)
      clear HZ
      go_wp2_with fail
      go_quiet (fail)
      go_wp2
      go_roundw
      case rel=>exact ⟨j+1,by omega,by go_num,yE hbw _,HZ2.out⟩
      case measure=>simp [intOf];omega
    ·have HN : Hid (pB (LWay h k sent t) = true) := pB_true ⟨HZ'.out, h12, by rw [HNU.out]; exact HLN.out, fun i hi => by
      rw [HNU.out] at hi ⊢
      exact HZ.out i (by omega)⟩
     clear HZ
     go_wp2
     go_ret
     rw [HN.out]
     exact ⟨rfl,hw⟩
open Go.RowKit Go.Extern.Stop Go.Stop Go.Extern
theorem elemVT (a p:Addr) (W:World) (ha:W.cell? a=some (.pointer (some p))):
  (ReflectliteValue.method (ReflectliteValue.valueError "reflectlite.Value.Elem" 0) ReflectliteValue.elem #[.agg #[.pointer (some ⟨1, 228, none⟩), .pointer (some a), .int .u64 150]]).run Tryz.prog W
   = .ok (.agg #[.pointer (some ⟨1,221,none⟩),.pointer (some p),.int .u64 409]) W:=by
 rw [rlm]
 simp only [Sem.run_bind,partsT,Result.andThen]
 simp [ReflectliteValue.elem,loadVar,isAgg,underlying,Tryz.underlying228,ha,Result.andThen,elemOfT,mkE]
theorem rls (v x : Value) : ReflectliteValue.set #[v, x] = (do
  let (some (dst,a,fl),some (src,b,_)):=(<- ReflectliteValue.parts v,<- ReflectliteValue.parts x)
   | unsupported (.noEntry "extern/(internal/reflectlite.Value).Set.zeroValue")
  if fl / ReflectliteValue.flagAddr % 2 == 0 then unsupported (.noEntry "extern/(internal/reflectlite.Value).Set.unaddressable")
  let val <- loadVar src b
  if <- Rtype.directlyAssignable dst src then storeVar dst a val
  else if <- Rtype.implements dst src then
   if (<- Rtype.kind src) == 20 then
    match val with
    | .nilIface => unsupported (.noEntry "extern/reflectlite: a nil value of one interface type handed on as a value of another")
    | _=>storeVar dst a val
   else storeVar dst a (.iface src val)
  else panicString ("reflectlite.Set: value of type " ++ (<- Rtype.spelt src) ++ " is not assignable to type " ++ (<- Rtype.spelt dst))
  pure (.tuple #[])):=rfl
theorem partsEa (a:Addr) (w:World):(ReflectliteValue.parts (.agg #[.pointer (some ⟨1,221,none⟩),.pointer (some a),.int .u64 409])).run Tryz.prog w=.ok (some (221,a,409)) w:=by kernel_rfl
theorem partsE (a:Addr) (w:World):(ReflectliteValue.parts (.agg #[.pointer (some ⟨1,221,none⟩),.pointer (some a),.int .u64 153])).run Tryz.prog w=.ok (some (221,a,153)) w:=by kernel_rfl
theorem directE (w:World):(Rtype.directlyAssignable 221 221).run Tryz.prog w=.ok true w:=by kernel_rfl
theorem setE (ta b:Addr) (x:Int) (old:Value) (W:World) (hb:W.cell? b=some (.int .i64 x)) (ht:W.cell? ta=some old) (hf:W.frozen? ta=false):
  (ReflectliteValue.set #[.agg #[.pointer (some ⟨1,221,none⟩),.pointer (some ta),.int .u64 409],.agg #[.pointer (some ⟨1,221,none⟩),.pointer (some b),.int .u64 153]]).run Tryz.prog W
   = .ok (.tuple #[]) (W.setCell ta (.int .i64 x)):=by
 rw [rls]
 simp only [Sem.run_bind,partsEa,partsE,Result.andThen]
 simp [ReflectliteValue.flagAddr,loadVar,loadCells,loadCellsFrom,hb,Result.andThen,directE,storeVar,Value.cells,storeCells,Addr.add]
 rw [run_store Tryz.prog W ta _ _ (by rfl)]
 simp [ht,hf]
open Go.RowKit Go.Extern.Stop Go.Stop Go.Extern
theorem as_hit (x:Int) (t:Addr) (old:Value) (w:World) (hg:w.cell? ⟨0,0,none⟩=some (.iface 294 (.agg #[.pointer (some ⟨1,179,none⟩)]))) (ht0:w.cell? t=some old) (hf0:w.frozen? t=false):
  Calls Tryz.prog 197 #[.iface 221 (.agg #[.int .i64 x]),.iface 228 (.pointer (some t))] w fun ev w'=>ev=.returned (.bool true)/\∃ o1 o2 o3 o4,w'=((((w.alloc o1).alloc o2).alloc o3).alloc o4).setCell t (.int .i64 x):=by
 have h6:=@run_callFunc_extern Tryz.prog 222 _ (fun args=>ReflectliteValue.unpack (args.getD 0 (.tuple #[]))) Tryz.func222 (by kernel_rfl) (by kernel_rfl) (by kernel_rfl) (by kernel_rfl)
 have h7 := @run_callFunc_extern Tryz.prog 223 _ (ReflectliteValue.methodAny (ReflectliteValue.valueError "reflectlite.Value.Type" 0) (fun t _ _ _ => ReflectliteType.toType t)) Tryz.func223 (by kernel_rfl) (by kernel_rfl) (by kernel_rfl) (by kernel_rfl)
 have h8 := @run_callFunc_extern Tryz.prog 224 _ (ReflectliteValue.method (ReflectliteValue.valueError "reflectlite.Value.IsNil" 0) ReflectliteValue.isNil) Tryz.func224 (by kernel_rfl) (by kernel_rfl) (by kernel_rfl) (by kernel_rfl)
 have h27:=@run_callFunc_extern Tryz.prog 264 _ (ReflectliteType.abiMethod fun t=>do pure (.int .u8 (<- Rtype.kind t))) Tryz.func264 (by kernel_rfl) (by kernel_rfl) (by kernel_rfl) (by kernel_rfl)
 have h37:=@run_callFunc_extern Tryz.prog 285 _ (ReflectliteType.method ReflectliteType.elem) Tryz.func285 (by kernel_rfl) (by kernel_rfl) (by kernel_rfl) (by kernel_rfl)
 have h38 := @run_callFunc_extern Tryz.prog 286 _ (ReflectliteType.relation "Implements" ReflectliteType.implements_) Tryz.func286 (by kernel_rfl) (by kernel_rfl) (by kernel_rfl) (by kernel_rfl)
 have h10:=@run_callFunc_extern Tryz.prog 245 _ ReflectliteType.typeOf Tryz.func245 (by kernel_rfl) (by kernel_rfl) (by kernel_rfl) (by kernel_rfl)
 have h35 := @run_callFunc_extern Tryz.prog 283 _ (ReflectliteType.relation "AssignableTo" ReflectliteType.assignableTo) Tryz.func283 (by kernel_rfl) (by kernel_rfl) (by kernel_rfl) (by kernel_rfl)
 have h11 := @run_callFunc_extern Tryz.prog 246 _ (ReflectliteValue.method (ReflectliteValue.valueError "reflectlite.Value.Elem" 0) ReflectliteValue.elem) Tryz.func246 (by kernel_rfl) (by kernel_rfl) (by kernel_rfl) (by kernel_rfl)
 have h12:=@run_callFunc_extern Tryz.prog 247 _ ReflectliteValue.set Tryz.func247 (by kernel_rfl) (by kernel_rfl) (by kernel_rfl) (by kernel_rfl)
 have tO:=typeOfE
 have a25:=assignableE
 have v25:=valueOfE
 have f6:=valueOfT
 have f7:=typeT
 have k27:=kindT
 have k25:=kindE
 have e27:=elemT
 have i25:=implementsE
 have n8:=isNilT ⟨w.heap.size,0,none⟩ t ((w.alloc (.cells #[.pointer (some t)] 228)).alloc (.cells #[.pointer (some ⟨1,228,none⟩),.pointer (some ⟨w.heap.size,0,none⟩),.int .u64 150] 262)) (by simp)
 have hlt:0<w.heap.size:=by
  rcases Nat.eq_zero_or_pos w.heap.size with h0 | h
  ·simp [World.cell?,h0] at hg
  ·exact h
 have hg2:((w.alloc (.cells #[.pointer (some t)] 228)).alloc (.cells #[.pointer (some ⟨1,228,none⟩),.pointer (some ⟨w.heap.size,0,none⟩),.int .u64 150] 262)).cell? ⟨0,0,none⟩=some (.iface 294 (.agg #[.pointer (some ⟨1,179,none⟩)])):=by
  rw [World.cell?_alloc_lt _ _ ⟨0,0,none⟩ (by simp),World.cell?_alloc_lt _ _ ⟨0,0,none⟩ hlt];exact hg
 have htl:t.block<w.heap.size:=by
  rcases Nat.lt_or_ge t.block w.heap.size with h | h
  ·exact h
  ·simp [World.cell?,Array.getElem?_eq_none h] at ht0
 have el := elemVT ⟨w.heap.size, 0, none⟩ t (((w.alloc (.cells #[.pointer (some t)] 228)).alloc (.cells #[.pointer (some ⟨1, 228, none⟩), .pointer (some ⟨w.heap.size, 0, none⟩), .int .u64 150] 262)).alloc (.cells #[.pointer (some ⟨1, 228, none⟩), .pointer (some ⟨w.heap.size, 0, none⟩), .int .u64 150] 262)) (by
  rw [World.cell?_alloc_lt _ _ _ (by simp;omega),World.cell?_alloc_lt _ _ _ (by simp),World.cell?_alloc_at _ _ _ _ rfl];rfl)
 have st:=setE t ⟨w.heap.size+1+1+1,0,none⟩ x old ((((w.alloc (.cells #[.pointer (some t)] 228)).alloc (.cells #[.pointer (some ⟨1,228,none⟩),.pointer (some ⟨w.heap.size,0,none⟩),.int .u64 150] 262)).alloc (.cells #[.pointer (some ⟨1,228,none⟩),.pointer (some ⟨w.heap.size,0,none⟩),.int .u64 150] 262)).alloc (.cells #[.int .i64 x] 221))
  (by rw [World.cell?_alloc_at _ _ _ _ (by simp)];rfl)
  (by rw [World.cell?_alloc_lt _ _ t (by simp;omega),World.cell?_alloc_lt _ _ t (by simp;omega),World.cell?_alloc_lt _ _ t (by simp;omega),World.cell?_alloc_lt _ _ t htl];exact ht0)
  (by rw [World.frozen?_alloc_old _ _ t (by simp;omega),World.frozen?_alloc_old _ _ t (by simp;omega),World.frozen?_alloc_old _ _ t (by simp;omega),World.frozen?_alloc_old _ _ t (Nat.ne_of_lt htl)];exact hf0)
 go_enter Tryz.func197,Tryz.ntmps197
 go_wp2
 refine wp_loop_rounds 1 ?_
 rw [rounds_succ]
 go_wp2
 go_ret
 exact ⟨rfl,_,_,_,_,rfl⟩
variable {z:Bool}
def adOf:Value->Option Addr
 | .slice a _ _=>a
 | _=>none
def cpOf:Value->Nat
 | .slice _ _ c=>c
 | _=>0
def fdOf (v:Value) (i:Nat):Value:=(cellsL v).getD i (.slice none 0 0)
def Sy.sysIn (y:Sy) (vp vs vw vh:Value) (up us uw uh:Nat->Value):SysIn:=
 ⟨adOf vp, y.pn, cpOf vp, fun i => adOf (up i), y.pL, fun i => cpOf (up i), y.pH,
  adOf vs,y.sn,cpOf vs,fun i=>⟨(y.sS i).p,adOf (fdOf (us i) 1),cpOf (fdOf (us i) 1),(y.sS i).rs,adOf (fdOf (us i) 2),cpOf (fdOf (us i) 2),(y.sS i).os,(y.sS i).c⟩,
  adOf vw,y.wn,cpOf vw,fun i=>adOf (uw i),y.wL,fun i=>cpOf (uw i),y.wH,
  adOf vh,y.hn,cpOf vh,fun i=>adOf (uh i),y.hL,fun i=>cpOf (uh i),y.hH⟩
theorem rowS_of {e:TypeId} {sz:Nat} {E:TypeId} {w:World} {P:Nat->Prop} {v:Value} {n:Nat} {u:Nat->Value} {L:Nat->Nat} {c:Nat->List Value} (o:LL z e sz E w P v n u L c):RowS w (adOf v) n fun i=>.slice (adOf (u i)) (L i) (cpOf (u i)):=by
 rcases Nat.eq_zero_or_pos n with h | h
 ·exact .inl h
 ·obtain ⟨g,cap,rfl,-,hg,-,-⟩:=o.cell h
  refine .inr ⟨g,0,rfl,hg,fun i hi=>?_⟩
  obtain ⟨g',cap',ew,-,-,hc,-⟩:=o.cell hi
  simp only [Value.slice.injEq,Option.some.injEq,Addr.mk.injEq,and_true,true_and] at ew
  obtain ⟨rfl,rfl⟩:=ew
  obtain ⟨a,c',eu⟩:=zW (o.own i hi)
  show w.cell? ⟨g,0+i,none⟩=some (.slice (adOf (u i)) (L i) (cpOf (u i)))
  rw [Nat.zero_add,hc,eu]
  rfl
theorem sl_v {w:World} {B:Nat} {e:TypeId} {sz n:Nat} {v:Value} {xs:List Value} (o:w.ownsRow B e sz v n xs):v=.slice (adOf v) n (cpOf v):=by
 obtain ⟨a,c,rfl⟩:=zW o
 rfl
theorem OwnS.v {w:World} {B:Nat} {c:Nat->Nat} {y:Sy} {vp vs vw vh:Value} {up us uw uh:Nat->Value} (o:OwnS z w B c y vp vs vw vh up us uw uh):(y.sysIn vp vs vw vh up us uw uh).v=.agg #[vp,vs,vw,vh]:=by
 have e1:=sl_v o.p.row
 have e2:=sl_v o.s.row
 have e3:=sl_v o.t.row
 have e4:=sl_v o.h.row
 conv=>rhs;rw [e1,e2,e3,e4]
 rfl
theorem nil_or {w:World} {B sz n:Nat} {e:TypeId} {u:Value} {xs:List Value} (o:w.ownsRow B e sz u n xs):n=0\/u≠.slice none 0 0:=by
 rcases o.2 with ⟨_,h⟩ | ⟨b,cap,cur,rfl,_⟩
 ·exact .inl h
 ·exact .inr (fun e=>by cases e)
theorem itL_own {w:World} {B n:Nat} {u:Value} {g:Nat->I2} (o:w.ownsRow B 131 2 u n (fT g n)):ItL w (adOf u) n g:=by
 rcases nil_or o with h | h
 ·exact .inl h
 ·obtain ⟨b,cap,eu,hb,hI,-⟩:=atT o h
  exact .inr ⟨b,0,by rw [eu];rfl,hb,hI⟩
theorem evL_own {w:World} {B n:Nat} {u:Value} {g:Nat->E3} (o:w.ownsRow B 85 3 u n (fE g n)):EvL w (adOf u) n g:=by
 rcases nil_or o with h | h
 ·exact .inl h
 ·obtain ⟨b,cap,eu,hb,hI,-⟩:=atE o h
  exact .inr ⟨b,0,by rw [eu];rfl,hb,hI⟩
theorem OwnS.g {w:World} {B:Nat} {c:Nat->Nat} {y:Sy} {vp vs vw vh:Value} {up us uw uh:Nat->Value} (o:OwnS z w B c y vp vs vw vh up us uw uh):SysG w (y.sysIn vp vs vw vh up us uw uh):=by
 refine ⟨rowS_of o.p,fun i hi=>?_,?_,rowS_of o.t,fun i hi=>?_,rowS_of o.h,fun i hi=>?_⟩
 ·obtain ⟨b,cap,eu,hb,hI,-⟩:=atI (o.p.own i hi) (o.p.nn nzI i hi)
  exact ⟨b,by show adOf (up i)=_;rw [eu];rfl,hb,hI⟩
 ·refine ⟨?_,fun i hi=>?_⟩
  ·rcases Nat.eq_zero_or_pos y.sn with h | h
   ·exact .inl h
   ·obtain ⟨g,cap,rfl,-,hg,-,-⟩:=o.s.cell h
    refine .inr ⟨g,0,rfl,hg,fun i hi=>?_⟩
    obtain ⟨g',cap',ew,-,-,hc,-⟩:=o.s.cell hi
    simp only [Value.slice.injEq,Option.some.injEq,Addr.mk.injEq,and_true,true_and] at ew
    obtain ⟨rfl,rfl⟩:=ew
    obtain ⟨ra,rc,oa,oc,eu,h0,h1,h2,h3⟩:=hc
    show w.cell? ⟨g,0+i*4,none⟩=some (.int .i64 (y.sS i).p)/\w.cell? ⟨g,0+i*4+1,none⟩=some (.slice (adOf (fdOf (us i) 1)) (y.sS i).rs.length (cpOf (fdOf (us i) 1)))/\w.cell? ⟨g,0+i*4+2,none⟩=some (.slice (adOf (fdOf (us i) 2)) (y.sS i).os.length (cpOf (fdOf (us i) 2)))/\w.cell? ⟨g,0+i*4+3,none⟩=some (.int .i64 (y.sS i).c)
    rw [Nat.zero_add,eu]
    exact ⟨h0,h1,h2,h3⟩
  ·obtain ⟨g,cap,-,-,-,⟨ra,rc,oa,oc,eu,-⟩,-⟩:=o.s.cell hi
   have h4:=o.s.own i hi
   rw [eu] at h4
   show Sl w (adOf (fdOf (us i) 1)) (y.sS i).rs/\Sl w (adOf (fdOf (us i) 2)) (y.sS i).os
   rw [eu]
   exact ⟨h4.parts.1.slOf,h4.parts.2.1.slOf⟩
 ·exact itL_own (o.t.own i hi)
 ·exact evL_own (o.h.own i hi)
