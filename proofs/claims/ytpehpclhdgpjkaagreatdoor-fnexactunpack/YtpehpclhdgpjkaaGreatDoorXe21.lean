import Derived.Test.YtpehpclhdgpjkaaGreatDoorXe0
import Derived.Test.YtpehpclhdgpjkaaGreatDoorXe19
import Derived.Test.YtpehpclhdgpjkaaGreatDoorXe20
import Derived.Test.YtpehpclhdgpjkaaGreatDoorXe18
import Derived.Laws.BytesArg
import Derived.Lib.QuietBelow
import Derived.Deep.RegionWith
import Derived.Deep.RegionLaw
import Derived.BigQuiet
namespace Go.Proofs.YtpehpclhdgpjkaaGreatDoor
set_option maxRecDepth 100000
set_option maxHeartbeats 2000000
open Go.ChangeShapes Go.WideShapes Go.ChangeAt Go.RowKit Go.Deep Go.Sort
noncomputable def pB (p:Prop):Bool:=@decide p (Classical.propDecidable _)
theorem pB_true {p:Prop} (h:p):pB p=true:=by simp [pB,h]
theorem pB_false {p:Prop} (h:¬ p):pB p=false:=by simp [pB,h]
theorem specSameState_any (S T:S4) (ra oa ra' oa':Option Addr) (rc oc rc' oc':Nat) (w:World) (l1:S.rs.length<=1048576) (l2:S.os.length<=1048576) (_l3:T.rs.length<=1048576) (_l4:T.os.length<=1048576) (h1:Sl w ra S.rs) (h2:Sl w oa S.os) (h3:Sl w ra' T.rs) (h4:Sl w oa' T.os):
  Calls Tryz.prog 70 #[stV S.p ra S.rs.length rc oa S.os.length oc S.c,stV T.p ra' T.rs.length rc' oa' T.os.length oc' T.c] w fun e w'=>e=.returned (.bool (eqS S T))/\Below w.heap.size w w':=by
 have l1':(S.rs.length:Int)<=1048576:=by omega
 have l2':(S.os.length:Int)<=1048576:=by omega
 have H1:Hid (Sl w ra S.rs/\Sl w ra' T.rs):=⟨h1,h3⟩
 have H2:Hid (Sl w oa S.os/\Sl w oa' T.os):=⟨h2,h4⟩
 clear h1 h2 h3 h4 l1 l2
 rcases zK (S.p != T.p) with t1 | t1
 case inl=>
  have HE:Hid (eqS S T=false):=by
   show eqS S T=false
   have:(S.p == T.p)=false:=by simpa using t1
   simp [eqS,this]
  go_enter Tryz.func70,Tryz.ntmps70
  go_wp2
  go_ret
  rw [HE.out]
  exact ⟨rfl,by go_grown⟩
 rcases zK (S.c != T.c) with t2 | t2
 case inl=>
  have HE:Hid (eqS S T=false):=by
   show eqS S T=false
   have:(S.c == T.c)=false:=by simpa using t2
   simp [eqS,this]
  go_enter Tryz.func70,Tryz.ntmps70
  go_wp2
  go_ret
  rw [HE.out]
  exact ⟨rfl,by go_grown⟩
 rcases zK ((S.rs.length:Int) != (T.rs.length:Int)) with t3 | t3
 case inl=>
  have HE:Hid (eqS S T=false):=by
   show eqS S T=false
   have:(S.rs == T.rs)=false:=by
    rw [beq_eq_false_iff_ne]
    intro e
    rw [e] at t3
    simp at t3
   simp [eqS,this]
  go_enter Tryz.func70,Tryz.ntmps70
  go_wp2
  go_ret
  rw [HE.out]
  exact ⟨rfl,by go_grown⟩
 rcases zK ((S.os.length:Int) != (T.os.length:Int)) with t4 | t4
 case inl=>
  have HE:Hid (eqS S T=false):=by
   show eqS S T=false
   have:(S.os == T.os)=false:=by
    rw [beq_eq_false_iff_ne]
    intro e
    rw [e] at t4
    simp at t4
   simp [eqS,this]
  go_enter Tryz.func70,Tryz.ntmps70
  go_wp2
  go_ret
  rw [HE.out]
  exact ⟨rfl,by go_grown⟩
 have HE:Hid (eqS S T=((S.rs == T.rs) && (S.os == T.os))/\S.rs.length=T.rs.length/\S.os.length=T.os.length):=by
  have e1:(S.p == T.p)=true:=by simpa using t1
  have e2:(S.c == T.c)=true:=by simpa using t2
  have e3:S.rs.length=T.rs.length:=by simp at t3;omega
  have e4:S.os.length=T.os.length:=by simp at t4;omega
  refine ⟨?_,e3,e4⟩
  show eqS S T=_
  simp [eqS,e1,e2]
 have N1:Hid (BoxC ((w.alloc (oQ1 S.p ra S.rs.length rc oa S.os.length oc S.c)).alloc (oQ1 T.p ra' T.rs.length rc' oa' T.os.length oc' T.c)) w.heap.size (.int .i64 S.p) (.slice ra S.rs.length rc) (.slice oa S.os.length oc) (.int .i64 S.c)):=(BoxC.new w _ _ _ _ _).below (zS _ _)
 have N2:Hid (BoxC ((w.alloc (oQ1 S.p ra S.rs.length rc oa S.os.length oc S.c)).alloc (oQ1 T.p ra' T.rs.length rc' oa' T.os.length oc' T.c)) (w.heap.size+1) (.int .i64 T.p) (.slice ra' T.rs.length rc') (.slice oa' T.os.length oc') (.int .i64 T.c)):=by
  have h:=BoxC.new (w.alloc (oQ1 S.p ra S.rs.length rc oa S.os.length oc S.c)) (.int .i64 T.p) (.slice ra' T.rs.length rc') (.slice oa' T.os.length oc') (.int .i64 T.c) 73
  rw [World.size_alloc] at h
  exact h
 have NB:Hid (Below w.heap.size w ((w.alloc (oQ1 S.p ra S.rs.length rc oa S.os.length oc S.c)).alloc (oQ1 T.p ra' T.rs.length rc' oa' T.os.length oc' T.c))):=by
  show Below _ _ _
  go_grown
 go_enter Tryz.func70,Tryz.ntmps70
 go_wp2_with fail
 generalize (w.alloc (oQ1 S.p ra S.rs.length rc oa S.os.length oc S.c)).alloc (oQ1 T.p ra' T.rs.length rc' oa' T.os.length oc' T.c)=wb at *
 go_loopw [5] (fun i wr=>∃ k:Nat,k<=S.rs.length/\i=.int .i64 k/\Below wb.heap.size wb wr/\Hid (∀ j,j<k->zi S.rs j=zi T.rs j)) (fun i _=>S.rs.length - (intOf i).toNat)
 case atStart=>exact ⟨0,Nat.zero_le _,rfl,Below.refl _ _,fun j hj=>by omega⟩
 case round=>
  obtain ⟨k,hk,rfl,hbw,HZ⟩:=hrel
  have hw:Below w.heap.size w wr:=NB.out.trans (hbw.mono NB.out.size)
  obtain ⟨n0,n1,n2,n3⟩:=N1.out.below hbw
  obtain ⟨m0,m1,m2,m3⟩:=N2.out.below hbw
  by_cases hlt:k<S.rs.length
  ·have hlt2:k<T.rs.length:=by have:=HE.out;omega
   obtain ⟨b,off,rfl,hbl,ck⟩:=(H1.out.1.below hw).at hlt
   obtain ⟨b',off',rfl,hbl',ck'⟩:=(H1.out.2.below hw).at hlt2
   have hlt':(k:Int)<(S.rs.length:Int):=by omega
   have hlt2':(k:Int)<(T.rs.length:Int):=by omega
   clear hlt2
   rcases zK (zi S.rs k != zi T.rs k) with t | t
   ·have HN:Hid (eqS S T=false):=by
     show eqS S T=false
     rw [HE.out.1]
     have:(S.rs == T.rs)=false:=by
      rw [beq_eq_false_iff_ne]
      intro e
      rw [e] at t
      simp at t
     rw [this,Bool.false_and]
    go_wp2_with fail
    go_quiet (fail)
    go_wp2
    go_ret
    rw [HN.out]
    exact ⟨rfl,yB hw _⟩
   ·have HZ':Hid (∀ j,j<k+1->zi S.rs j=zi T.rs j):=fun j hj=>by
     by_cases e:j=k
     ·subst e
      simpa using t
     ·exact HZ.out j (by omega)
    clear HZ
    go_wp2_with fail
    go_quiet (fail)
    go_wp2
    go_roundw
    case rel=>exact ⟨k+1,by omega,by go_num,yB hbw _,HZ'.out⟩
    case measure=>simp [intOf];omega
  ·have HR:Hid ((S.rs == T.rs)=true):=by
    show (S.rs == T.rs)=true
    rw [beq_iff_eq]
    exact list_of_zi HE.out.2.1 fun j hj=>HZ.out j (by omega)
   have hkl:k=S.rs.length:=by omega
   subst hkl
   clear HZ hlt hk
   go_wp2_with fail
   clear n0 n1 n2 n3 m0 m1 m2 m3
   go_loopw [6] (fun i wr=>∃ k:Nat,k<=S.os.length/\i=.int .i64 k/\Below wb.heap.size wb wr/\Hid (∀ j,j<k->zi S.os j=zi T.os j)) (fun i _=>S.os.length - (intOf i).toNat)
   case atStart=>exact ⟨0,Nat.zero_le _,rfl,hbw,fun j hj=>by omega⟩
   case round=>
    clear hbw hw
    obtain ⟨k,hk,rfl,hbw,HZ⟩:=hrel
    have hw:Below w.heap.size w wr:=NB.out.trans (hbw.mono NB.out.size)
    obtain ⟨n0,n1,n2,n3⟩:=N1.out.below hbw
    obtain ⟨m0,m1,m2,m3⟩:=N2.out.below hbw
    by_cases hlt:k<S.os.length
    ·have hlt2:k<T.os.length:=by have:=HE.out;omega
     obtain ⟨b,off,rfl,hbl,ck⟩:=(H2.out.1.below hw).at hlt
     obtain ⟨b',off',rfl,hbl',ck'⟩:=(H2.out.2.below hw).at hlt2
     have hlt':(k:Int)<(S.os.length:Int):=by omega
     have hlt2':(k:Int)<(T.os.length:Int):=by omega
     clear hlt2
     rcases zK (zi S.os k != zi T.os k) with t | t
     ·have HN:Hid (eqS S T=false):=by
       show eqS S T=false
       rw [HE.out.1]
       have:(S.os == T.os)=false:=by
        rw [beq_eq_false_iff_ne]
        intro e
        rw [e] at t
        simp at t
       rw [this,Bool.and_false]
      go_wp2_with fail
      go_quiet (fail)
      go_wp2
      go_ret
      rw [HN.out]
      exact ⟨rfl,yB hw _⟩
     ·have HZ':Hid (∀ j,j<k+1->zi S.os j=zi T.os j):=fun j hj=>by
       by_cases e:j=k
       ·subst e
        simpa using t
       ·exact HZ.out j (by omega)
      clear HZ
      go_wp2_with fail
      go_quiet (fail)
      go_wp2
      go_roundw
      case rel=>exact ⟨k+1,by omega,by go_num,yB hbw _,HZ'.out⟩
      case measure=>simp [intOf];omega
    ·have HN:Hid (eqS S T=true):=by
      show eqS S T=true
      rw [HE.out.1,HR.out,Bool.true_and,beq_iff_eq]
      exact list_of_zi HE.out.2.2 fun j hj=>HZ.out j (by omega)
     clear HZ
     go_wp2
     go_ret
     rw [HN.out]
     exact ⟨rfl,hw⟩
structure LWay (h:Nat->I2) (len:Nat) (sent:List Int) (t:Nat):Prop where
 it:∀ i,i<len->itemB (h i)=true
 le:len<=12
 ln:sent.length=t+(numL h len).length
 eq:∀ j,j<(numL h len).length->zi (numL h len) j=zi sent (t+j)
theorem zi_append_left {xs ys:List Int} {j:Nat} (h:j<xs.length):zi (xs ++ ys) j=zi xs j:=by
 simp [zi,List.getD_eq_getElem?_getD,List.getElem?_append_left h]
theorem zi_append_right {xs ys:List Int} {j:Nat}:zi (xs ++ ys) (xs.length+j)=zi ys j:=by
 simp [zi,List.getD_eq_getElem?_getD,List.getElem?_append_right]
theorem LWay.iff {h:Nat->I2} {len:Nat} {took sent:List Int}:(LWay h len sent took.length/\∀ i,i<took.length->zi took i=zi sent i) ↔ WayP h len took sent:=by
 refine ⟨fun ⟨a,b⟩=>⟨a.it,a.le,?_⟩,fun a=>⟨⟨a.it,a.le,by rw [<- a.eq,List.length_append],fun j _=>by rw [<- a.eq,zi_append_right]⟩,fun i hi=>by rw [<- a.eq,zi_append_left hi]⟩⟩
 refine list_of_zi (by rw [List.length_append,a.ln]) fun j hj=>?_
 by_cases hl:j<took.length
 ·rw [zi_append_left hl,b j hl]
 ·rw [List.length_append] at hj
  have e:j=took.length+(j - took.length):=by omega
  rw [e,zi_append_right]
  exact a.eq _ (by omega)
theorem l4Way_any (a:Option Addr) (len cap:Nat) (h:Nat->I2) (sa:Option Addr) (sc:Nat) (sent:List Int) (t:Nat) (w:World) (hlen:len<=1048576) (hc:ItL w a len h) (hs:sent.length<=1048576) (hS:Sl w sa sent) (ht:t<=1048576):
  Calls Tryz.prog 71 #[.slice a len cap,.slice sa sent.length sc,.int .i64 t] w fun e w'=>e=.returned (.bool (pB (LWay h len sent t)))/\Below w.heap.size w w':=by
 have hl':(len:Int)<=1048576:=by omega
 have hs':(sent.length:Int)<=1048576:=by omega
 have ht':(t:Int)<=1048576:=by omega
 have HC:Hid (ItL w a len h):=hc
 have HS:Hid (Sl w sa sent):=hS
 clear hc hS
 go_enter Tryz.func71,Tryz.ntmps71
 go_wp2_with fail
 go_loopw [7] (fun i wr=>∃ k:Nat,k<=len/\i=.int .i64 k/\Below w.heap.size w wr/\Hid (∀ j,j<k->itemB (h j)=true)) (fun i _=>len - (intOf i).toNat)
 case atStart=>exact ⟨0,Nat.zero_le _,rfl,Below.refl _ _,fun j hj=>by omega⟩
 case round=>
  obtain ⟨k,hk,rfl,hbw,HZ⟩:=hrel
  by_cases hlt:k<len
  ·have hlt':(k:Int)<(len:Int):=by omega
   obtain ⟨b,off,rfl,-,c0,c1⟩:=(HC.out.below hbw).at hlt
   have hN:∀ {x:Bool},inB (h k).v (-1000000000) 1000000000=x->numB (h k).v=x:=fun e=>e
   rcases zK (inB (h k).v (-1000000000) 1000000000) with t1 | t1
   ·have go_on:itemB (h k)=true->Hid (∀ j,j<k+1->itemB (h j)=true):=fun t j hj=>by
     by_cases e:j=k
     ·subst e
      exact t
     ·exact HZ.out j (by omega)
    have stop:itemB (h k)=false->Hid (pB (LWay h len sent t)=false):=fun t=>pB_false fun x=>by
     have:=x.it k hlt
     rw [t] at this
     cases this
    rcases zK (h k).m with t2 | t2
    ·rcases zK ((h k).v != 0) with t3 | t3
     ·have HN := stop (by
       have:((h k).v == 0)=false:=by simpa using t3
       simp [itemB,t2,this])
      rw [t2] at c0
      clear go_on stop HZ hN
      go_wp2_with fail
      refine (l1Num_any _ _).mono ?_
      rintro e w1 ⟨rfl,rfl⟩
      rw [t1]
      go_wp2
      go_ret
      rw [HN.out]
      exact ⟨rfl,hbw⟩
     ·have HZ' := go_on (by
       have:((h k).v == 0)=true:=by simpa using t3
       simp [itemB,hN t1,this])
      rw [t2] at c0
      clear go_on stop HZ hN
      go_wp2_with fail
      refine (l1Num_any _ _).mono ?_
      rintro e w1 ⟨rfl,rfl⟩
      rw [t1]
      go_wp2
      go_roundw
      case rel=>exact ⟨k+1,by omega,by go_num,hbw,HZ'.out⟩
      case measure=>simp [intOf];omega
    ·have HZ':=go_on (by simp [itemB,hN t1,t2])
     rw [t2] at c0
     clear go_on stop HZ hN
     go_wp2_with fail
     refine (l1Num_any _ _).mono ?_
     rintro e w1 ⟨rfl,rfl⟩
     rw [t1]
     go_wp2
     go_roundw
     case rel=>exact ⟨k+1,by omega,by go_num,hbw,HZ'.out⟩
     case measure=>simp [intOf];omega
   ·have HN:Hid (pB (LWay h len sent t)=false):=pB_false fun x=>by
     have:=x.it k hlt
     simp [itemB,hN t1] at this
    clear HZ hN
    go_wp2_with fail
    refine (l1Num_any _ _).mono ?_
    rintro e w1 ⟨rfl,rfl⟩
    rw [t1]
    go_wp2
    go_ret
    rw [HN.out]
    exact ⟨rfl,hbw⟩
  ·have HZ':Hid (∀ j,j<len->itemB (h j)=true):=fun j hj=>HZ.out j (by omega)
   have hkl:k=len:=by omega
   subst hkl
   clear HZ hlt hk
   go_wp2_with fail
   refine (specNumbers_l a k cap h wr hlen (HC.out.below hbw)).mono ?_
   rintro e w1 ⟨v,rfl,o1,b1⟩
   obtain ⟨na,nc,rfl,s1⟩:=o1.form
   have B1:Hid (Below w.heap.size w w1):=hbw.trans (b1.mono hbw.size)
   have S1:Hid (Sl w1 na (numL h k)):=s1
   have hnl:=numL_le h k
   have hnl':((numL h k).length:Int)<=1048576:=by omega
   clear o1 b1 s1 hbw
   generalize hNU:numL h k=nu at *
   have HNU:Hid (numL h k=nu):=hNU
   clear hNU hnl
   by_cases h12:k<=12
   case neg=>
    have h12':(12:Int)<(k:Int):=by omega
    have HN:Hid (pB (LWay h k sent t)=false):=pB_false fun x=>h12 x.le
    go_wp2
    go_ret
    rw [HN.out]
    exact ⟨rfl,B1.out⟩
   have h12':¬ (12:Int)<(k:Int):=by omega
   rcases zK (((sent.length:Int) - (t:Int)) != (nu.length:Int)) with t5 | t5
   ·have HN:Hid (pB (LWay h k sent t)=false):=pB_false fun x=>by
     have:=x.ln
     rw [HNU.out] at this
     rw [this] at t5
     simp at t5
     omega
    go_wp2
    go_ret
    rw [HN.out]
    exact ⟨rfl,B1.out⟩
   have HLN:Hid (sent.length=t+nu.length):=by
    show sent.length=t+nu.length
    simp at t5
    omega
   go_wp2_with fail
   go_loopw [9] (fun i wr=>∃ j:Nat,j<=nu.length/\i=.int .i64 j/\Below w1.heap.size w1 wr/\Hid (∀ i,i<j->zi nu i=zi sent (t+i))) (fun i _=>nu.length - (intOf i).toNat)
   case atStart=>exact ⟨0,Nat.zero_le _,rfl,Below.refl _ _,fun j hj=>by omega⟩
   case round=>
    obtain ⟨j,hj,rfl,hbw,HZ⟩:=hrel
    have hw:Below w.heap.size w wr:=B1.out.trans (hbw.mono B1.out.size)
    by_cases hlt:j<nu.length
    ·have hlt2:t+j<sent.length:=by have:=HLN.out;omega
     obtain ⟨b,off,rfl,hbl,ck⟩:=(S1.out.below hbw).at hlt
     obtain ⟨b',off',rfl,hbl',ck'⟩:=(HS.out.below hw).at hlt2
     have hlt':(j:Int)<(nu.length:Int):=by omega
     have hlt2':(t:Int)+(j:Int)<(sent.length:Int):=by omega
     have hq:((t:Int)+(j:Int)).toNat=t+j:=by omega
     clear hlt2
     rcases zK (zi nu j != zi sent (t+j)) with t6 | t6
     ·have HN:Hid (pB (LWay h k sent t)=false):=pB_false fun x=>by
       have:=x.eq j (by rw [HNU.out];exact hlt)
       rw [HNU.out] at this
       rw [this] at t6
       simp at t6
      go_wp2_with fail
      go_quiet (fail)
      go_wp2
      go_ret
      rw [HN.out]
      exact ⟨rfl,yB hw _⟩
     ·have HZ2:Hid (∀ i,i<j+1->zi nu i=zi sent (t+i)):=fun i hi=>by
       by_cases e:i=j
       ·subst e
        simpa using t6
       ·exact HZ.out i (by omega)
      clear HZ
      go_wp2_with fail
      go_quiet (fail)
      go_wp2
      go_roundw
      case rel=>exact ⟨j+1,by omega,by go_num,yB hbw _,HZ2.out⟩
      case measure=>simp [intOf];omega
    ·have HN : Hid (pB (LWay h k sent t) = true) := pB_true ⟨HZ'.out, h12, by rw [HNU.out]; exact HLN.out, fun i hi => by
      rw [HNU.out] at hi ⊢
      exact HZ.out i (by omega)⟩
     clear HZ
     go_wp2
     go_ret
     rw [HN.out]
     exact ⟨rfl,hw⟩
structure Sy.Sm (y:Sy):Prop where
 n:y.pn<=16/\y.sn<=16/\y.wn<=16/\y.hn<=16
 p:∀ i,i<y.pn->y.pL i<=1000
 s:∀ i,i<y.sn->(y.sS i).rs.length<=1000/\(y.sS i).os.length<=1000
 w:∀ i,i<y.wn->y.wL i<=1000
 h:∀ i,i<y.hn->y.hL i<=1000
theorem okS_len {n:Nat} {S:S4} (h:OkS n S):S.rs.length<=60/\S.os.length<=60:=by
 obtain ⟨⟨r0,r1,r2,r3,e,-⟩,-,h60,-⟩:=st_parts h
 exact ⟨by rw [e];simp,h60⟩
theorem Sy.Ok.bds {y:Sy} (h:y.Ok):(∀ i,i<y.pn->y.pL i<=30)/\(∀ i,i<y.sn->OkS (y.pL i) (y.sS i))/\(∀ i,i<y.wn->y.wL i<=12)/\(∀ i,i<y.hn->y.hL i<=200):=by
 obtain ⟨⟨h1,h4⟩,hs,hh,hw⟩:=h.cn
 refine ⟨fun i hi=>?_,fun i hi=>h.st (by omega),fun i hi=>?_,fun i hi=>h.le200 (by omega)⟩
 ·have h1:=h.four hi
  simp only [progOkB,Bool.and_eq_true,inB,decide_eq_true_eq] at h1
  have:=h1.2.1
  omega
 ·rw [hw] at hi
  have ha:i / y.pn<y.pn:=Nat.div_lt_of_lt_mul hi
  have hb:i % y.pn<y.pn:=Nat.mod_lt _ (by omega)
  have e:i / y.pn*y.pn+i % y.pn=i:=by rw [Nat.mul_comm];exact Nat.div_add_mod i y.pn
  have:=h.way ha hb
  rw [e] at this
  exact this
def val:List Int->Nat
 | []=>0
 | d :: r=>(d % 128).toNat+128*val r
def frm:Nat->List Int->Option (List Int)
 | 0,_=>none
 | _+1,[]=>none
 | k+1,d :: r=>if d<128 then some [d] else (frm k r).map (d :: ·)
def unf (n:Nat):Int:=if n % 2=1 then -(((n+1) / 2:Nat):Int) else ((n / 2:Nat):Int)
def okF (F:List Int):Bool:=decide (F.length=1\/zi F (F.length - 1)≠0)
def isF:List Int->Prop
 | []=>False
 | [d]=>0<=d/\d<128
 | d :: e :: r=>(128<=d/\d<=255)/\isF (e :: r)
def By (ys:List Int):Prop:=∀ i,i<ys.length->0<=zi ys i/\zi ys i<=255
theorem zi_cons (d:Int) (r:List Int) (i:Nat):zi (d :: r) (i+1)=zi r i:=by simp [zi]
theorem zi_zero (d:Int) (r:List Int):zi (d :: r) 0=d:=by simp [zi]
theorem zi_drop (ys:List Int) (a k:Nat):zi (ys.drop a) k=zi ys (a+k):=by
 unfold zi
 rw [List.getD_eq_getElem?_getD,List.getD_eq_getElem?_getD,List.getElem?_drop]
theorem zi_take (ys:List Int) (a k:Nat) (h:k<a):zi (ys.take a) k=zi ys k:=by
 unfold zi
 rw [List.getD_eq_getElem?_getD,List.getD_eq_getElem?_getD,List.getElem?_take,if_pos h]
theorem fd_unf (n:Nat):fd (unf n)=n:=by
 unfold fd unf
 split <;> split <;> omega
theorem val_pos:∀ {F:List Int},isF F->(F.length=1\/zi F (F.length - 1)≠0)->1<F.length->1<=val F.tail
 | [],h,_,_=>h.elim
 | [_],_,_,h=>by simp at h
 | d :: e :: [],h,ho,_=>by
  have he:0<=e/\e<128:=h.2
  rcases ho with ho | ho
  ·simp at ho
  ·have:zi [d,e] 1=e:=by simp [zi]
   simp only [List.length_cons,List.length_nil] at ho
   rw [this] at ho
   simp only [List.tail_cons,val]
   omega
 | d :: e :: f :: r,h,ho,_=>by
  have h2:=h.2
  have := val_pos (F := e :: f :: r) h2 (by
   rcases ho with ho | ho
   ·simp at ho
   ·right
    simp only [List.length_cons,Nat.add_sub_cancel] at ho ⊢
    rw [zi_cons] at ho
    exact ho) (by simp)
  simp only [List.tail_cons] at this ⊢
  rw [val]
  omega
theorem fm_of:∀ {F:List Int} (K:Nat),isF F->F.length<=K+1->(F.length=1\/zi F (F.length - 1)≠0)->fmN K (val F)=F
 | [],_,h,_,_=>h.elim
 | [d],K,h,_,_=>by
  have h':0<=d/\d<128:=h
  have e:val [d]=d.toNat:=by simp only [val];omega
  rw [e,fm_last K _ (by omega)]
  congr 1
  omega
 | d :: e :: r,0,_,hl,_=>by simp at hl
 | d :: e :: r,K+1,h,hl,ho=>by
  have h1:=h.1
  have hp:=val_pos h ho (by simp)
  simp only [List.tail_cons] at hp
  have ho':(e :: r).length=1\/zi (e :: r) ((e :: r).length - 1)≠0:=by
   rcases ho with ho | ho
   ·simp at ho
   ·by_cases hr:r=[]
    ·left;simp [hr]
    ·right
     obtain ⟨q,r',rfl⟩:=List.exists_cons_of_ne_nil hr
     simp only [List.length_cons,Nat.add_sub_cancel] at ho ⊢
     rw [zi_cons] at ho
     exact ho
  have ih:=fm_of (F:=e :: r) K h.2 (by simp at hl ⊢;omega) ho'
  have ev:val (d :: e :: r)=(d % 128).toNat+128*val (e :: r):=rfl
  have hm:val (d :: e :: r) % 128=(d % 128).toNat:=by omega
  have hd:val (d :: e :: r) / 128=val (e :: r):=by omega
  rw [fmN,if_neg (by omega),hm,hd,ih]
  congr 1
  omega
theorem fm_end:∀ (K n:Nat),1<=n->zi (fmN K n) ((fmN K n).length - 1)≠0
 | 0,n,h=>by simp [fmN,zi];omega
 | K+1,n,h=>by
  rw [fmN]
  split
  ·simp [zi];omega
  ·have ih:=fm_end K (n / 128) (by omega)
   have hp:=fm_pos K (n / 128)
   obtain ⟨m,hm⟩:∃ m,(fmN K (n / 128)).length=m+1:=⟨(fmN K (n / 128)).length - 1,by omega⟩
   rw [List.length_cons,hm,Nat.add_sub_cancel,zi_cons]
   rw [hm,Nat.add_sub_cancel] at ih
   exact ih
theorem fm_ok (K n:Nat):(fmN K n).length=1\/zi (fmN K n) ((fmN K n).length - 1)≠0:=by
 by_cases h:n<128
 ·left
  rw [fm_last K n h]
  rfl
 ·exact .inr (fm_end K n (by omega))
theorem pu_form {F:List Int} (h:isF F) (hl:F.length<=5):puL (unf (val F))=F ↔ puB (unf (val F))=true/\okF F=true:=by
 unfold puL okF
 rw [fd_unf]
 constructor
 ·intro e
  split at e
  ·rename_i hb
   refine ⟨hb,decide_eq_true ?_⟩
   rw [<- e]
   exact fm_ok 4 _
  ·rw [<- e] at h
   exact h.elim
 ·rintro ⟨hb,ho⟩
  rw [if_pos hb]
  exact fm_of 4 h hl (of_decide_eq_true ho)
theorem frm_skip:∀ (k m:Nat) (L:List Int),k<=m->k<=L.length->(∀ j,j<k->128<=zi L j)->frm m L=(frm (m - k) (L.drop k)).map (L.take k ++ ·)
 | 0,m,L,_,_,_=>by simp
 | k+1,0,L,h,_,_=>by omega
 | k+1,m+1,[],_,h,_=>by simp at h
 | k+1,m+1,d :: r,h1,h2,h3=>by
  have hd:128<=d:=by have:=h3 0 (by omega);rwa [zi_zero] at this
  rw [frm,if_neg (by omega),frm_skip k m r (by omega) (by simp at h2;omega) (fun j hj=>by have:=h3 (j+1) (by omega);rwa [zi_cons] at this)]
  rw [Nat.add_sub_add_right,List.drop_succ_cons,List.take_succ_cons,Option.map_map]
  rfl
theorem frm_no (L:List Int) (k:Nat) (h1:k<=5) (h2:k<=L.length) (h3:∀ j,j<k->128<=zi L j) (h:k=5\/k=L.length):frm 5 L=none:=by
 rw [frm_skip k 5 L h1 h2 h3]
 rcases h with rfl | rfl
 ·rfl
 ·rw [List.drop_length]
  cases 5 - L.length <;> rfl
theorem frm_hit (L:List Int) (k:Nat) (h1:k<5) (h2:k<L.length) (h3:∀ j,j<k->128<=zi L j) (h:zi L k<128):frm 5 L=some (L.take (k+1)):=by
 rw [frm_skip k 5 L (by omega) (by omega) h3]
 obtain ⟨m,hm⟩:∃ m,5 - k=m+1:=⟨4 - k,by omega⟩
 have hz:zi L k=L[k]:=by
  unfold zi
  rw [List.getD_eq_getElem?_getD,List.getElem?_eq_getElem h2];rfl
 rw [List.drop_eq_getElem_cons h2,hm,frm,if_pos (by rw [<- hz];exact h),Option.map_some,List.take_succ_eq_append_getElem h2]
theorem isF_take:∀ (k:Nat) (L:List Int),k<L.length->By L->(∀ j,j<k->128<=zi L j)->zi L k<128->isF (L.take (k+1))
 | _,[],h,_,_,_=>by simp at h
 | 0,d :: r,_,hb,_,h=>by
  have:=hb 0 (by simp)
  rw [zi_zero] at this h
  exact ⟨this.1,h⟩
 | k+1,[d],h,_,_,_=>by simp at h
 | k+1,d :: e :: r,h,hb,h3,h4=>by
  have ih:=isF_take k (e :: r) (by simp at h ⊢;omega) (fun i hi=>by have:=hb (i+1) (by simp at hi ⊢;omega);rwa [zi_cons] at this) (fun j hj=>by have:=h3 (j+1) (by omega);rwa [zi_cons] at this) (by rwa [zi_cons] at h4)
  have hd:=hb 0 (by simp)
  have hd':=h3 0 (by omega)
  rw [zi_zero] at hd hd'
  exact ⟨⟨hd',hd.2⟩,ih⟩
theorem val_take:∀ (k:Nat) (L:List Int),k<L.length->val (L.take (k+1))=val (L.take k)+(zi L k % 128).toNat*128 ^ k
 | _,[],h=>by simp at h
 | 0,d :: r,_=>by simp [val,zi]
 | k+1,d :: r,h=>by
  have ih:=val_take k r (by simp at h;omega)
  rw [List.take_succ_cons,List.take_succ_cons,val,val,ih,zi_cons,Nat.pow_succ,Nat.mul_add]
  have:128*((zi r k % 128).toNat*128 ^ k)=(zi r k % 128).toNat*(128 ^ k*128):=by
   rw [Nat.mul_comm,Nat.mul_assoc]
  omega
theorem val_lt:∀ (L:List Int),val L<128 ^ L.length
 | []=>by simp [val]
 | d :: r=>by
  have:=val_lt r
  rw [val,List.length_cons,Nat.pow_succ]
  omega
def gnO (ys:List Int) (z:Int):Option (Int × Int):=
 if 0<=z/\z<ys.length then
  match frm 5 (ys.drop z.toNat) with
  | none=>none
  | some F=>if puB (unf (val F))=true/\okF F=true then some (unf (val F),z+F.length) else none
 else none
def gnV:Option (Int × Int)->Value
 | none=>.tuple #[.int .i64 0,.int .i64 0,.bool false]
 | some (x,e)=>.tuple #[.int .i64 x,.int .i64 e,.bool true]
theorem i64_orN (a b k:Nat) (ha:a<2 ^ k) (hb:b*2 ^ k+a<9223372036854775808):bits .or .i64 (a:Int) ((b*2 ^ k:Nat):Int)=((a+b*2 ^ k:Nat):Int):=by
 have key:(BitVec.ofInt 64 (a:Int) ||| BitVec.ofInt 64 ((b*2 ^ k:Nat):Int)).toNat=a+b*2 ^ k:=by
  rw [BitVec.toNat_or,BitVec.toNat_ofInt,BitVec.toNat_ofInt]
  have e1:((a:Int) % ((2 ^ 64:Nat):Int)).toNat=a:=by omega
  have e2:(((b*2 ^ k:Nat):Int) % ((2 ^ 64:Nat):Int)).toNat=b*2 ^ k:=by omega
  rw [e1,e2,Nat.or_comm,Nat.mul_comm b,<- Nat.two_pow_add_eq_or_of_lt ha,Nat.add_comm]
 show IntKind.i64.wrap ((BitVec.ofInt 64 (a:Int) ||| BitVec.ofInt 64 ((b*2 ^ k:Nat):Int)).toNat:Nat)=_
 rw [key,IntKind.wrap_i64]
 omega
theorem or_step (v j:Nat) (d:Int) (hj:j<5) (hv:v<128 ^ j):bits .or .i64 (v:Int) (wrap64 (d % 128*2 ^ (7*j)))=((v+(d % 128).toNat*128 ^ j:Nat):Int):=by
 have hm:(d % 128).toNat<128:=by omega
 have e1:(128:Nat) ^ j=2 ^ (7*j):=by rw [Nat.pow_mul]
 have e2:d % 128*2 ^ (7*j)=(((d % 128).toNat*2 ^ (7*j):Nat):Int):=by
  rw [Int.natCast_mul,Int.natCast_pow]
  congr 1
  omega
 have hp:(2:Nat) ^ (7*j)<=2 ^ 28:=Nat.pow_le_pow_right (by omega) (by omega)
 have hq:(d % 128).toNat*2 ^ (7*j)<=127*2 ^ 28:=Nat.mul_le_mul (by omega) hp
 rw [e1] at hv ⊢
 rw [e2]
 generalize hP:(d % 128).toNat*2 ^ (7*j)=p at hq
 have hw:wrap64 ((p:Nat):Int)=((p:Nat):Int):=by
  unfold wrap64
  omega
 rw [hw,<- hP]
 refine i64_orN v _ (7*j) hv ?_
 omega
theorem gn_no {ys:List Int} {a:Nat} (h:a<ys.length) (hf:frm 5 (ys.drop a)=none):gnO ys (a:Int)=none:=by
 rw [gnO,if_pos ⟨by omega,by omega⟩]
 show (match frm 5 (ys.drop a) with | none=>none | some F=>_)=none
 rw [hf]
theorem gn_yes {ys F:List Int} {a:Nat} (h:a<ys.length) (hf:frm 5 (ys.drop a)=some F):gnO ys (a:Int)=if puB (unf (val F))=true/\okF F=true then some (unf (val F),(a:Int)+F.length) else none:=by
 rw [gnO,if_pos ⟨by omega,by omega⟩]
 show (match frm 5 (ys.drop a) with | none=>none | some F=>_)=_
 rw [hf]
theorem puL_nil (x:Int) (h:puB x=false):puL x=[]:=by rw [puL,if_neg (by rw [h];decide)]
theorem puL_pos (x:Int) (h:puB x=true):0<(puL x).length:=by rw [puL,if_pos h];exact fm_pos 4 _
theorem gn_hit {ys:List Int} {a j v:Nat} {d:Int} (hj:j<5) (hl:a+j<ys.length) (hv:v=val ((ys.drop a).take j)) (hi:∀ i,i<j->128<=zi ys (a+i)) (hd:zi ys (a+j)=d) (d1:d<128):
  v<128 ^ j/\((v+(d % 128).toNat*128 ^ j:Nat))<34359738368/\gnO ys (a:Int)=if puB (unf (v+(d % 128).toNat*128 ^ j))=true/\¬ (d=0/\0<j) then some (unf (v+(d % 128).toNat*128 ^ j),(a:Int)+j+1) else none:=by
 have hL:j<(ys.drop a).length:=by rw [List.length_drop];omega
 have hF:=frm_hit (ys.drop a) j hj hL (fun i h=>by rw [zi_drop];exact hi i h) (by rw [zi_drop,hd];exact d1)
 have hl1:((ys.drop a).take (j+1)).length=j+1:=by rw [List.length_take];omega
 have hvv:=val_take j (ys.drop a) hL
 rw [zi_drop,hd,<- hv] at hvv
 have hlt:=val_lt ((ys.drop a).take j)
 rw [<- hv,List.length_take,Nat.min_eq_left (by omega)] at hlt
 have hlt2:=val_lt ((ys.drop a).take (j+1))
 rw [hl1,hvv] at hlt2
 have hp:(128:Nat) ^ (j+1)<=128 ^ 5:=Nat.pow_le_pow_right (by omega) (by omega)
 refine ⟨hlt,by omega,?_⟩
 rw [gn_yes (by omega) hF,hvv,hl1]
 have hk:(okF ((ys.drop a).take (j+1))=true) ↔ ¬ (d=0/\0<j):=by
  unfold okF
  rw [decide_eq_true_iff,hl1,Nat.add_sub_cancel,zi_take _ _ _ (by omega),zi_drop,hd]
  omega
 simp only [hk]
 split <;> simp <;> omega
theorem specGetNum_any (a0:Option Addr) (cap:Nat) (ys:List Int) (z:Int) (w:World) (hlen:ys.length<=1048576) (hc:SlB w a0 ys) (hb:By ys):
  Calls Tryz.prog 31 #[.slice a0 ys.length cap,.int .i64 z] w fun e w'=>e=.returned (gnV (gnO ys z))/\Below w.heap.size w w':=by
 have hl':(ys.length:Int)<=1048576:=by omega
 by_cases hz:0<=z/\z<ys.length
 ·obtain ⟨z0,z1⟩:=hz
  obtain ⟨a,rfl⟩:=Int.eq_ofNat_of_zero_le z0
  have ha:a<ys.length:=by omega
  have hna:¬ ((ys.length:Int)<=(a:Int)):=by omega
  obtain ⟨b,off,rfl,hbl,-⟩:=hc.at (k:=a) (by omega)
  have HC:Hid (SlB w (some ⟨b,off,none⟩) ys):=hc
  have HB:Hid (By ys):=hb
  clear hc hb
  go_enter Tryz.func31,Tryz.ntmps31
  go_wp2_with fail
  go_loopw [7,8] (fun n k wr=>∃ j v:Nat,k=.int .i64 (j:Int)/\n=.int .i64 (v:Int)/\j<=5/\a+j<=ys.length/\wr=w/\Hid (v=val ((ys.drop a).take j)/\∀ i,i<j->128<=zi ys (a+i))) (fun _ k _=>5 - (intOf k).toNat)
  case atStart=>exact ⟨0,0,rfl,rfl,by omega,by omega,rfl,rfl,fun i hi=>by omega⟩
  case round=>
   obtain ⟨j,v,rfl,rfl,hj,hjl,rfl,HI⟩:=hrel
   by_cases h5:j<5
   ·have h5':(j:Int)<5:=by omega
    by_cases hl:a+j<ys.length
    ·have hl2:(a:Int)+(j:Int)<(ys.length:Int):=by omega
     obtain ⟨b',off',e,-,ck⟩:=HC.out.at (k:=a+j) hl
     cases e
     obtain ⟨d0,d1⟩:=HB.out (a+j) hl
     generalize hzd:zi ys (a+j)=d at ck d0 d1
     have HD:Hid (zi ys (a+j)=d):=hzd
     clear hzd
     by_cases hd:128<=d
     ·go_wp2
      go_roundw
      case rel=>
       have hL:j<(ys.drop a).length:=by rw [List.length_drop];omega
       have hvv:=val_take j (ys.drop a) hL
       rw [zi_drop,HD.out,<- HI.out.1] at hvv
       have hlt:=val_lt ((ys.drop a).take j)
       rw [<- HI.out.1,List.length_take,Nat.min_eq_left (by omega)] at hlt
       refine ⟨j+1,v+(d % 128).toNat*128 ^ j,by go_num,by rw [or_step v j d h5 hlt],by omega,by omega,trivial,hvv.symm,fun i hi=>?_⟩
       by_cases e:i=j
       ·subst e;rw [HD.out];exact hd
       ·exact HI.out.2 i (by omega)
      case measure=>simp [intOf];omega
     ·have hd':d<128:=by omega
      obtain ⟨hlt,hN,hG⟩:=gn_hit h5 hl HI.out.1 HI.out.2 HD.out hd'
      by_cases hsp:d=0/\j=0
      ·obtain ⟨rfl,rfl⟩:=hsp
       have hv0:v=0:=by simpa using hlt
       subst hv0
       have HV:Hid (gnO ys (a:Int)=some (0,(a:Int)+1)):=by
        show gnO ys (a:Int)=some (0,(a:Int)+1)
        rw [hG,if_pos ⟨by decide,by omega⟩]
        simp [unf]
       clear hG hlt hN HI HD hj
       have ck':wr.cell? ⟨b,off+a,none⟩=some (.int .u8 0):=ck
       have hor0:bits .or .i64 0 0=0:=by decide
       go_wp2_with fail
       refine (specPutNum_any 0 wr).mono ?_
       rintro e w1 ⟨u1,rfl,o1,b1⟩
       obtain ⟨ap,cp,rfl,-⟩:=o1.form
       clear o1
       have hpl:(puL 0).length=1:=by decide
       rw [hpl]
       go_wp2
       exact bodyPost_ret (v:=.tuple #[.int .i64 0,.int .i64 ((a:Int)+1),.bool true]) (by simp [results,Tryz.results31,go_sem]) rfl ⟨by rw [HV.out];rfl,b1⟩
      have hor:=or_step v j d h5 hlt
      generalize hNN:v+(d % 128).toNat*128 ^ j=N at hN hG hor
      clear hNN hlt HI HD hj
      have HG:Hid (gnO ys (a:Int)=if puB (unf N)=true/\¬ (d=0/\0<j) then some (unf N,(a:Int)+j+1) else none):=hG
      clear hG
      have hNi:(N:Int)<34359738368:=by omega
      by_cases ho:N % 2=1
      ·have hob:((N:Int) % 2 == 1)=true:=by simp;omega
       by_cases hq:d=0/\0<j
       ·have HV:Hid (gnO ys (a:Int)=none):=by show gnO ys (a:Int)=none;rw [HG.out,if_neg (fun h=>h.2 hq)]
        obtain ⟨q0,q1⟩:=hq
        have qb:(d == 0)=true:=by simp [q0]
        have q2:(0:Int)<(j:Int):=by omega
        clear q0
        go_wp2
        exact bodyPost_ret (v:=.tuple #[.int .i64 0,.int .i64 0,.bool false]) (by simp [results,Tryz.results31,go_sem]) rfl ⟨by rw [HV.out];rfl,Below.refl _ _⟩
       ·have hu:unf N = -((N:Int) / 2) - 1:=by unfold unf;split <;> omega
        rw [hu] at HG
        clear hu
        have qb:(d == 0)=false:=by simp;omega
        have HQ:Hid (¬ (d=0/\0<j)):=hq
        clear hq hsp
        go_wp2_with fail
        refine (specPutNum_any (-((N:Int) / 2) - 1) wr).mono ?_
        rintro e w1 ⟨u1,rfl,o1,b1⟩
        obtain ⟨ap,cp,rfl,-⟩:=o1.form
        clear o1
        have hpl:=puL_len (-((N:Int) / 2) - 1)
        cases hpb:puB (-((N:Int) / 2) - 1) with
        | false=>
         have hpn:((puL (-((N:Int) / 2) - 1)).length:Int)=0:=by rw [puL_nil _ hpb];rfl
         have HV:Hid (gnO ys (a:Int)=none):=by show gnO ys (a:Int)=none;rw [HG.out,if_neg (fun h=>by rw [hpb] at h;cases h.1)]
         generalize (puL (-((N:Int) / 2) - 1)).length=m at *
         have hm:((m:Int) == 0)=true:=by simp;omega
         go_wp2
         exact bodyPost_ret (v:=.tuple #[.int .i64 0,.int .i64 0,.bool false]) (by simp [results,Tryz.results31,go_sem]) rfl ⟨by rw [HV.out];rfl,b1⟩
        | true=>
         have hpn:=puL_pos _ hpb
         have HV:Hid (gnO ys (a:Int)=some (-((N:Int) / 2) - 1,(a:Int)+j+1)):=by show gnO ys (a:Int)=some (-((N:Int) / 2) - 1,(a:Int)+j+1);rw [HG.out,if_pos ⟨hpb,HQ.out⟩]
         generalize (puL (-((N:Int) / 2) - 1)).length=m at *
         have hm:((m:Int) == 0)=false:=by simp;omega
         go_wp2
         exact bodyPost_ret (v:=.tuple #[.int .i64 (-((N:Int) / 2) - 1),.int .i64 ((a:Int)+j+1),.bool true]) (by simp [results,Tryz.results31,go_sem]) rfl ⟨by rw [HV.out];rfl,b1⟩
      ·have hob:((N:Int) % 2 == 1)=false:=by simp;omega
       by_cases hq:d=0/\0<j
       ·have HV:Hid (gnO ys (a:Int)=none):=by show gnO ys (a:Int)=none;rw [HG.out,if_neg (fun h=>h.2 hq)]
        obtain ⟨q0,q1⟩:=hq
        have qb:(d == 0)=true:=by simp [q0]
        have q2:(0:Int)<(j:Int):=by omega
        clear q0
        go_wp2
        exact bodyPost_ret (v:=.tuple #[.int .i64 0,.int .i64 0,.bool false]) (by simp [results,Tryz.results31,go_sem]) rfl ⟨by rw [HV.out];rfl,Below.refl _ _⟩
       ·have hu:unf N=(N:Int) / 2:=by unfold unf;split <;> omega
        rw [hu] at HG
        clear hu
        have qb:(d == 0)=false:=by simp;omega
        have HQ:Hid (¬ (d=0/\0<j)):=hq
        clear hq hsp
        go_wp2_with fail
        refine (specPutNum_any ((N:Int) / 2) wr).mono ?_
        rintro e w1 ⟨u1,rfl,o1,b1⟩
        obtain ⟨ap,cp,rfl,-⟩:=o1.form
        clear o1
        have hpl:=puL_len ((N:Int) / 2)
        cases hpb:puB ((N:Int) / 2) with
        | false=>
         have hpn:((puL ((N:Int) / 2)).length:Int)=0:=by rw [puL_nil _ hpb];rfl
         have HV:Hid (gnO ys (a:Int)=none):=by show gnO ys (a:Int)=none;rw [HG.out,if_neg (fun h=>by rw [hpb] at h;cases h.1)]
         generalize (puL ((N:Int) / 2)).length=m at *
         have hm:((m:Int) == 0)=true:=by simp;omega
         go_wp2
         exact bodyPost_ret (v:=.tuple #[.int .i64 0,.int .i64 0,.bool false]) (by simp [results,Tryz.results31,go_sem]) rfl ⟨by rw [HV.out];rfl,b1⟩
        | true=>
         have hpn:=puL_pos _ hpb
         have HV:Hid (gnO ys (a:Int)=some ((N:Int) / 2,(a:Int)+j+1)):=by show gnO ys (a:Int)=some ((N:Int) / 2,(a:Int)+j+1);rw [HG.out,if_pos ⟨hpb,HQ.out⟩]
         generalize (puL ((N:Int) / 2)).length=m at *
         have hm:((m:Int) == 0)=false:=by simp;omega
         go_wp2
         exact bodyPost_ret (v:=.tuple #[.int .i64 ((N:Int) / 2),.int .i64 ((a:Int)+j+1),.bool true]) (by simp [results,Tryz.results31,go_sem]) rfl ⟨by rw [HV.out];rfl,b1⟩
    ·have HV:Hid (gnO ys (a:Int)=none):=gn_no ha (frm_no _ j hj (by rw [List.length_drop];omega) (fun i h=>by rw [zi_drop];exact HI.out.2 i h) (.inr (by rw [List.length_drop];omega)))
     have hl2:¬ ((a:Int)+(j:Int)<(ys.length:Int)):=by omega
     clear HI
     go_wp2
     exact bodyPost_ret (v:=.tuple #[.int .i64 0,.int .i64 0,.bool false]) (by simp [results,Tryz.results31,go_sem]) rfl ⟨by rw [HV.out];rfl,Below.refl _ _⟩
   ·have HV:Hid (gnO ys (a:Int)=none):=gn_no ha (frm_no _ j hj (by rw [List.length_drop];omega) (fun i h=>by rw [zi_drop];exact HI.out.2 i h) (.inl (by omega)))
    have h5':¬ ((j:Int)<5):=by omega
    clear HI
    go_wp2
    exact bodyPost_ret (v:=.tuple #[.int .i64 0,.int .i64 0,.bool false]) (by simp [results,Tryz.results31,go_sem]) rfl ⟨by rw [HV.out];rfl,Below.refl _ _⟩
 ·have HV:Hid (gnO ys z=none):=by show gnO ys z=none;rw [gnO,if_neg hz]
  clear hc hb
  by_cases z0:z<0
  ·clear hz
   go_enter Tryz.func31,Tryz.ntmps31
   go_wp2
   exact bodyPost_ret (v:=.tuple #[.int .i64 0,.int .i64 0,.bool false]) (by simp [results,Tryz.results31,go_sem]) rfl ⟨by rw [HV.out];rfl,Below.refl _ _⟩
  ·have z1:(ys.length:Int)<=z:=by omega
   clear hz
   go_enter Tryz.func31,Tryz.ntmps31
   go_wp2
   exact bodyPost_ret (v:=.tuple #[.int .i64 0,.int .i64 0,.bool false]) (by simp [results,Tryz.results31,go_sem]) rfl ⟨by rw [HV.out];rfl,Below.refl _ _⟩
theorem conv_bytes {w:World} {a0:Option Addr} {xs:List Int} (h:SlB w a0 xs) (cap:Nat):(convert 22 9 (.slice a0 xs.length cap)).run Tryz.prog w=.ok (.string (strOfNums xs)) w:=by
 cases a0 with
 | none=>
  have hx:xs=[]:=by
   rcases h with h | ⟨b,off,e,-⟩
   ·exact h
   ·cases e
  subst hx
  exact run_convert_bytes_nil w _ 5 Tryz.underlying22 Tryz.underlying5 _ _ _ Tryz.underlying9
 | some a=>
  rcases h with rfl | ⟨b,off,e,-,hc⟩
  ·rw [run_convert_bytes_string w _ _ 5 _ _ _ Tryz.underlying22 Tryz.underlying5 Tryz.underlying9]
   have hl:(loadCells a ([]:List Int).length).run Tryz.prog w=.ok (([]:List Int).map (Value.int .u8)).toArray w:=run_loadCells_list (P:=Tryz.prog) w a [] (fun j v hj=>by simp at hj)
   rw [run_bytesToString w _ _ cap [] hl]
   rfl
  ·cases e
   exact run_convert_bytes_arg w _ 5 Tryz.underlying22 Tryz.underlying5 b off xs.length cap xs rfl hc _ Tryz.underlying9
theorem u8_inj {a b:Int} (a0:0<=a) (a1:a<=255) (b0:0<=b) (b1:b<=255) (h:UInt8.ofNat a.toNat=UInt8.ofNat b.toNat):a=b:=by
 have:=congrArg UInt8.toNat h
 rw [UInt8.toNat_ofNat',UInt8.toNat_ofNat'] at this
 omega
theorem strOf_inj:∀ {xs ys:List Int},By xs->By ys->(xs.map fun n=>UInt8.ofNat n.toNat)=(ys.map fun n=>UInt8.ofNat n.toNat)->xs=ys
 | [],[],_,_,_=>rfl
 | [],_ :: _,_,_,h=>by simp at h
 | _ :: _,[],_,_,h=>by simp at h
 | a :: xs,b :: ys,hx,hy,h=>by
  simp only [List.map_cons,List.cons.injEq] at h
  have h1:=hx 0 (by simp)
  have h2:=hy 0 (by simp)
  rw [zi_zero] at h1 h2
  rw [u8_inj h1.1 h1.2 h2.1 h2.2 h.1,strOf_inj (fun i hi=>by have:=hx (i+1) (by simp;omega);rwa [zi_cons] at this) (fun i hi=>by have:=hy (i+1) (by simp;omega);rwa [zi_cons] at this) h.2]
theorem strOf_eq {xs ys:List Int} (hx:By xs) (hy:By ys):strOfNums xs=strOfNums ys ↔ xs=ys:=by
 constructor
 ·intro h
  refine strOf_inj hx hy ?_
  rw [<- strOfNums_data,<- strOfNums_data,h]
 ·rintro rfl
  rfl
theorem fm_by:∀ (k n:Nat),n<128 ^ (k+1)->By (fmN k n)
 | 0,n,h=>fun i hi=>by
  simp [fmN] at hi h
  subst hi
  simp [fmN,zi]
  omega
 | k+1,n,h=>fun i hi=>by
  rw [fmN] at hi ⊢
  split
  ·rename_i hn
   rw [if_pos hn] at hi
   simp at hi
   subst hi
   rw [zi_zero]
   omega
  ·rename_i hn
   rw [if_neg hn] at hi
   cases i with
   | zero=>rw [zi_zero];omega
   | succ i=>
    rw [zi_cons]
    refine fm_by k (n / 128) ?_ i (by simp at hi;omega)
    rw [Nat.pow_succ] at h
    exact Nat.div_lt_of_lt_mul (by rw [Nat.mul_comm];exact h)
theorem puL_by (x:Int):By (puL x):=by
 unfold puL
 split
 ·rename_i h
  exact fm_by 4 _ (by have:=fd_le x h;omega)
 ·intro i hi
  simp at hi
theorem beq_str {a b:ByteArray} {p:Prop} [Decidable p] (h:a=b ↔ p):(a.toList == b.toList)=decide p:=by
 by_cases e:a=b
 ·subst e
  rw [decide_eq_true (h.1 rfl)]
  simp
 ·rw [decide_eq_false (fun hp=>e (h.2 hp)),ByteArray.toList_eq,ByteArray.toList_eq]
  refine beq_eq_false_iff_ne.2 (fun hd=>e ?_)
  obtain ⟨⟨l⟩⟩:=a
  obtain ⟨⟨m⟩⟩:=b
  simp only at hd
  rw [hd]
theorem bytesEqual_any (a0 a1:Option Addr) (c0 c1:Nat) (xs ys:List Int) (w:World) (h0:SlB w a0 xs) (h1:SlB w a1 ys) (hx:By xs) (hy:By ys):
  Calls Tryz.prog 106 #[.slice a0 xs.length c0,.slice a1 ys.length c1] w fun e w'=>e=.returned (.bool (decide (xs=ys)))/\w'=w:=by
 have e0:=conv_bytes h0 c0
 have e1:=conv_bytes h1 c1
 have HE:Hid (strOfNums xs=strOfNums ys ↔ xs=ys):=strOf_eq hx hy
 clear h0 h1 hx hy
 go_enter Tryz.func106,Tryz.ntmps106
 go_wp2
 go_ret
 refine ⟨?_,rfl⟩
 show Ending.returned (.bool ((strOfNums xs).toList == (strOfNums ys).toList))=_
 rw [beq_str HE.out]
theorem unfolded_any (n:Nat) (w:World) (h:n<34359738368):
  Calls Tryz.prog 105 #[.int .i64 (n:Int)] w fun e w'=>e=.returned (.int .i64 (unf n))/\w'=w:=by
 have h':(n:Int)<34359738368:=by omega
 by_cases ho:n % 2=1
 ·have hob:((n:Int) % 2 == 1)=true:=by simp;omega
  go_enter Tryz.func105,Tryz.ntmps105
  go_wp2
  go_ret
  refine ⟨ret_int ?_,rfl⟩
  rw [unf,if_pos ho,Int.tdiv_eq_ediv_of_nonneg (by omega)]
  unfold wrap64
  omega
 ·have hob:((n:Int) % 2 == 1)=false:=by simp;omega
  go_enter Tryz.func105,Tryz.ntmps105
  go_wp2
  go_ret
  exact ⟨ret_int (by unfold unf;rw [if_neg ho];omega),rfl⟩
def foO (ys:List Int) (z:Int):Option (List Int):=if 0<=z/\z<ys.length then frm 5 (ys.drop z.toNat) else none
def FoR (w:World) (ys:List Int) (z:Int) (e:Ending):Prop:=
 match foO ys z with
 | none=>e=.returned (.tuple #[.slice none 0 0,.bool false])
 | some F=>∃ a1 c1,e=.returned (.tuple #[.slice a1 F.length c1,.bool true])/\SlB w a1 F
theorem formAt_any (a0:Option Addr) (cap:Nat) (ys:List Int) (z:Int) (w:World) (hlen:ys.length<=1048576) (hcap:ys.length<=cap) (hc:SlB w a0 ys) (hb:By ys):
  Calls Tryz.prog 104 #[.slice a0 ys.length cap,.int .i64 z] w fun e w'=>FoR w ys z e/\w'=w:=by
 have hl':(ys.length:Int)<=1048576:=by omega
 by_cases hz:0<=z/\z<ys.length
 ·obtain ⟨z0,z1⟩:=hz
  obtain ⟨a,rfl⟩:=Int.eq_ofNat_of_zero_le z0
  have ha:a<ys.length:=by omega
  have HF:Hid (foO ys (a:Int)=frm 5 (ys.drop a)):=by show foO ys (a:Int)=_;rw [foO,if_pos ⟨z0,z1⟩];rfl
  have hbe:belB (a:Int) (ys.length:Int)=true:=decide_eq_true ⟨z0,z1⟩
  obtain ⟨b,off,rfl,hbl,-⟩:=hc.at (k:=a) (by omega)
  have HC:Hid (SlB w (some ⟨b,off,none⟩) ys):=hc
  have HB:Hid (By ys):=hb
  have hcc:(ys.length:Int)<=(cap:Int):=by omega
  clear hc hb
  go_enter Tryz.func104,Tryz.ntmps104
  go_wp2_with fail
  refine (isBelow_any (a:Int) (ys.length:Int) w).mono ?_
  rintro e w1 ⟨rfl,e1⟩
  obtain rfl:=e1.symm
  rw [hbe]
  clear hbe
  go_wp2_with fail
  all_goals
   obtain ⟨n,hn⟩:∃ n,ys.length=a+n:=⟨ys.length - a,by omega⟩
   have en:ys.length - a=n:=by omega
   rename_i hle
   simp only [en] at hle ⊢
   clear en
  ·go_loopw [19] (fun q wr=>∃ j:Nat,q=.int .i64 (j:Int)/\j<=5/\wr=w/\Hid (∀ i,i<j->128<=zi ys (a+i))) (fun q _=>5 - (intOf q).toNat)
   case atStart=>exact ⟨0,rfl,by omega,rfl,fun i hi=>by omega⟩
   case round=>
    obtain ⟨j,rfl,hj,rfl,HI⟩:=hrel
    by_cases hjM:j<5
    ·have hjM':(j:Int)<5:=by omega
     have hjn:(j:Int)<(n:Int):=by omega
     obtain ⟨b',off',e,-,ck⟩:=HC.out.at (k:=a+j) (by omega)
     cases e
     rw [<- Nat.add_assoc] at ck
     obtain ⟨d0,d1⟩:=HB.out (a+j) (by omega)
     generalize hzd:zi ys (a+j)=d at ck d0 d1
     have HD:Hid (zi ys (a+j)=d):=hzd
     clear hzd
     by_cases hd:d<128
     ·have HV:Hid (foO ys (a:Int)=some ((ys.drop a).take (j+1))):=by
       show foO ys (a:Int)=_
       rw [HF.out]
       exact frm_hit (ys.drop a) j (by omega) (by rw [List.length_drop];omega) (fun i h=>by rw [zi_drop];exact HI.out i h) (by rw [zi_drop,HD.out];exact hd)
      have hjc:(j:Int)+1<=((cap - a:Nat):Int):=by omega
      clear HI hjM'
      go_wp2
      refine bodyPost_ret (v:=.tuple #[.slice (some ⟨b,off+a,none⟩) (j+1) (cap - a),.bool true]) (by simp [results,Tryz.results104,go_sem]) rfl ⟨?_,rfl⟩
      unfold FoR
      rw [HV.out]
      have hl1:((ys.drop a).take (j+1)).length=j+1:=by rw [List.length_take,List.length_drop];omega
      refine ⟨_,_,by rw [hl1],.inr ⟨b,off+a,rfl,hbl,fun i hi=>?_⟩⟩
      rw [hl1] at hi
      rw [zi_take _ _ _ hi,zi_drop,Nat.add_assoc]
      obtain ⟨b',off',e,-,ck⟩:=HC.out.at (k:=a+i) (by omega)
      cases e
      exact ck
     ·go_wp2
      go_roundw
      case rel=>
       refine ⟨j+1,by go_num,by omega,trivial,fun i hi=>?_⟩
       by_cases e:i=j
       ·subst e;rw [HD.out];omega
       ·exact HI.out i (by omega)
      case measure=>simp [intOf];omega
    ·have HV:Hid (foO ys (a:Int)=none):=by
      show foO ys (a:Int)=none
      rw [HF.out]
      exact frm_no _ j (by omega) (by rw [List.length_drop];omega) (fun i h=>by rw [zi_drop];exact HI.out i h) (.inl (by omega))
     have hjM':¬ ((j:Int)<5):=by omega
     clear HI
     go_wp2
     refine bodyPost_ret (v:=.tuple #[.slice none 0 0,.bool false]) (by simp [results,Tryz.results104,go_sem]) rfl ⟨?_,rfl⟩
     unfold FoR
     rw [HV.out]
  ·go_loopw [19] (fun q wr=>∃ j:Nat,q=.int .i64 (j:Int)/\j<=n/\wr=w/\Hid (∀ i,i<j->128<=zi ys (a+i))) (fun q _=>n - (intOf q).toNat)
   case atStart=>exact ⟨0,rfl,by omega,rfl,fun i hi=>by omega⟩
   case round=>
    obtain ⟨j,rfl,hj,rfl,HI⟩:=hrel
    by_cases hjM:j<n
    ·have hjM':(j:Int)<(n:Int):=by omega
     have hjn:(j:Int)<(n:Int):=by omega
     obtain ⟨b',off',e,-,ck⟩:=HC.out.at (k:=a+j) (by omega)
     cases e
     rw [<- Nat.add_assoc] at ck
     obtain ⟨d0,d1⟩:=HB.out (a+j) (by omega)
     generalize hzd:zi ys (a+j)=d at ck d0 d1
     have HD:Hid (zi ys (a+j)=d):=hzd
     clear hzd
     by_cases hd:d<128
     ·have HV:Hid (foO ys (a:Int)=some ((ys.drop a).take (j+1))):=by
       show foO ys (a:Int)=_
       rw [HF.out]
       exact frm_hit (ys.drop a) j (by omega) (by rw [List.length_drop];omega) (fun i h=>by rw [zi_drop];exact HI.out i h) (by rw [zi_drop,HD.out];exact hd)
      have hjc:(j:Int)+1<=((cap - a:Nat):Int):=by omega
      clear HI hjM'
      go_wp2
      refine bodyPost_ret (v:=.tuple #[.slice (some ⟨b,off+a,none⟩) (j+1) (cap - a),.bool true]) (by simp [results,Tryz.results104,go_sem]) rfl ⟨?_,rfl⟩
      unfold FoR
      rw [HV.out]
      have hl1:((ys.drop a).take (j+1)).length=j+1:=by rw [List.length_take,List.length_drop];omega
      refine ⟨_,_,by rw [hl1],.inr ⟨b,off+a,rfl,hbl,fun i hi=>?_⟩⟩
      rw [hl1] at hi
      rw [zi_take _ _ _ hi,zi_drop,Nat.add_assoc]
      obtain ⟨b',off',e,-,ck⟩:=HC.out.at (k:=a+i) (by omega)
      cases e
      exact ck
     ·go_wp2
      go_roundw
      case rel=>
       refine ⟨j+1,by go_num,by omega,trivial,fun i hi=>?_⟩
       by_cases e:i=j
       ·subst e;rw [HD.out];omega
       ·exact HI.out i (by omega)
      case measure=>simp [intOf];omega
    ·have HV:Hid (foO ys (a:Int)=none):=by
      show foO ys (a:Int)=none
      rw [HF.out]
      exact frm_no _ j (by omega) (by rw [List.length_drop];omega) (fun i h=>by rw [zi_drop];exact HI.out i h) (.inr (by rw [List.length_drop];omega))
     have hjM':¬ ((j:Int)<(n:Int)):=by omega
     clear HI
     go_wp2
     refine bodyPost_ret (v:=.tuple #[.slice none 0 0,.bool false]) (by simp [results,Tryz.results104,go_sem]) rfl ⟨?_,rfl⟩
     unfold FoR
     rw [HV.out]
 ·have HV:Hid (foO ys z=none):=by show foO ys z=none;rw [foO,if_neg hz]
  have hbe:belB z (ys.length:Int)=false:=decide_eq_false hz
  clear hc hb hz
  go_enter Tryz.func104,Tryz.ntmps104
  go_wp2_with fail
  refine (isBelow_any z (ys.length:Int) w).mono ?_
  rintro e w1 ⟨rfl,e1⟩
  obtain rfl:=e1.symm
  rw [hbe]
  clear hbe
  go_wp2
  refine bodyPost_ret (v:=.tuple #[.slice none 0 0,.bool false]) (by simp [results,Tryz.results104,go_sem]) rfl ⟨?_,rfl⟩
  unfold FoR
  rw [HV.out]
theorem pow_le_five {j:Nat} (h:j<=5):(128:Nat) ^ j<=34359738368:=zO (Nat.pow_le_pow_right (by omega) h) (by decide)
theorem gn_fo (ys:List Int) (z:Int):gnO ys z=match foO ys z with | none=>none | some F=>if puB (unf (val F))=true/\okF F=true then some (unf (val F),z+F.length) else none:=by
 unfold gnO foO
 split
 ·rfl
 ·rfl
theorem fo_is {ys F:List Int} {z:Int} (hb:By ys) (h:foO ys z=some F):isF F/\F.length<=5/\1<=F.length/\By F/\0<=z/\z+F.length<=ys.length:=by
 unfold foO at h
 split at h
 ·rename_i hz
  generalize ha:z.toNat=a at h
  have hbd:By (ys.drop a):=fun i hi=>by rw [List.length_drop] at hi;rw [zi_drop];exact hb _ (by omega)
  have key:∀ k,k<=5->k<=(ys.drop a).length->(∀ j,j<k->128<=zi (ys.drop a) j)->∃ m,m<5/\m<(ys.drop a).length/\(∀ j,j<m->128<=zi (ys.drop a) j)/\zi (ys.drop a) m<128:=by
   intro k hk
   obtain ⟨q,hq⟩:∃ q,q=5 - k:=⟨_,rfl⟩
   induction q generalizing k with
   | zero=>
    intro h1 h2
    rw [frm_no _ k hk h1 h2 (.inl (by omega))] at h
    cases h
   | succ q ih=>
    intro h1 h2
    by_cases e:k=(ys.drop a).length
    ·rw [frm_no _ k hk h1 h2 (.inr e)] at h
     cases h
    ·by_cases hd:zi (ys.drop a) k<128
     ·exact ⟨k,by omega,by omega,h2,hd⟩
     ·exact ih (k + 1) (by omega) (by omega) (by omega) (fun j hj => by
       by_cases e:j=k
       ·subst e;omega
       ·exact h2 j (by omega))
  obtain ⟨m,h5,hl,hm,hd⟩:=key 0 (by omega) (by omega) (fun j hj=>by omega)
  rw [frm_hit _ m h5 hl hm hd] at h
  cases h
  have hl1:((ys.drop a).take (m+1)).length=m+1:=by rw [List.length_take];omega
  refine ⟨isF_take m _ hl hbd hm hd,by omega,by omega,fun i hi=>?_,hz.1,?_⟩
  ·rw [hl1] at hi
   rw [zi_take _ _ _ hi]
   exact hbd i (by omega)
  ·rw [hl1]
   rw [List.length_drop] at hl
   omega
 ·cases h
theorem implGetNum_any (a0:Option Addr) (cap:Nat) (ys:List Int) (z:Int) (w:World) (hlen:ys.length<=1048576) (hcap:ys.length<=cap) (hc:SlB w a0 ys) (hb:By ys):
  Calls Tryz.prog 74 #[.slice a0 ys.length cap,.int .i64 z] w fun e w'=>e=.returned (gnV (gnO ys z))/\Below w.heap.size w w':=by
 have HG:Hid (gnO ys z=match foO ys z with | none=>none | some F=>if puB (unf (val F))=true/\okF F=true then some (unf (val F),z+F.length) else none):=gn_fo ys z
 have HC:Hid (SlB w a0 ys):=hc
 have HB:Hid (By ys):=hb
 have HL:Hid (ys.length<=1048576/\ys.length<=cap):=⟨hlen,hcap⟩
 clear hc hb hlen hcap
 go_enter Tryz.func74,Tryz.ntmps74
 go_wp2_with fail
 refine (formAt_any a0 cap ys z w HL.out.1 HL.out.2 HC.out HB.out).mono ?_
 rintro e w1 ⟨hr,e1⟩
 obtain rfl:=e1.symm
 unfold FoR at hr
 cases hf:foO ys z with
 | none=>
  rw [hf] at hr
  subst hr
  have HV:Hid (gnO ys z=none):=by show gnO ys z=none;rw [HG.out,hf]
  clear hf
  go_wp2
  exact bodyPost_ret (v:=.tuple #[.int .i64 0,.int .i64 0,.bool false]) (by simp [results,Tryz.results74,go_sem]) rfl ⟨by rw [HV.out];rfl,Below.refl _ _⟩
 | some F=>
  rw [hf] at hr
  obtain ⟨a1,c1,rfl,sl⟩:=hr
  obtain ⟨f1,f2,f3,f4,f5,f6⟩:=fo_is HB.out hf
  have hll:=HL.out.1
  have HV:Hid (gnO ys z=if puB (unf (val F))=true/\okF F=true then some (unf (val F),z+F.length) else none):=by show gnO ys z=_;rw [HG.out,hf]
  have HS:Hid (SlB w a1 F):=sl
  have HF:Hid (isF F/\By F):=⟨f1,f4⟩
  have hFl:(F.length:Int)<=5:=by omega
  have hFu:z+(F.length:Int)<=1048576:=by omega
  have hFs:F.length<=1048576:=by omega
  clear sl f1 f4 hf HG hll f6
  go_wp2_with fail
  go_loopw [9,10,24] (fun s q i wr=>∃ j v p:Nat,i=.int .i64 (j:Int)/\s=.int .i64 (v:Int)/\q=.int .i64 (p:Int)/\j<=F.length/\wr=w/\Hid (v=val (F.take j)/\p=128 ^ j)) (fun _ _ i _=>F.length - (intOf i).toNat)
  case atStart=>exact ⟨0,0,1,rfl,rfl,rfl,by omega,rfl,rfl,rfl⟩
  case round=>
   obtain ⟨j,v,p,rfl,rfl,rfl,hj,rfl,HI⟩:=hrel
   by_cases hjl:j<F.length
   ·have hjl':(j:Int)<(F.length:Int):=by omega
    obtain ⟨b,off,rfl,hbl,ck⟩:=HS.out.at hjl
    obtain ⟨d0,d1⟩:=HF.out.2 j hjl
    generalize hzd:zi F j=d at ck d0 d1
    have HD:Hid (zi F j=d):=hzd
    clear hzd
    have hp:p<=34359738368:=by rw [HI.out.2];exact pow_le_five (by omega)
    have hvl:v<34359738368:=by
     have:=val_lt (F.take j)
     rw [List.length_take,Nat.min_eq_left (by omega),<- HI.out.1] at this
     have:=pow_le_five (j:=j) (by omega)
     omega
    have hmn:(d % 128).toNat*p<=127*34359738368:=Nat.mul_le_mul (by omega) hp
    have hmi:(d % 128)*(p:Int)=(((d % 128).toNat*p:Nat):Int):=by
     rw [Int.natCast_mul]
     congr 1
     omega
    have hm0:0<=(d % 128)*(p:Int):=by rw [hmi];omega
    have hm1:(d % 128)*(p:Int)<=4363686772736:=by rw [hmi];omega
    have HM:Hid ((d % 128)*(p:Int)=(((d % 128).toNat*p:Nat):Int)):=hmi
    clear hmi hmn
    have hp':(p:Int)<=34359738368:=by omega
    have hv':(v:Int)<34359738368:=by omega
    go_wp2
    go_roundw
    case rel=>
     have hvv:=val_take j F hjl
     rw [HD.out,<- HI.out.1,<- HI.out.2] at hvv
     refine ⟨j+1,v+(d % 128).toNat*p,p*128,by go_num,?_,by go_num,by omega,trivial,hvv.symm,by rw [Nat.pow_succ,HI.out.2]⟩
     rw [HM.out]
     go_num
    case measure=>simp [intOf];omega
   ·have hjl':¬ ((j:Int)<(F.length:Int)):=by omega
    have hvl:v<34359738368:=by
     have:=val_lt (F.take j)
     rw [List.length_take,Nat.min_eq_left (by omega),<- HI.out.1] at this
     have:=pow_le_five (j:=j) (by omega)
     omega
    have HW:Hid (v=val F):=by show v=val F;rw [HI.out.1,List.take_of_length_le (by omega)]
    clear HI
    go_wp2_with fail
    refine (unfolded_any v wr hvl).mono ?_
    rintro e w2 ⟨rfl,e2⟩
    obtain rfl:=e2.symm
    go_wp2_with fail
    refine (implPutNum_any (unf v) wr).mono ?_
    rintro e w3 ⟨u3,rfl,o3,b3⟩
    obtain ⟨ap,cp,rfl,sp⟩:=o3.form
    have SP:Hid (SlB w3 ap (puL (unf v))):=sp
    have S3:Hid (SlB w3 a1 F):=HS.out.below b3
    clear o3 sp
    go_wp2_with fail
    refine (bytesEqual_any ap a1 cp c1 (puL (unf v)) F w3 SP.out S3.out (puL_by _) HF.out.2).mono ?_
    rintro e w4 ⟨rfl,e4⟩
    obtain rfl:=e4.symm
    have HP:Hid (puL (unf v)=F ↔ puB (unf (val F))=true/\okF F=true):=by
     have:=pu_form HF.out.1 f2
     rw [<- HW.out] at this ⊢
     exact this
    by_cases hq:puL (unf v)=F
    ·have hq2:decide (puL (unf v)=F)=true:=decide_eq_true hq
     have HV2:Hid (gnO ys z=some (unf v,z+F.length)):=by show gnO ys z=_;rw [HV.out,if_pos (HP.out.1 hq),HW.out]
     rw [hq2]
     clear hq hq2 HV
     go_wp2
     exact bodyPost_ret (v:=.tuple #[.int .i64 (unf v),.int .i64 (z+F.length),.bool true]) (by simp [results,Tryz.results74,go_sem]) rfl ⟨by rw [HV2.out];rfl,b3⟩
    ·have hq2:decide (puL (unf v)=F)=false:=decide_eq_false hq
     have HV2:Hid (gnO ys z=none):=by show gnO ys z=_;rw [HV.out,if_neg (fun h=>hq (HP.out.2 h))]
     rw [hq2]
     clear hq hq2 HV
     go_wp2
     exact bodyPost_ret (v:=.tuple #[.int .i64 0,.int .i64 0,.bool false]) (by simp [results,Tryz.results74,go_sem]) rfl ⟨by rw [HV2.out];rfl,b3⟩
theorem Sl.all {w:World} {a0:Option Addr} {xs:List Int} (h:Sl w a0 xs) (hn:0<xs.length):∃ b off,a0=some ⟨b,off,none⟩/\b<w.heap.size/\∀ i,i<xs.length->w.cell? ⟨b,off+i,none⟩=some (.int .i64 (zi xs i)):=by
 rcases h with rfl | h
 ·simp at hn
 ·exact h
theorem RowS.all {w:World} {a0:Option Addr} {n:Nat} {f:Nat->Value} (h:RowS w a0 n f) (hn:0<n):∃ b off,a0=some ⟨b,off,none⟩/\b<w.heap.size/\∀ i,i<n->w.cell? ⟨b,off+i,none⟩=some (f i):=by
 rcases h with rfl | h
 ·omega
 ·exact h
theorem rp_congr {g:Nat->I5} {len:Nat} {eh eh':Nat->E3}:∀ {k:Nat},(∀ i,i<k->eh' i=eh i)->rp g len eh' k=rp g len eh k
 | 0,_=>rfl
 | k+1,h=>by
  show (rp g len eh' k).bind (rpStep g len (eh' k))=(rp g len eh k).bind (rpStep g len (eh k))
  rw [rp_congr fun i hi=>h i (by omega),h k (by omega)]
theorem plN_congr {eh eh':Nat->E3} {kd pr:Int}:∀ {k:Nat},(∀ i,i<k->eh' i=eh i)->plN eh' kd pr k=plN eh kd pr k
 | 0,_=>rfl
 | k+1,h=>by
  have e:=plN_congr (kd:=kd) (pr:=pr) (k:=k) fun i hi=>h i (by omega)
  have hh:hitB eh' kd pr k=hitB eh kd pr k:=by
   unfold hitB
   rw [h k (by omega)]
  unfold plN
  rw [e,hh]
theorem plN_lt {eh:Nat->E3} {kd pr:Int}:∀ {k i:Nat},i ∈ plN eh kd pr k->i<k
 | 0,i,h=>by simp [plN] at h
 | k+1,i,h=>by
  unfold plN at h
  split at h
  ·simp only [List.mem_append,List.mem_singleton] at h
   rcases h with h | h
   ·have:=plN_lt h
    omega
   ·omega
  ·have:=plN_lt h
   omega
theorem valL_congr {eh eh':Nat->E3} {kd pr:Int} {k:Nat} (h:∀ i,i<k->eh' i=eh i):valL eh' kd pr k=valL eh kd pr k:=by
 unfold valL
 rw [plN_congr h]
 exact List.map_congr_left fun i hi=>by rw [h i (plN_lt hi)]
theorem cnt_congr {eh eh':Nat->E3} {kd pr:Int} {k:Nat} (h:∀ i,i<k->eh' i=eh i):cnt eh' kd pr k=cnt eh kd pr k:=by
 unfold cnt
 rw [plN_congr h]
theorem cnt_val (eh:Nat->E3) (kd pr:Int) (k:Nat):cnt eh kd pr k=(valL eh kd pr k).length:=by simp [cnt,valL]
theorem valL_push {eh:Nat->E3} {kd pr:Int} {n:Nat} {x:E3}:valL (fun i=>if i=n then x else eh i) kd pr (n+1)=valL eh kd pr n ++ (if x.k=kd/\x.q=pr then [x.v] else []):=by
 have e:valL (fun i=>if i=n then x else eh i) kd pr n=valL eh kd pr n:=valL_congr fun i hi=>by rw [if_neg (by omega)]
 by_cases h:x.k=kd/\x.q=pr
 ·have hh:hitB (fun i=>if i=n then x else eh i) kd pr n=true:=by
   rw [hitB_iff]
   simp only [if_true]
   exact h
  rw [valL_hit hh,e,if_pos h]
  simp
 ·have hh:hitB (fun i=>if i=n then x else eh i) kd pr n=false:=by
   rcases zK (hitB (fun i=>if i=n then x else eh i) kd pr n) with t | t
   ·rw [hitB_iff] at t
    simp only [if_true] at t
    exact absurd t h
   ·exact t
  rw [valL_not hh,e,if_neg h,List.append_nil]
theorem numL_congr {H H':Nat->I2}:∀ {n:Nat},(∀ i,i<n->H' i=H i)->numL H' n=numL H n
 | 0,_=>rfl
 | n+1,h=>by
  unfold numL
  rw [numL_congr fun i hi=>h i (by omega),h n (by omega)]
theorem numL_push (H:Nat->I2) (n:Nat) (v:Int):numL (fun i=>if i=n then ⟨false,v⟩ else H i) (n+1)=numL H n ++ [v]:=by
 rw [numL_hit (by simp)]
 rw [numL_congr (H:=H) fun i hi=>by rw [if_neg (by omega)]]
 simp
theorem numL_first {H:Nat->I2} (h0:(H 0).m=false):∀ n,numL H (n+1)=(H 0).v :: numL (fun i=>H (i+1)) n
 | 0=>by rw [numL_hit h0];rfl
 | n+1=>by
  rw [numL]
  rw [numL_first h0 n]
  conv=>rhs;rw [numL]
  split <;> simp
theorem Hs.Put.more {x x':Hs} (hn:x'.n=x.n) (hl:∀ j,x.l j<=x'.l j) (he:∀ j i,i<x.l j->x'.e j i=x.e j i) {d:Nat->Nat} (h:x.Put d):x'.Put d:=by
 induction h with
 | start=>exact .start
 | next hd hp hc ih=>
  rename_i d p
  refine .next ih (by omega) ⟨zL hc.1 (hl p),fun hk=>?_⟩
  have e:=he p (d p) hc.1
  rw [e] at hk ⊢
  have hle:=hd.le
  rw [cnt_congr (fun i hi=>he p i (Nat.lt_trans hi hc.1)),cnt_congr (fun i hi=>he _ i (zL hi (hle _)))]
  exact hc.2 hk
theorem way_inj {a b p q n:Nat} (hb:b<n) (hq:q<n) (h:a*n+b=p*n+q):a=p/\b=q:=by
 have h1:(a*n+b) / n=a:=by rw [Nat.mul_comm,Nat.mul_add_div (by omega),Nat.div_eq_of_lt hb,Nat.add_zero]
 have h2:(p*n+q) / n=p:=by rw [Nat.mul_comm,Nat.mul_add_div (by omega),Nat.div_eq_of_lt hq,Nat.add_zero]
 have h3:a=p:=by rw [<- h1,<- h2,h]
 subst h3
 exact ⟨rfl,by omega⟩
theorem same_way {a b p q n:Nat} (h1:a=p) (h2:q=b):a*n+b=p*n+q:=by rw [h1,h2]
theorem Sy.Ok.next {y:Sy} (h:y.Ok) {p:Nat} (hp:p<y.pn) (hc:(y.sS p).c=0):(y.nk p=1\/y.nk p=2\/y.nk p=3\/y.nk p=4)/\(y.nk p≠2->y.nk p≠3->y.nq p=0)/\(y.nk p=2->numB (y.nv p)=true):=by
 have hr:=h.right hp hc
 rw [<- hc] at hr
 have e1:y.nk p=evK (y.pH p (y.sS p).p.toNat).o:=if_pos hr
 have e2:y.nq p=evP (y.pH p (y.sS p).p.toNat).o (y.pH p (y.sS p).p.toNat).n:=if_pos hr
 have e3:y.nv p=evW (y.pH p (y.sS p).p.toNat).o (y.pH p (y.sS p).p.toNat).a (y.sS p).rs:=if_pos hr
 obtain ⟨hpr,hs,-⟩:=right_parts hr
 obtain ⟨⟨a1,a2,a3,a4,ers,n1,n2,n3,n4⟩,⟨k,ek,hk⟩,-,-⟩:=st_parts hs
 have ek':(y.sS p).p.toNat=k:=by omega
 obtain ⟨-,-,⟨m0,m3⟩,-⟩:=ins_range (right_ins hpr hk)
 rw [ek'] at e1 e2 e3
 refine ⟨?_,?_,?_⟩
 ·rw [e1]
  unfold evK
  split
  ·exact .inr (.inl rfl)
  ·split
   ·exact .inr (.inr (.inl rfl))
   ·split
    ·exact .inr (.inr (.inr rfl))
    ·exact .inl rfl
 ·intro h2 h3
  rw [e1] at h2 h3
  rw [e2]
  unfold evK at h2 h3
  unfold evP
  by_cases e6:(y.pH p k).o=6
  ·rw [if_pos e6] at h2
   exact absurd rfl h2
  ·rw [if_neg e6] at h3 ⊢
   by_cases e7:(y.pH p k).o=7
   ·rw [if_pos e7] at h3
    exact absurd rfl h3
   ·rw [if_neg e7]
 ·intro h2
  rw [e1] at h2
  rw [e3,ers]
  have e6:(y.pH p k).o=6:=by
   unfold evK at h2
   by_cases e6:(y.pH p k).o=6
   ·exact e6
   ·rw [if_neg e6] at h2
    split at h2
    ·cases h2
    ·split at h2 <;> cases h2
  unfold evW
  rw [if_pos e6]
  obtain ⟨j,ej⟩:∃ j:Nat,(y.pH p k).a=j:=⟨(y.pH p k).a.toNat,by omega⟩
  have hj:(y.pH p k).a.toNat<4:=by omega
  match (y.pH p k).a.toNat,hj with
  | 0,_=>exact n1
  | 1,_=>exact n2
  | 2,_=>exact n3
  | 3,_=>exact n4
structure Sy.Done (y:Sy) (p:Nat) (f:Int):Prop where
 run:(y.sS p).c=0
 room:y.hL p<200
 peer:0<=y.eq p f/\y.eq p f<(y.pn:Int)
 send:y.nk p=2->y.wL (p*y.pn+(y.eq p f).toNat)<12/\numB (y.ev p f)=true
 take:y.nk p=3->0<y.wL ((y.eq p f).toNat*y.pn+p)/\(y.wH ((y.eq p f).toNat*y.pn+p) 0).m=false/\(y.wH ((y.eq p f).toNat*y.pn+p) 0).v=y.ev p f/\numB (y.ev p f)=true
 can:doB (y.pH p) (y.pL p) (y.sS p).p (y.sS p).rs (y.sS p).os (y.sS p).c (y.nk p) (y.eq p f) (y.ev p f)=true
theorem Sy.Ok.done {y:Sy} (h:y.Ok) {p:Nat} (hp:p<y.pn) {f:Int} (hc:cmS y p f=0):y.Done p f:=by
 unfold cmS at hc
 have h4:y.pn<=4:=h.cn.1.2
 have h1:1<=y.pn:=h.cn.1.1
 by_cases c0:(y.sS p).c=0
 case neg=>
  rw [if_pos c0] at hc
  cases hc
 rw [if_neg (by simpa using c0)] at hc
 by_cases c1:fuS y p (y.nk p) (y.nq p)=true
 ·rw [if_pos c1] at hc
  cases hc
 rw [if_neg c1] at hc
 have hfu:y.hL p<200/\(y.nk p=2->y.wL (p*y.pn+(y.nq p).toNat)<12):=by
  simp only [fuS,Bool.or_eq_true,decide_eq_true_eq,Bool.and_eq_true,beq_iff_eq,not_or,not_and] at c1
  exact ⟨by omega,fun h2=>by have:=c1.2 h2;omega⟩
 obtain ⟨hk,hq0,hnv⟩:=h.next hp c0
 by_cases k3:y.nk p=3
 ·rw [if_pos k3] at hc
  have eQ:y.eq p f=if y.nq p=9 then f else y.nq p:=if_pos k3
  rw [<- eQ] at hc
  have eV:y.ev p f=(y.wH ((y.eq p f).toNat*y.pn+p) 0).v:=if_pos k3
  unfold tkS at hc
  by_cases b:belB (y.eq p f) y.pn=true
  case neg=>
   rw [if_neg b] at hc
   cases hc
  rw [if_pos b] at hc
  have hb:0<=y.eq p f/\y.eq p f<(y.pn:Int):=by simpa [belB] using b
  by_cases w0:y.wL ((y.eq p f).toNat*y.pn+p)=0
  ·rw [if_pos w0] at hc
   cases hc
  rw [if_neg w0] at hc
  by_cases m0:(y.wH ((y.eq p f).toNat*y.pn+p) 0).m=true
  ·rw [if_pos m0] at hc
   cases hc
  have hv:numB (y.ev p f)=true:=by
   have:=(h.wa (y.eq p f).toNat (by omega) p hp).it 0 (by omega)
   simp only [itemB,Bool.and_eq_true] at this
   rw [eV]
   exact this.1
  refine ⟨c0,hfu.1,hb,(fun h2=>by rw [k3] at h2;cases h2),fun _=>⟨by omega,by simpa using m0,eV.symm,hv⟩,?_⟩
  have e3:nxK (y.pH p) (y.pL p) (y.sS p).p (y.sS p).rs (y.sS p).os (y.sS p).c=3:=k3
  unfold doB canB
  rw [if_pos e3,k3,hv]
  simp only [beq_self_eq_true,Bool.true_and]
  by_cases e9:y.nq p=9
  ·have e9':nxP (y.pH p) (y.pL p) (y.sS p).p (y.sS p).rs (y.sS p).os (y.sS p).c=9:=e9
   rw [if_pos e9']
   simp only [belB,decide_eq_true_eq]
   omega
  ·have e9':¬ nxP (y.pH p) (y.pL p) (y.sS p).p (y.sS p).rs (y.sS p).os (y.sS p).c=9:=e9
   rw [if_neg e9',eQ,if_neg e9]
   simp [Sy.nq]
 ·have eQ:y.eq p f=y.nq p:=if_neg k3
  have eV:y.ev p f=y.nv p:=if_neg k3
  have hpe:0<=y.nq p/\y.nq p<(y.pn:Int):=by
   by_cases k2:y.nk p=2
   ·exact h.peer hp k2
   ·rw [hq0 k2 k3]
    omega
  refine ⟨c0,hfu.1,by rw [eQ];exact hpe,fun h2=>⟨by rw [eQ];exact hfu.2 h2,by rw [eV];exact hnv h2⟩,fun h3=>absurd h3 k3,?_⟩
  have e3:¬ nxK (y.pH p) (y.pL p) (y.sS p).p (y.sS p).rs (y.sS p).os (y.sS p).c=3:=k3
  have e0:y.nk p≠0:=by omega
  unfold doB canB
  rw [if_neg e3,eQ,eV]
  simp only [Bool.and_eq_true,bne_iff_ne,beq_iff_eq]
  exact ⟨e0,rfl,rfl,rfl⟩
theorem Sy.Ok.step {y:Sy} (h:y.Ok) {p:Nat} (hp:p<y.pn) {f:Int} (hc:cmS y p f=0):(y.step p f).Ok:=by
 have D:=h.done hp hc
 have e:y.step p f=(y.way p (y.nk p) (y.eq p f) (y.ev p f)).evt p (y.nk p) (y.eq p f) (y.ev p f):=if_pos hc
 rw [e]
 obtain ⟨q,hq⟩:∃ q:Nat,y.eq p f=q:=⟨(y.eq p f).toNat,by have:=D.peer;omega⟩
 have hqn:q<y.pn:=by have:=D.peer;omega
 have D':=D
 obtain ⟨run,room,peer,send,take,can⟩:=D
 rw [hq,Int.toNat_natCast] at send take
 rw [hq] at can ⊢
 generalize hV:y.ev p f=V at *
 obtain ⟨kk,-,-⟩:=h.next hp run
 generalize hK:y.nk p=K at *
 clear hV hK e hc hq peer D'
 -- what happened to each,now
 have hH:∀ a kd pr,valL (((y.way p K q V).evt p K q V).hH a) kd pr (((y.way p K q V).evt p K q V).hL a)=valL (y.hH a) kd pr (y.hL a) ++ (if a=p/\K=kd/\(q:Int)=pr then [V] else []):=by
  intro a kd pr
  show valL (if a=p then (fun i=>if i=y.hL p then (⟨K,q,V⟩:E3) else y.hH p i) else y.hH a) kd pr (if a=p then y.hL p+1 else y.hL a)=_
  by_cases ea:a=p
  ·subst ea
   simp only [if_true,true_and]
   exact valL_push
  ·rw [if_neg ea,if_neg ea,if_neg (fun h=>ea h.1),List.append_nil]
 refine ⟨h.cn,h.pr,fun a ha=>?_,fun a ha i hi=>?_,fun a ha b hb=>?_,?_⟩
 ·show repO (y.pH a) (y.pL a) (if a=p then (fun i=>if i=y.hL p then (⟨K,q,V⟩:E3) else y.hH p i) else y.hH a) (if a=p then y.hL p+1 else y.hL a)=some (if a=p then doS (y.pH p) (y.pL p) (y.sS p).p (y.sS p).rs (y.sS p).os (y.sS p).c K q V else y.sS a)
  by_cases ea:a=p
  ·subst ea
   simp only [if_true]
   have h0:=repO_some (h.rp a hp)
   unfold repO
   rw [if_pos ⟨h0.1,by omega⟩]
   have hr:Go.Proofs.YtpehpclhdgpjkaaGreatDoor.rp (y.pH a) (y.pL a) (fun i=>if i=y.hL a then (⟨K,q,V⟩:E3) else y.hH a i) (y.hL a)=some (y.sS a):=(rp_congr fun i hi=>by rw [if_neg (by omega)]).trans h0.2.2
   have:=rp_yes hr (by simpa using can)
   simpa using this
  ·rw [if_neg ea,if_neg ea,if_neg ea]
   exact h.rp a ha
 ·have hi':i<(if a=p then y.hL p+1 else y.hL a):=hi
  show ((if a=p then (fun i=>if i=y.hL p then (⟨K,q,V⟩:E3) else y.hH p i) else y.hH a) i).q<(y.pn:Int)
  by_cases ea:a=p
  ·subst ea
   simp only [if_true] at hi' ⊢
   by_cases ei:i=y.hL a
   ·rw [if_pos ei]
    show (q:Int)<_
    omega
   ·rw [if_neg ei]
    exact h.pe a hp i (by omega)
  ·rw [if_neg ea] at hi' ⊢
   exact h.pe a ha i hi'
 ·have wab:=h.wa a ha b hb
  rw [hH b 3 a,hH a 2 b]
  show WayP (((y.way p K q V)).wH (a*y.pn+b)) ((y.way p K q V).wL (a*y.pn+b)) _ _
  by_cases k2:K=2
  ·subst k2
   rw [Sy.way_send,if_neg (fun h=>by have:=h.2.1;omega),List.append_nil]
   show WayP (if a*y.pn+b=p*y.pn+q then (fun i=>if i=y.wL (p*y.pn+q) then ⟨false,V⟩ else y.wH (p*y.pn+q) i) else y.wH (a*y.pn+b)) (if a*y.pn+b=p*y.pn+q then y.wL (p*y.pn+q)+1 else y.wL (a*y.pn+b)) _ _
   by_cases ew:a*y.pn+b=p*y.pn+q
   ·obtain ⟨rfl,rfl⟩:=way_inj hb hqn ew
    simp only [if_true]
    rw [if_pos ⟨trivial,trivial,trivial⟩]
    obtain ⟨s1,s2⟩:=send rfl
    refine ⟨fun i hi=>?_,by omega,?_⟩
    ·by_cases ei:i=y.wL (a*y.pn+b)
     ·rw [if_pos ei]
      simp [itemB,s2]
     ·rw [if_neg ei]
      exact wab.it i (by omega)
    ·rw [numL_push,<- List.append_assoc,wab.eq]
   ·rw [if_neg ew,if_neg ew,if_neg (fun h=>ew (same_way h.1 (Int.ofNat_inj.1 h.2.2))),List.append_nil]
    exact wab
  ·by_cases k3:K=3
   ·subst k3
    rw [Sy.way_take,if_neg (c:=a=p/\(3:Int)=2/\_) (fun h=>by have:=h.2.1;omega),List.append_nil]
    show WayP (if a*y.pn+b=q*y.pn+p then (fun i=>y.wH (q*y.pn+p) (i+1)) else y.wH (a*y.pn+b)) (if a*y.pn+b=q*y.pn+p then y.wL (q*y.pn+p) - 1 else y.wL (a*y.pn+b)) _ _
    by_cases ew:a*y.pn+b=q*y.pn+p
    ·obtain ⟨rfl,rfl⟩:=way_inj hb hp ew
     simp only [if_true]
     rw [if_pos ⟨trivial,trivial,trivial⟩]
     obtain ⟨t1,t2,t3,-⟩:=take rfl
     obtain ⟨m,em⟩:∃ m,y.wL (a*y.pn+b)=m+1:=⟨y.wL (a*y.pn+b) - 1,by omega⟩
     have weq:=wab.eq
     have wle:=wab.le
     have wit:=wab.it
     rw [em] at weq wle wit ⊢
     rw [Nat.add_sub_cancel]
     refine ⟨fun i hi=>wit (i+1) (by omega),by omega,?_⟩
     rw [numL_first t2,t3] at weq
     rw [List.append_assoc]
     exact weq
    ·rw [if_neg ew,if_neg ew,if_neg (fun h=>ew (same_way (Int.ofNat_inj.1 h.2.2).symm h.1.symm)),List.append_nil]
     exact wab
   ·rw [Sy.way_no y p k2 k3,if_neg (fun h=>k3 h.2.1),if_neg (fun h=>k2 h.2.1),List.append_nil,List.append_nil]
    exact wab
 ·obtain ⟨d,hd,hall⟩:=h.ro
  have hd':((y.way p K q V).evt p K q V).hs.Put d:=by
   refine Hs.Put.more (x:=y.hs) (x':=((y.way p K q V).evt p K q V).hs) rfl (fun j=>?_) (fun j i hi=>?_) hd
   ·show y.hL j<=if j=p then y.hL p+1 else y.hL j
    by_cases ej:j=p
    ·rw [if_pos ej,ej];omega
    ·rw [if_neg ej];exact Nat.le_refl _
   ·have hi':i<y.hL j:=hi
    show (if j=p then (fun i=>if i=y.hL p then (⟨K,q,V⟩:E3) else y.hH p i) else y.hH j) i=y.hH j i
    by_cases ej:j=p
    ·subst ej
     rw [if_pos rfl,if_neg (by omega)]
    ·rw [if_neg ej]
  have hdp:d p=y.hL p:=hall p hp
  have epH:∀ a,a≠p->((y.way p K q V).evt p K q V).hs.e a=y.hH a:=fun a ha=>by
   show (if a=p then _ else y.hH a)=_
   rw [if_neg ha]
  have epp:((y.way p K q V).evt p K q V).hs.e p=fun i=>if i=y.hL p then (⟨K,q,V⟩:E3) else y.hH p i:=by
   show (if p=p then _ else y.hH p)=_
   rw [if_pos rfl]
   rfl
  have elp:((y.way p K q V).evt p K q V).hs.l p=y.hL p+1:=by
   show (if p=p then _ else y.hL p)=_
   rw [if_pos rfl]
   rfl
  have ece:∀ a kd pr,a<y.pn->cnt (((y.way p K q V).evt p K q V).hs.e a) kd pr (d a)=(valL (y.hH a) kd pr (y.hL a)).length:=fun a kd pr ha=>by
   have hda:d a=y.hL a:=hall a ha
   rw [hda,<- cnt_val]
   refine cnt_congr fun i hi=>?_
   by_cases ea:a=p
   ·subst ea
    rw [epp]
    show (if i=y.hL a then (⟨K,q,V⟩:E3) else y.hH a i)=y.hH a i
    rw [if_neg (by omega)]
   ·rw [epH a ea]
  refine ⟨up d p,.next hd' hp ⟨by rw [elp,hdp];omega,fun hk=>?_⟩,fun a ha=>?_⟩
  ·have ee:((y.way p K q V).evt p K q V).hs.e p (d p)=⟨K,q,V⟩:=by rw [epp,hdp];exact if_pos rfl
   rw [ee] at hk ⊢
   have hk':K=3:=hk
   show cnt _ 3 (q:Int) _<cnt (((y.way p K q V).evt p K q V).hs.e (q:Int).toNat) 2 p (d (q:Int).toNat)
   rw [Int.toNat_natCast,ece p 3 q hp,ece q 2 p hqn]
   obtain ⟨t1,t2,-⟩:=take hk'
   obtain ⟨m,em⟩:∃ m,y.wL (q*y.pn+p)=m+1:=⟨y.wL (q*y.pn+p) - 1,by omega⟩
   have weq:=(h.wa q hqn p hp).eq
   rw [em,numL_first t2] at weq
   have:=congrArg List.length weq
   simp only [List.length_append,List.length_cons] at this
   omega
  ·have hda:d a=y.hL a:=hall a ha
   by_cases ea:a=p
   ·subst ea
    rw [up_same,elp,hdp]
   ·rw [up_other ea,hda]
    show y.hL a=if a=p then _ else y.hL a
    rw [if_neg ea]
