import Derived.Test.YtnfdnnmddadmkaaGreatDoorOg30
import Derived.Defers
import Derived.Deep.LoopGhost
import Derived.Deep.Cut
import Derived.Deep.MidRow
namespace Go.Proofs.YtnfdnnmddadmkaaGreatDoor
set_option maxRecDepth 100000
set_option maxHeartbeats 2000000
open Go.ChangeShapes Go.WideShapes Go.ChangeAt Go.RowKit Go.Deep Go.Sort
theorem qeg {xs ys:List Int} (hl:xs.length=ys.length) (h:∀ j,j<xs.length->zi xs j=zi ys j):xs=ys:=by
 refine List.ext_getElem hl fun i h1 h2=>?_
 have:=h i h1
 simpa [zi,List.getD_eq_getElem?_getD,List.getElem?_eq_getElem h1,List.getElem?_eq_getElem h2] using this
theorem qe5 (a0 a1:Option Addr) (c0 c1:Nat) (xs ys:List Int) (w:World) (hx:xs.length<=1048576) (hy:ys.length<=1048576) (h0:Sl w a0 xs) (h1:Sl w a1 ys):
  Calls Tryz.prog 119 #[.slice a0 xs.length c0,.slice a1 ys.length c1] w fun e w'=>e=.returned (.bool (xs == ys))/\Below w.heap.size w w':=by
 have hl':(xs.length:Int)<=1048576:=by omega
 have hl2:(ys.length:Int)<=1048576:=by omega
 by_cases hl:xs.length=ys.length
 ·have H0:Hid (Sl w a0 xs):=h0
  have H1:Hid (Sl w a1 ys):=h1
  have HL:Hid (xs.length=ys.length):=hl
  rw [<- hl]
  clear h0 h1 hl hy hl2
  go_enter Tryz.func119,Tryz.ntmps119
  go_wp2_with fail
  go_loopw [13] (fun i wr=>∃ k:Nat,k<=xs.length/\i=.int .i64 k/\Below w.heap.size w wr/\Hid (∀ j,j<k->zi xs j=zi ys j)) (fun i _=>xs.length - (intOf i).toNat)
  case atStart=>exact ⟨0,Nat.zero_le _,rfl,Below.refl _ _,fun j hj=>by omega⟩
  case round=>
   obtain ⟨k,hk,rfl,hbw,HZ⟩:=hrel
   by_cases hlt:k<xs.length
   ·have hlt2:k<ys.length:=by have:=HL.out;omega
    obtain ⟨b,off,rfl,hbl,ck⟩:=(H0.out.below hbw).at hlt
    obtain ⟨b',off',rfl,hbl',ck'⟩:=(H1.out.below hbw).at hlt2
    have hlt':(k:Int)<(xs.length:Int):=by omega
    clear hlt2
    rcases zK (zi xs k != zi ys k) with t | t
    ·have HN:Hid ((xs == ys)=false):=by
      show (xs == ys)=false
      rw [beq_eq_false_iff_ne]
      intro e
      rw [e] at t
      simp at t
     go_wp2_with fail
     go_quiet (fail)
     go_wp2
     go_ret
     rw [HN.out]
     exact ⟨rfl,yC hbw _⟩
    ·have HZ':Hid (∀ j,j<k+1->zi xs j=zi ys j):=fun j hj=>by
      by_cases e:j=k
      ·subst e
       simpa using t
      ·exact HZ.out j (by omega)
     clear HZ
     go_wp2_with fail
     go_quiet (fail)
     go_wp2
     go_roundw
     case rel=>exact ⟨k+1,by omega,by go_num,yC hbw _,HZ'.out⟩
     case measure=>simp [intOf];omega
   ·have HE:Hid ((xs == ys)=true):=by
     show (xs == ys)=true
     rw [beq_iff_eq]
     exact qeg HL.out fun j hj=>HZ.out j (by omega)
    clear HZ
    go_wp2
    go_ret
    rw [HE.out]
    exact ⟨rfl,hbw⟩
 ·have hne:((xs.length:Int) != (ys.length:Int))=true:=by simp;omega
  have HN:Hid ((xs == ys)=false):=by
   show (xs == ys)=false
   rw [beq_eq_false_iff_ne]
   intro e
   exact hl (by rw [e])
  clear h0 h1 hl
  go_enter Tryz.func119,Tryz.ntmps119
  go_wp2
  go_ret
  rw [HN.out]
  exact ⟨rfl,Below.refl _ _⟩
def eqS (S T:S4):Bool:=(S.p == T.p) && (S.c == T.c) && (S.rs == T.rs) && (S.os == T.os)
theorem qpx {S T:S4}:eqS S T=true ↔ S=T:=by
 obtain ⟨a,b,c,d⟩:=S
 obtain ⟨a',b',c',d'⟩:=T
 simp only [eqS,Bool.and_eq_true,beq_iff_eq,S4.mk.injEq]
 exact ⟨fun ⟨⟨⟨h1,h2⟩,h3⟩,h4⟩=>⟨h1,h3,h4,h2⟩,fun ⟨h1,h3,h4,h2⟩=>⟨⟨⟨h1,h2⟩,h3⟩,h4⟩⟩
theorem qfw (S T:S4) (ra oa ra' oa':Option Addr) (rc oc rc' oc':Nat) (w:World) (l1:S.rs.length<=1048576) (l2:S.os.length<=1048576) (l3:T.rs.length<=1048576) (l4:T.os.length<=1048576) (h1:Sl w ra S.rs) (h2:Sl w oa S.os) (h3:Sl w ra' T.rs) (h4:Sl w oa' T.os):
  Calls Tryz.prog 117 #[stV S.p ra S.rs.length rc oa S.os.length oc S.c,stV T.p ra' T.rs.length rc' oa' T.os.length oc' T.c] w fun e w'=>e=.returned (.bool (eqS S T))/\Below w.heap.size w w':=by
 have H1:Hid (Sl w ra S.rs/\Sl w ra' T.rs):=⟨h1,h3⟩
 have H2:Hid (Sl w oa S.os/\Sl w oa' T.os):=⟨h2,h4⟩
 clear h1 h2 h3 h4
 rcases zK (S.p == T.p) with t1 | t1
 case inr=>
  have HE:Hid (eqS S T=false):=by
   show eqS S T=false
   simp [eqS,t1]
  go_enter Tryz.func117,Tryz.ntmps117
  go_wp2
  go_ret
  rw [HE.out]
  exact ⟨rfl,by go_grown⟩
 rcases zK (S.c == T.c) with t2 | t2
 case inr=>
  have HE:Hid (eqS S T=false):=by
   show eqS S T=false
   simp [eqS,t2]
  go_enter Tryz.func117,Tryz.ntmps117
  go_wp2
  go_ret
  rw [HE.out]
  exact ⟨rfl,by go_grown⟩
 rcases zK (S.rs == T.rs) with t3 | t3
 case inr=>
  have HE:Hid (eqS S T=false):=by
   show eqS S T=false
   simp [eqS,t3]
  have T3:Hid ((S.rs == T.rs)=false):=t3
  clear t3
  go_enter Tryz.func117,Tryz.ntmps117
  go_wp2_with fail
  refine (qe5 _ _ _ _ _ _ _ l1 l3 (H1.out.1.below (by go_grown)) (H1.out.2.below (by go_grown))).mono ?_
  rintro e w1 ⟨rfl,b1⟩
  rw [T3.out]
  have B1:Hid (Below w.heap.size w w1):=qah (by go_grown) b1 (by simp;omega)
  clear b1
  go_wp2
  go_ret
  rw [HE.out]
  exact ⟨rfl,B1.out⟩
 have HE:Hid (eqS S T=(S.os == T.os)):=by
  show eqS S T=(S.os == T.os)
  simp [eqS,t1,t2,t3]
 have T3:Hid ((S.rs == T.rs)=true):=t3
 clear t3
 go_enter Tryz.func117,Tryz.ntmps117
 go_wp2_with fail
 refine (qe5 _ _ _ _ _ _ _ l1 l3 (H1.out.1.below (by go_grown)) (H1.out.2.below (by go_grown))).mono ?_
 rintro e w1 ⟨rfl,b1⟩
 rw [T3.out]
 have B1:Hid (Below w.heap.size w w1):=qah (by go_grown) b1 (by simp;omega)
 obtain ⟨hc1,hf1⟩:=qaj b1
 clear b1
 go_wp2_with fail
 refine (qe5 _ _ _ _ _ _ _ l2 l4 (H2.out.1.below B1.out) (H2.out.2.below B1.out)).mono ?_
 rintro e w2 ⟨rfl,b2⟩
 have B2:Hid (Below w.heap.size w w2):=B1.out.trans (b2.mono B1.out.size)
 clear b2 hc1 hf1
 go_wp2
 go_ret
 rw [HE.out]
 exact ⟨rfl,B2.out⟩
theorem qot (m:Bool) (v:Int) (w:World):
  Calls Tryz.prog 182 #[itV m v] w fun e w'=>e=.returned (.bool (qci ⟨m,v⟩))/\Below w.heap.size w w':=by
 rcases zK m with rfl | rfl
 ·have HE:Hid (qci ⟨true,v⟩=(v == 0)):=by
   show qci ⟨true,v⟩=(v == 0)
   simp only [qci,Bool.not_true,Bool.false_or]
   by_cases e:v=0
   ·subst e
    rfl
   ·have:(v == 0)=false:=by simpa using e
    rw [this,Bool.and_false]
  go_enter Tryz.func182,Tryz.ntmps182
  go_wp2
  go_ret
  rw [HE.out]
  exact ⟨rfl,by go_grown⟩
 ·have HE:Hid (qci ⟨false,v⟩=inB v (-1000000000) 1000000000):=by
   show qci ⟨false,v⟩=inB v (-1000000000) 1000000000
   simp [qci,numB]
  go_enter Tryz.func182,Tryz.ntmps182
  go_wp2_with fail
  refine (isNum_any _ _).mono ?_
  rintro e w1 ⟨rfl,rfl⟩
  go_wp2
  go_ret
  rw [HE.out]
  exact ⟨rfl,by go_grown⟩
def qcu (h:Nat->I2) (n:Nat):Bool:=(List.range n).all fun i=>qci (h i)
theorem qee {h:Nat->I2} {n:Nat}:qcu h n=true ↔ ∀ i,i<n->qci (h i)=true:=by
 simp [qcu]
theorem qqd {h:Nat->I2} {n k:Nat} (hk:k<n) (hf:qci (h k)=false):qcu h n=false:=by
 rcases zK (qcu h n) with t | t
 ·have:=qee.1 t k hk
  rw [hf] at this
  cases this
 ·exact t
theorem qrm (a:Option Addr) (len cap:Nat) (h:Nat->I2) (w:World) (hlen:len<=1048576) (hc:ItL w a len h):
  Calls Tryz.prog 118 #[.slice a len cap] w fun e w'=>e=.returned (.bool (decide (len<=12) && qcu h len))/\Below w.heap.size w w':=by
 have hl':(len:Int)<=1048576:=by omega
 have HC:Hid (ItL w a len h):=hc
 clear hc
 by_cases h12:len<=12
 case neg=>
  have h12':(12:Int)<(len:Int):=by omega
  have HE:Hid ((decide (len<=12) && qcu h len)=false):=by
   show (decide (len<=12) && qcu h len)=false
   simp [h12]
  go_enter Tryz.func118,Tryz.ntmps118
  go_wp2
  go_ret
  rw [HE.out]
  exact ⟨rfl,Below.refl _ _⟩
 have h12':¬ (12:Int)<(len:Int):=by omega
 have HE:Hid ((decide (len<=12) && qcu h len)=qcu h len):=by
  show (decide (len<=12) && qcu h len)=qcu h len
  simp [h12]
 clear h12
 go_enter Tryz.func118,Tryz.ntmps118
 go_wp2_with fail
 go_loopw [10] (fun i wr=>∃ k:Nat,k<=len/\i=.int .i64 k/\Below w.heap.size w wr/\Hid (∀ j,j<k->qci (h j)=true)) (fun i _=>len - (intOf i).toNat)
 case atStart=>exact ⟨0,Nat.zero_le _,rfl,Below.refl _ _,fun j hj=>by omega⟩
 case round=>
  obtain ⟨k,hk,rfl,hbw,HZ⟩:=hrel
  by_cases hlt:k<len
  ·have hlt':(k:Int)<(len:Int):=by omega
   obtain ⟨b,off,rfl,-,c0,c1⟩:=(HC.out.below hbw).at hlt
   go_wp2_with fail
   refine (qot _ _ _).mono ?_
   rintro e w1 ⟨rfl,b1⟩
   have B1:Hid (Below w.heap.size w w1):=hbw.trans (((zT wr _).trans (b1.mono (by simp))).mono hbw.size)
   clear b1
   rcases zK (qci (h k)) with t | t
   ·have HZ':Hid (∀ j,j<k+1->qci (h j)=true):=fun j hj=>by
     by_cases e:j=k
     ·subst e
      exact t
     ·exact HZ.out j (by omega)
    rw [show qci { m:=(h k).m,v:=(h k).v }=true from t]
    clear HZ t
    go_wp2
    go_roundw
    case rel=>exact ⟨k+1,by omega,by go_num,B1.out,HZ'.out⟩
    case measure=>simp [intOf];omega
   ·have HN:Hid (qcu h len=false):=qqd hlt t
    rw [show qci { m:=(h k).m,v:=(h k).v }=false from t]
    clear HZ t
    go_wp2
    go_ret
    rw [HE.out,HN.out]
    exact ⟨rfl,B1.out⟩
  ·have HN:Hid (qcu h len=true):=qee.2 fun j hj=>HZ.out j (by omega)
   clear HZ
   go_wp2
   go_ret
   rw [HE.out,HN.out]
   exact ⟨rfl,hbw⟩
noncomputable def pB (p:Prop):Bool:=@decide p (Classical.propDecidable _)
theorem qqw {p:Prop} (h:p):pB p=true:=by simp [pB,h]
theorem qei {p:Prop} (h:¬ p):pB p=false:=by simp [pB,h]
theorem qf3 (S T:S4) (ra oa ra' oa':Option Addr) (rc oc rc' oc':Nat) (w:World) (l1:S.rs.length<=1048576) (l2:S.os.length<=1048576) (_l3:T.rs.length<=1048576) (_l4:T.os.length<=1048576) (h1:Sl w ra S.rs) (h2:Sl w oa S.os) (h3:Sl w ra' T.rs) (h4:Sl w oa' T.os):
  Calls Tryz.prog 110 #[stV S.p ra S.rs.length rc oa S.os.length oc S.c,stV T.p ra' T.rs.length rc' oa' T.os.length oc' T.c] w fun e w'=>e=.returned (.bool (eqS S T))/\Below w.heap.size w w':=by
 have l1':(S.rs.length:Int)<=1048576:=by omega
 have l2':(S.os.length:Int)<=1048576:=by omega
 have H1:Hid (Sl w ra S.rs/\Sl w ra' T.rs):=⟨h1,h3⟩
 have H2:Hid (Sl w oa S.os/\Sl w oa' T.os):=⟨h2,h4⟩
 clear h1 h2 h3 h4 l1 l2
 rcases zK (S.p != T.p) with t1 | t1
 case inl=>
  have HE:Hid (eqS S T=false):=by
   show eqS S T=false
   have:(S.p == T.p)=false:=by simpa using t1
   simp [eqS,this]
  go_enter Tryz.func110,Tryz.ntmps110
  go_wp2
  go_ret
  rw [HE.out]
  exact ⟨rfl,by go_grown⟩
 rcases zK (S.c != T.c) with t2 | t2
 case inl=>
  have HE:Hid (eqS S T=false):=by
   show eqS S T=false
   have:(S.c == T.c)=false:=by simpa using t2
   simp [eqS,this]
  go_enter Tryz.func110,Tryz.ntmps110
  go_wp2
  go_ret
  rw [HE.out]
  exact ⟨rfl,by go_grown⟩
 rcases zK ((S.rs.length:Int) != (T.rs.length:Int)) with t3 | t3
 case inl=>
  have HE:Hid (eqS S T=false):=by
   show eqS S T=false
   have:(S.rs == T.rs)=false:=by
    rw [beq_eq_false_iff_ne]
    intro e
    rw [e] at t3
    simp at t3
   simp [eqS,this]
  go_enter Tryz.func110,Tryz.ntmps110
  go_wp2
  go_ret
  rw [HE.out]
  exact ⟨rfl,by go_grown⟩
 rcases zK ((S.os.length:Int) != (T.os.length:Int)) with t4 | t4
 case inl=>
  have HE:Hid (eqS S T=false):=by
   show eqS S T=false
   have:(S.os == T.os)=false:=by
    rw [beq_eq_false_iff_ne]
    intro e
    rw [e] at t4
    simp at t4
   simp [eqS,this]
  go_enter Tryz.func110,Tryz.ntmps110
  go_wp2
  go_ret
  rw [HE.out]
  exact ⟨rfl,by go_grown⟩
 have HE:Hid (eqS S T=((S.rs == T.rs) && (S.os == T.os))/\S.rs.length=T.rs.length/\S.os.length=T.os.length):=by
  have e1:(S.p == T.p)=true:=by simpa using t1
  have e2:(S.c == T.c)=true:=by simpa using t2
  have e3:S.rs.length=T.rs.length:=by simp at t3;omega
  have e4:S.os.length=T.os.length:=by simp at t4;omega
  refine ⟨?_,e3,e4⟩
  show eqS S T=_
  simp [eqS,e1,e2]
 have N1:Hid (BoxC ((w.alloc (oQ1 S.p ra S.rs.length rc oa S.os.length oc S.c)).alloc (oQ1 T.p ra' T.rs.length rc' oa' T.os.length oc' T.c)) w.heap.size (.int .i64 S.p) (.slice ra S.rs.length rc) (.slice oa S.os.length oc) (.int .i64 S.c)):=(BoxC.new w _ _ _ _ _).below (zT _ _)
 have N2:Hid (BoxC ((w.alloc (oQ1 S.p ra S.rs.length rc oa S.os.length oc S.c)).alloc (oQ1 T.p ra' T.rs.length rc' oa' T.os.length oc' T.c)) (w.heap.size+1) (.int .i64 T.p) (.slice ra' T.rs.length rc') (.slice oa' T.os.length oc') (.int .i64 T.c)):=by
  have h:=BoxC.new (w.alloc (oQ1 S.p ra S.rs.length rc oa S.os.length oc S.c)) (.int .i64 T.p) (.slice ra' T.rs.length rc') (.slice oa' T.os.length oc') (.int .i64 T.c) 93
  rw [World.size_alloc] at h
  exact h
 have NB:Hid (Below w.heap.size w ((w.alloc (oQ1 S.p ra S.rs.length rc oa S.os.length oc S.c)).alloc (oQ1 T.p ra' T.rs.length rc' oa' T.os.length oc' T.c))):=by
  show Below _ _ _
  go_grown
 go_enter Tryz.func110,Tryz.ntmps110
 go_wp2_with fail
 generalize (w.alloc (oQ1 S.p ra S.rs.length rc oa S.os.length oc S.c)).alloc (oQ1 T.p ra' T.rs.length rc' oa' T.os.length oc' T.c)=wb at *
 go_loopw [5] (fun i wr=>∃ k:Nat,k<=S.rs.length/\i=.int .i64 k/\Below wb.heap.size wb wr/\Hid (∀ j,j<k->zi S.rs j=zi T.rs j)) (fun i _=>S.rs.length - (intOf i).toNat)
 case atStart=>exact ⟨0,Nat.zero_le _,rfl,Below.refl _ _,fun j hj=>by omega⟩
 case round=>
  obtain ⟨k,hk,rfl,hbw,HZ⟩:=hrel
  have hw:Below w.heap.size w wr:=NB.out.trans (hbw.mono NB.out.size)
  obtain ⟨n0,n1,n2,n3⟩:=N1.out.below hbw
  obtain ⟨m0,m1,m2,m3⟩:=N2.out.below hbw
  by_cases hlt:k<S.rs.length
  ·have hlt2:k<T.rs.length:=by have:=HE.out;omega
   obtain ⟨b,off,rfl,hbl,ck⟩:=(H1.out.1.below hw).at hlt
   obtain ⟨b',off',rfl,hbl',ck'⟩:=(H1.out.2.below hw).at hlt2
   have hlt':(k:Int)<(S.rs.length:Int):=by omega
   have hlt2':(k:Int)<(T.rs.length:Int):=by omega
   clear hlt2
   rcases zK (zi S.rs k != zi T.rs k) with t | t
   ·have HN:Hid (eqS S T=false):=by
     show eqS S T=false
     rw [HE.out.1]
     have:(S.rs == T.rs)=false:=by
      rw [beq_eq_false_iff_ne]
      intro e
      rw [e] at t
      simp at t
     rw [this,Bool.false_and]
    go_wp2_with fail
    go_quiet (fail)
    go_wp2
    go_ret
    rw [HN.out]
    exact ⟨rfl,yC hw _⟩
   ·have HZ':Hid (∀ j,j<k+1->zi S.rs j=zi T.rs j):=fun j hj=>by
     by_cases e:j=k
     ·subst e
      simpa using t
     ·exact HZ.out j (by omega)
    clear HZ
    go_wp2_with fail
    go_quiet (fail)
    go_wp2
    go_roundw
    case rel=>exact ⟨k+1,by omega,by go_num,yC hbw _,HZ'.out⟩
    case measure=>simp [intOf];omega
  ·have HR:Hid ((S.rs == T.rs)=true):=by
    show (S.rs == T.rs)=true
    rw [beq_iff_eq]
    exact qeg HE.out.2.1 fun j hj=>HZ.out j (by omega)
   have hkl:k=S.rs.length:=by omega
   subst hkl
   clear HZ hlt hk
   go_wp2_with fail
   clear n0 n1 n2 n3 m0 m1 m2 m3
   go_loopw [6] (fun i wr=>∃ k:Nat,k<=S.os.length/\i=.int .i64 k/\Below wb.heap.size wb wr/\Hid (∀ j,j<k->zi S.os j=zi T.os j)) (fun i _=>S.os.length - (intOf i).toNat)
   case atStart=>exact ⟨0,Nat.zero_le _,rfl,hbw,fun j hj=>by omega⟩
   case round=>
    clear hbw hw
    obtain ⟨k,hk,rfl,hbw,HZ⟩:=hrel
    have hw:Below w.heap.size w wr:=NB.out.trans (hbw.mono NB.out.size)
    obtain ⟨n0,n1,n2,n3⟩:=N1.out.below hbw
    obtain ⟨m0,m1,m2,m3⟩:=N2.out.below hbw
    by_cases hlt:k<S.os.length
    ·have hlt2:k<T.os.length:=by have:=HE.out;omega
     obtain ⟨b,off,rfl,hbl,ck⟩:=(H2.out.1.below hw).at hlt
     obtain ⟨b',off',rfl,hbl',ck'⟩:=(H2.out.2.below hw).at hlt2
     have hlt':(k:Int)<(S.os.length:Int):=by omega
     have hlt2':(k:Int)<(T.os.length:Int):=by omega
     clear hlt2
     rcases zK (zi S.os k != zi T.os k) with t | t
     ·have HN:Hid (eqS S T=false):=by
       show eqS S T=false
       rw [HE.out.1]
       have:(S.os == T.os)=false:=by
        rw [beq_eq_false_iff_ne]
        intro e
        rw [e] at t
        simp at t
       rw [this,Bool.and_false]
      go_wp2_with fail
      go_quiet (fail)
      go_wp2
      go_ret
      rw [HN.out]
      exact ⟨rfl,yC hw _⟩
     ·have HZ':Hid (∀ j,j<k+1->zi S.os j=zi T.os j):=fun j hj=>by
       by_cases e:j=k
       ·subst e
        simpa using t
       ·exact HZ.out j (by omega)
      clear HZ
      go_wp2_with fail
      go_quiet (fail)
      go_wp2
      go_roundw
      case rel=>exact ⟨k+1,by omega,by go_num,yC hbw _,HZ'.out⟩
      case measure=>simp [intOf];omega
    ·have HN:Hid (eqS S T=true):=by
      show eqS S T=true
      rw [HE.out.1,HR.out,Bool.true_and,beq_iff_eq]
      exact qeg HE.out.2.2 fun j hj=>HZ.out j (by omega)
     clear HZ
     go_wp2
     go_ret
     rw [HN.out]
     exact ⟨rfl,hw⟩
structure LWay (h:Nat->I2) (len:Nat) (sent:List Int) (t:Nat):Prop where
 it:∀ i,i<len->qci (h i)=true
 le:len<=12
 ln:sent.length=t+(numL h len).length
 eq:∀ j,j<(numL h len).length->zi (numL h len) j=zi sent (t+j)
theorem qeq {xs ys:List Int} {j:Nat} (h:j<xs.length):zi (xs ++ ys) j=zi xs j:=by
 simp [zi,List.getD_eq_getElem?_getD,List.getElem?_append_left h]
theorem qd8 {xs ys:List Int} {j:Nat}:zi (xs ++ ys) (xs.length+j)=zi ys j:=by
 simp [zi,List.getD_eq_getElem?_getD,List.getElem?_append_right]
theorem LWay.iff {h:Nat->I2} {len:Nat} {took sent:List Int}:(LWay h len sent took.length/\∀ i,i<took.length->zi took i=zi sent i) ↔ WayP h len took sent:=by
 refine ⟨fun ⟨a,b⟩=>⟨a.it,a.le,?_⟩,fun a=>⟨⟨a.it,a.le,by rw [<- a.eq,List.length_append],fun j _=>by rw [<- a.eq,qd8]⟩,fun i hi=>by rw [<- a.eq,qeq hi]⟩⟩
 refine qeg (by rw [List.length_append,a.ln]) fun j hj=>?_
 by_cases hl:j<took.length
 ·rw [qeq hl,b j hl]
 ·rw [List.length_append] at hj
  have e:j=took.length+(j - took.length):=by omega
  rw [e,qd8]
  exact a.eq _ (by omega)
theorem qqp (a:Option Addr) (len cap:Nat) (h:Nat->I2) (sa:Option Addr) (sc:Nat) (sent:List Int) (t:Nat) (w:World) (hlen:len<=1048576) (hc:ItL w a len h) (hs:sent.length<=1048576) (hS:Sl w sa sent) (ht:t<=1048576):
  Calls Tryz.prog 112 #[.slice a len cap,.slice sa sent.length sc,.int .i64 t] w fun e w'=>e=.returned (.bool (pB (LWay h len sent t)))/\Below w.heap.size w w':=by
 have hl':(len:Int)<=1048576:=by omega
 have hs':(sent.length:Int)<=1048576:=by omega
 have ht':(t:Int)<=1048576:=by omega
 have HC:Hid (ItL w a len h):=hc
 have HS:Hid (Sl w sa sent):=hS
 clear hc hS
 go_enter Tryz.func112,Tryz.ntmps112
 go_wp2_with fail
 go_loopw [7] (fun i wr=>∃ k:Nat,k<=len/\i=.int .i64 k/\Below w.heap.size w wr/\Hid (∀ j,j<k->qci (h j)=true)) (fun i _=>len - (intOf i).toNat)
 case atStart=>exact ⟨0,Nat.zero_le _,rfl,Below.refl _ _,fun j hj=>by omega⟩
 case round=>
  obtain ⟨k,hk,rfl,hbw,HZ⟩:=hrel
  by_cases hlt:k<len
  ·have hlt':(k:Int)<(len:Int):=by omega
   obtain ⟨b,off,rfl,-,c0,c1⟩:=(HC.out.below hbw).at hlt
   have hN:∀ {x:Bool},inB (h k).v (-1000000000) 1000000000=x->numB (h k).v=x:=fun e=>e
   rcases zK (inB (h k).v (-1000000000) 1000000000) with t1 | t1
   ·have go_on:qci (h k)=true->Hid (∀ j,j<k+1->qci (h j)=true):=fun t j hj=>by
     by_cases e:j=k
     ·subst e
      exact t
     ·exact HZ.out j (by omega)
    have stop:qci (h k)=false->Hid (pB (LWay h len sent t)=false):=fun t=>qei fun x=>by
     have:=x.it k hlt
     rw [t] at this
     cases this
    rcases zK (h k).m with t2 | t2
    ·rcases zK ((h k).v != 0) with t3 | t3
     ·have HN := stop (by
       have:((h k).v == 0)=false:=by simpa using t3
       simp [qci,t2,this])
      rw [t2] at c0
      clear go_on stop HZ hN
      go_wp2_with fail
      refine (l1Num_any _ _).mono ?_
      rintro e w1 ⟨rfl,rfl⟩
      rw [t1]
      go_wp2
      go_ret
      rw [HN.out]
      exact ⟨rfl,hbw⟩
     ·have HZ' := go_on (by
       have:((h k).v == 0)=true:=by simpa using t3
       simp [qci,hN t1,this])
      rw [t2] at c0
      clear go_on stop HZ hN
      go_wp2_with fail
      refine (l1Num_any _ _).mono ?_
      rintro e w1 ⟨rfl,rfl⟩
      rw [t1]
      go_wp2
      go_roundw
      case rel=>exact ⟨k+1,by omega,by go_num,hbw,HZ'.out⟩
      case measure=>simp [intOf];omega
    ·have HZ':=go_on (by simp [qci,hN t1,t2])
     rw [t2] at c0
     clear go_on stop HZ hN
     go_wp2_with fail
     refine (l1Num_any _ _).mono ?_
     rintro e w1 ⟨rfl,rfl⟩
     rw [t1]
     go_wp2
     go_roundw
     case rel=>exact ⟨k+1,by omega,by go_num,hbw,HZ'.out⟩
     case measure=>simp [intOf];omega
   ·have HN:Hid (pB (LWay h len sent t)=false):=qei fun x=>by
     have:=x.it k hlt
     simp [qci,hN t1] at this
    clear HZ hN
    go_wp2_with fail
    refine (l1Num_any _ _).mono ?_
    rintro e w1 ⟨rfl,rfl⟩
    rw [t1]
    go_wp2
    go_ret
    rw [HN.out]
    exact ⟨rfl,hbw⟩
  ·have HZ':Hid (∀ j,j<len->qci (h j)=true):=fun j hj=>HZ.out j (by omega)
   have hkl:k=len:=by omega
   subst hkl
   clear HZ hlt hk
   go_wp2_with fail
   refine (qjj a k cap h wr hlen (HC.out.below hbw)).mono ?_
   rintro e w1 ⟨v,rfl,o1,b1⟩
   obtain ⟨na,nc,rfl,s1⟩:=o1.form
   have B1:Hid (Below w.heap.size w w1):=hbw.trans (b1.mono hbw.size)
   have S1:Hid (Sl w1 na (numL h k)):=s1
   have hnl:=qfy h k
   have hnl':((numL h k).length:Int)<=1048576:=by omega
   clear o1 b1 s1 hbw
   generalize hNU:numL h k=nu at *
   have HNU:Hid (numL h k=nu):=hNU
   clear hNU hnl
   by_cases h12:k<=12
   case neg=>
    have h12':(12:Int)<(k:Int):=by omega
    have HN:Hid (pB (LWay h k sent t)=false):=qei fun x=>h12 x.le
    go_wp2
    go_ret
    rw [HN.out]
    exact ⟨rfl,B1.out⟩
   have h12':¬ (12:Int)<(k:Int):=by omega
   rcases zK (((sent.length:Int) - (t:Int)) != (nu.length:Int)) with t5 | t5
   ·have HN:Hid (pB (LWay h k sent t)=false):=qei fun x=>by
     have:=x.ln
     rw [HNU.out] at this
     rw [this] at t5
     simp at t5
     omega
    go_wp2
    go_ret
    rw [HN.out]
    exact ⟨rfl,B1.out⟩
   have HLN:Hid (sent.length=t+nu.length):=by
    show sent.length=t+nu.length
    simp at t5
    omega
   go_wp2_with fail
   go_loopw [9] (fun i wr=>∃ j:Nat,j<=nu.length/\i=.int .i64 j/\Below w1.heap.size w1 wr/\Hid (∀ i,i<j->zi nu i=zi sent (t+i))) (fun i _=>nu.length - (intOf i).toNat)
   case atStart=>exact ⟨0,Nat.zero_le _,rfl,Below.refl _ _,fun j hj=>by omega⟩
   case round=>
    obtain ⟨j,hj,rfl,hbw,HZ⟩:=hrel
    have hw:Below w.heap.size w wr:=B1.out.trans (hbw.mono B1.out.size)
    by_cases hlt:j<nu.length
    ·have hlt2:t+j<sent.length:=by have:=HLN.out;omega
     obtain ⟨b,off,rfl,hbl,ck⟩:=(S1.out.below hbw).at hlt
     obtain ⟨b',off',rfl,hbl',ck'⟩:=(HS.out.below hw).at hlt2
     have hlt':(j:Int)<(nu.length:Int):=by omega
     have hlt2':(t:Int)+(j:Int)<(sent.length:Int):=by omega
     have hq:((t:Int)+(j:Int)).toNat=t+j:=by omega
     clear hlt2
     rcases zK (zi nu j != zi sent (t+j)) with t6 | t6
     ·have HN:Hid (pB (LWay h k sent t)=false):=qei fun x=>by
       have:=x.eq j (by rw [HNU.out];exact hlt)
       rw [HNU.out] at this
       rw [this] at t6
       simp at t6
      go_wp2_with fail
      go_quiet (fail)
      go_wp2
      go_ret
      rw [HN.out]
      exact ⟨rfl,yC hw _⟩
     ·have HZ2:Hid (∀ i,i<j+1->zi nu i=zi sent (t+i)):=fun i hi=>by
       by_cases e:i=j
       ·subst e
        simpa using t6
       ·exact HZ.out i (by omega)
      clear HZ
      go_wp2_with fail
      go_quiet (fail)
      go_wp2
      go_roundw
      case rel=>exact ⟨j+1,by omega,by go_num,yC hbw _,HZ2.out⟩
      case measure=>simp [intOf];omega
    ·have HN : Hid (pB (LWay h k sent t) = true) := qqw ⟨HZ'.out, h12, by rw [HNU.out]; exact HLN.out, fun i hi => by
      rw [HNU.out] at hi ⊢
      exact HZ.out i (by omega)⟩
     clear HZ
     go_wp2
     go_ret
     rw [HN.out]
     exact ⟨rfl,hw⟩
theorem qam.set {P:Nat->Prop} {w w':World} (h:qam P w w') {a:Addr} (ha:P a.block) (u:Value):qam P w (w'.setCell a u):=h.trans (qam.of_set w' ha u)
theorem qam.sets {P:Nat->Prop} {b:Nat} (hb:P b):∀ (vs:List Value) (o:Nat) {w w':World},qam P w w'->qam P w (w'.setCells b o vs)
 | [],_,_,_,h=>h
 | v :: r,o,_,_,h=>qam.sets hb r (o+1) (h.set (a:=⟨b,o,none⟩) hb v)
theorem qp9:(Tryz.prog.info? 78).map (·.size)=some 21:=by kernel_rfl
theorem quy (X Bf Hb:Nat) (w:World) (cs:List Value) (hl:cs.length=21) (h1:∀ v ∈ cs,v.oneCell'=true) (hB:w.rangeAt Bf 0 cs) (hT:w.there X 4 21) (hH:w.cell? ⟨Hb,0,none⟩=some (.pointer (some ⟨X,4,none⟩))) (u:FrameMode):
  CallsD Tryz.prog 122 #[.pointer (some ⟨Bf,0,none⟩),.pointer (some ⟨Hb,0,none⟩)] u w fun e u' w'=>u'=u/\(e=.returned (.tuple #[])/\qam (fun b=>b=X) w w'):=by
 have HB:Hid (w.rangeAt Bf 0 cs):=hB
 have HT:Hid (w.there X 4 cs.toArray.size):=by rw [show cs.toArray.size=21 by simp [hl]];exact hT
 have HI:Hid ((Tryz.prog.info? 78).map (·.size)=some cs.length):=by rw [hl];exact qp9
 have HO:Hid (cs.toArray.all (·.oneCell')=true):=all_oneCell_toArray h1
 clear hB hT h1 hl
 go_enter_d Tryz.func122,Tryz.ntmps122
 go_wp2_with (first|(refine wpList_load_mid rfl 78 (.tmp 0) rfl Bf 0 rfl cs _ HB.out Tryz.underlying78 rfl HI.out ?_)|(refine wpList_store_mid rfl 78 (.tmp 4) (.tmp 3) rfl X 4 cs.toArray rfl rfl HT.out (by simpa using HI.out) HO.out ?_))
 go_end0
 exact ⟨rfl,qam.sets (P:=fun b=>b=X) rfl _ _ (qam.refl _ _)⟩
def hisL (ha:Option Addr) (hc:Nat) (y:Hs) (d:Nat->Nat):List Value:=
 [.slice ha y.n hc, .int .i64 (d 0), .int .i64 (d 1), .int .i64 (d 2), .int .i64 (d 3),
  .int .i64 (y.opn d 0 0),.int .i64 (y.opn d 0 1),.int .i64 (y.opn d 0 2),.int .i64 (y.opn d 0 3),.int .i64 (y.opn d 1 0),.int .i64 (y.opn d 1 1),.int .i64 (y.opn d 1 2),.int .i64 (y.opn d 1 3),
  .int .i64 (y.opn d 2 0),.int .i64 (y.opn d 2 1),.int .i64 (y.opn d 2 2),.int .i64 (y.opn d 2 3),.int .i64 (y.opn d 3 0),.int .i64 (y.opn d 3 1),.int .i64 (y.opn d 3 2),.int .i64 (y.opn d 3 3)]
theorem HisP.range {w:World} {X:Nat} {ha:Option Addr} {hc:Nat} {y:Hs} {d:Nat->Nat} (h:HisP w X ha hc y d):w.rangeAt X 4 (hisL ha hc y d):=by
 intro j v hj
 have hl:j<21:=by
  have:=(List.getElem?_eq_some_iff.1 hj).1
  simpa [hisL] using this
 match j,hl,hj with
 | 0,_,hj=>rw [<- hj];exact h.c4
 | 1,_,hj=>rw [<- hj];exact h.pt 0 (by omega)
 | 2,_,hj=>rw [<- hj];exact h.pt 1 (by omega)
 | 3,_,hj=>rw [<- hj];exact h.pt 2 (by omega)
 | 4,_,hj=>rw [<- hj];exact h.pt 3 (by omega)
 | 5,_,hj=>rw [<- hj];exact h.op 0 0 (by omega) (by omega)
 | 6,_,hj=>rw [<- hj];exact h.op 0 1 (by omega) (by omega)
 | 7,_,hj=>rw [<- hj];exact h.op 0 2 (by omega) (by omega)
 | 8,_,hj=>rw [<- hj];exact h.op 0 3 (by omega) (by omega)
 | 9,_,hj=>rw [<- hj];exact h.op 1 0 (by omega) (by omega)
 | 10,_,hj=>rw [<- hj];exact h.op 1 1 (by omega) (by omega)
 | 11,_,hj=>rw [<- hj];exact h.op 1 2 (by omega) (by omega)
 | 12,_,hj=>rw [<- hj];exact h.op 1 3 (by omega) (by omega)
 | 13,_,hj=>rw [<- hj];exact h.op 2 0 (by omega) (by omega)
 | 14,_,hj=>rw [<- hj];exact h.op 2 1 (by omega) (by omega)
 | 15,_,hj=>rw [<- hj];exact h.op 2 2 (by omega) (by omega)
 | 16,_,hj=>rw [<- hj];exact h.op 2 3 (by omega) (by omega)
 | 17,_,hj=>rw [<- hj];exact h.op 3 0 (by omega) (by omega)
 | 18,_,hj=>rw [<- hj];exact h.op 3 1 (by omega) (by omega)
 | 19,_,hj=>rw [<- hj];exact h.op 3 2 (by omega) (by omega)
 | 20,_,hj=>rw [<- hj];exact h.op 3 3 (by omega) (by omega)
theorem qr8 {ha:Option Addr} {hc:Nat} {y:Hs} {d:Nat->Nat}:∀ v ∈ hisL ha hc y d,v.oneCell'=true:=by
 intro v hv
 simp only [hisL,List.mem_cons,List.not_mem_nil,or_false] at hv
 rcases hv with rfl | rfl | rfl | rfl | rfl | rfl | rfl | rfl | rfl | rfl | rfl | rfl | rfl | rfl | rfl | rfl | rfl | rfl | rfl | rfl | rfl <;> rfl
theorem HisP.thereX {w:World} {X:Nat} {ha:Option Addr} {hc:Nat} {y:Hs} {d:Nat->Nat} (h:HisP w X ha hc y d):w.there X 4 21:=fun j hj=>⟨h.range.isSome j (by simpa [hisL] using hj),h.fr _⟩
theorem qho {d e:Nat->Nat}:∀ {n:Nat},(∀ i,i<n->d i=e i)->sumL d n=sumL e n
 | 0,_=>rfl
 | n+1,h=>by
  show sumL d n+d n=sumL e n+e n
  rw [qho fun i hi=>h i (by omega),h n (by omega)]
theorem qcw:∀ n,sumL (fun _=>0) n=0
 | 0=>rfl
 | n+1=>qcw n
theorem qcp {d:Nat->Nat} {k:Nat}:∀ {n:Nat},k<n->sumL (up d k) n=sumL d n+1
 | 0,h=>by omega
 | n+1,h=>by
  show sumL (up d k) n+up d k n=sumL d n+d n+1
  by_cases e:k=n
  ·subst e
   rw [qbk]
   have:sumL (up d k) k=sumL d k:=qho fun i hi=>up_other (by omega)
   omega
  ·rw [qcp (by omega),up_other (by omega)]
   omega
theorem qco {d l:Nat->Nat} (h:∀ i,d i<=l i):∀ n,sumL d n<=sumL l n
 | 0=>Nat.le_refl _
 | n+1=>by
  have:=qco h n
  have:=h n
  show sumL d n+d n<=sumL l n+l n
  omega
structure Rw (w0 W wr:World) (X Bf Hb:Nat) (ha:Option Addr) (hc:Nat) (y:Hs) (cs:List Value) (d:Nat->Nat):Prop where
 pu:y.Put d
 hp:HisP wr X ha hc y d
 be:Below w0.heap.size w0 wr
 hb:wr.cell? ⟨Hb,0,none⟩=some (.pointer (some ⟨X,4,none⟩))
 bf:wr.rangeAt Bf 0 cs
theorem qfi {P:Nat->Prop} {w w':World} {b o:Nat} {cs:List Value} (h:w.rangeAt b o cs) (t:qam P w w') (hb:¬ P b):w'.rangeAt b o cs:=fun j v hv=>by
 have:=h j v hv
 rw [t.cell (zJ w _ this) hb]
 exact this
theorem Rw.touch {w0 W wr w':World} {X Bf Hb:Nat} {ha:Option Addr} {hc:Nat} {y:Hs} {cs:List Value} {d d':Nat->Nat} (h:Rw w0 W wr X Bf Hb ha hc y cs d) (t:qam (fun b=>b=X) wr w') (hX:w0.heap.size<=X) (hB:Bf≠X) (hH:Hb≠X) (pu:y.Put d') (hp:HisP w' X ha hc y d'):Rw w0 W w' X Bf Hb ha hc y cs d':=
 ⟨pu,hp,h.be.trans (t.below h.be.size fun b e=>by omega),(t.cell (zJ wr _ h.hb) hH 0).trans h.hb,qfi h.bf t hB⟩
theorem qoo (X:Nat) (ha:Option Addr) (hc:Nat) (hA:Nat->Option Addr) (hC:Nat->Nat) (y:Hs) (w0 w:World) (hE:HisE w0 ha hA hC y) (hb:Below w0.heap.size w0 w) (hX:w0.heap.size<=X) (hP:HisP w X ha hc y (fun _=>0)) (h4:y.n<=4) (hp:y.Peers) (hl:∀ i,i<y.n->y.l i<=200):
  Calls Tryz.prog 57 #[.pointer (some ⟨X,4,none⟩)] w fun e w'=>e=.returned (.bool (qB y.Row))/\Below w0.heap.size w0 w':=by
 have HE:Hid (HisE w0 ha hA hC y):=hE
 have HH:Hid (y.Peers/\(∀ i,i<y.n->y.l i<=200)/\w0.heap.size<=X):=⟨hp,hl,hX⟩
 have zX:=hP.lt
 obtain ⟨cs,hcs,hlen,hone⟩:∃ cs,w.rangeAt X 4 cs/\cs.length=21/\∀ v ∈ cs,v.oneCell'=true:=⟨_,hP.range,rfl,qr8⟩
 have hsz:cs.toArray.size=21:=by simpa using hlen
 have HL21:Hid (cs.length=21/\∀ v ∈ cs,v.oneCell'=true):=⟨hlen,hone⟩
 have HI:Hid ((Tryz.prog.info? 78).map (·.size)=some cs.length):=by rw [hlen];exact qp9
 have HR:Hid ((w.alloc (.cells #[.pointer (some ⟨X,4,none⟩)] 142)).rangeAt X 4 cs):=World.rangeAt_alloc hcs _
 have HO:Hid (cs.toArray.all (·.oneCell')=true):=all_oneCell_toArray hone
 have hmf:∀ (fn:Fn) (first cap:Array Value) (w:World),(Instr.makeFunc fn first cap).run Tryz.prog w=.ok (.func fn first cap) w:=fun _ _ _ _=>rfl
 have HT:Hid (((w.alloc (.cells #[.pointer (some ⟨X,4,none⟩)] 142)).alloc (zQ4)).there (w.heap.size+1) 0 cs.toArray.size):=fun j hj=>by
  have hj':j<21:=by rw [<- hsz];exact hj
  refine ⟨?_,yB _ _ _ _ (by simp)⟩
  rw [Nat.zero_add,zW _ _ _ j (by simp),Array.getElem?_eq_getElem (by simpa using hj')]
  rfl
 have tw:qam (fun b=>b=w.heap.size+1) w (((w.alloc (.cells #[.pointer (some ⟨X,4,none⟩)] 142)).alloc (zQ4)).setCells (w.heap.size+1) 0 cs):=qam.sets (P:=fun b=>b=w.heap.size+1) rfl _ _ (qam.of_below ((zT _ _).trans ((zT _ _).mono (by simp))))
 have HRw:Hid (Rw w0 w (((w.alloc (.cells #[.pointer (some ⟨X,4,none⟩)] 142)).alloc (zQ4)).setCells (w.heap.size+1) 0 cs) X (w.heap.size+1) w.heap.size ha hc y cs (fun _=>0)):=by
  refine ⟨.start,hP.blk (tw.block X zX (by omega)),hb.trans (tw.below hb.size fun b e=>by have:=hb.size;omega),?_,World.rangeAt_setCells_same _ _ _ _ (by simpa using HT.out)⟩
  rw [World.cell?_setCells_out _ _ _ _ _ (fun e=>absurd e (by simp)),World.cell?_alloc_lt _ _ _ (by simp)]
  exact zW _ _ _ 0 rfl
 have HX:Hid (X<w.heap.size):=zX
 clear hE hp hl hX tw hb hP zX hlen hsz hcs hone
 go_enter_defers Tryz.func57,Tryz.ntmps57
 have h0:=HRw.out.hb
 go_wp2_with (first|(refine wpList_load_mid rfl 78 (.tmp 6) rfl X 4 rfl cs _ HR.out Tryz.underlying78 rfl HI.out ?_)|(refine wpList_store_mid rfl 78 (.tmp 3) (.tmp 7) rfl (w.heap.size+1) 0 cs.toArray rfl rfl HT.out (by simpa using HI.out) HO.out ?_))
 clear HR HT HI HO
 generalize ((w.alloc (.cells #[.pointer (some ⟨X,4,none⟩)] 142)).alloc (zQ4)).setCells (w.heap.size+1) 0 cs=W1 at *
 have nX:Hid (w.heap.size+1≠X/\w.heap.size≠X):=by
  have:=HX.out
  exact ⟨by omega,by omega⟩
 refine (qnw X ha hc hA hC y (fun _=>0) W1 (HE.out.below HRw.out.be) HRw.out.hp h4 HH.out.1 HH.out.2.1 HRw.out.pu.le).mono ?_
 rintro e w1 ⟨q1,hor⟩
 have HNx:Hid (Rw w0 w w1 X (w.heap.size+1) w.heap.size ha hc y cs (fun _=>0)):=HRw.out.touch (qam.of_below q1) HH.out.2.2 nX.out.1 nX.out.2 HRw.out.pu (HRw.out.hp.below q1)
 obtain ⟨z,rfl,HOr⟩:∃ z:Int,e=.returned (.int .i64 z)/\Hid ((∃ k,k<y.n/\y.Can (fun _=>0) k/\z=(k:Nat))\/(z = -1/\∀ p,p<y.n->¬ y.Can (fun _=>0) p)):=by
  rcases hor with ⟨k,hk,hcan,rfl⟩ | ⟨rfl,hn⟩
  ·exact ⟨_,rfl,.inl ⟨k,hk,hcan,rfl⟩⟩
  ·exact ⟨_,rfl,.inr ⟨rfl,hn⟩⟩
 clear hor q1 h0 HRw
 go_wp2_with fail
 go_loopg [4] (sumL y.l y.n) (fun k p wr=>∃ d z,k=sumL y.l y.n - sumL d y.n/\p=.int .i64 z/\Rw w0 w wr X (w.heap.size+1) w.heap.size ha hc y cs d/\Hid ((∃ k,k<y.n/\y.Can d k/\z=(k:Nat))\/(z = -1/\∀ p,p<y.n->¬ y.Can d p)))
 case atStart=>exact ⟨_,z,by simp [qcw],rfl,HNx.out,HOr.out⟩
 case round=>
  clear HNx HOr
  obtain ⟨d,zz,hgk,rfl,rw0,HOr⟩:=hrel
  have HRr:Hid (Rw w0 w wr X (w.heap.size+1) w.heap.size ha hc y cs d):=rw0
  have h1:=rw0.hb
  have HG:Hid (gk=sumL y.l y.n - sumL d y.n):=hgk
  clear rw0 hgk
  rcases HOr.out with ⟨k,hk,hcan,rfl⟩ | ⟨rfl,hst⟩
  ·have HCn:Hid (y.Can d k):=hcan
   have hz:¬ (k:Int) = -1:=by omega
   have hz':((k:Int) == -1)=false:=by simp
   clear HOr hcan
   go_wp2_with fail
   refine (qo8 X ha hc hA hC y d k wr (HE.out.below HRr.out.be) HRr.out.hp h4 hk HH.out.1 HH.out.2.1 HRr.out.pu.le HCn.out.1).mono ?_
   rintro e w1 ⟨rfl,hp1,t1⟩
   have hpu:y.Put (up d k):=.next HRr.out.pu hk HCn.out
   have HN:Hid (Rw w0 w w1 X (w.heap.size+1) w.heap.size ha hc y cs (up d k)):=HRr.out.touch t1 HH.out.2.2 nX.out.1 nX.out.2 hpu hp1
   have HM:Hid (sumL y.l y.n - sumL (up d k) y.n<gk):=by
    have h2:=qcp (d:=d) hk
    have h3:=qco hpu.le y.n
    have h4:=HG.out
    show sumL y.l y.n - sumL (up d k) y.n<gk
    omega
   clear hp1 t1 hpu h1 HRr HG hz hz'
   generalize up d k=d2 at *
   have h1:=HN.out.hb
   go_wp2_with fail
   refine (qnw X ha hc hA hC y d2 w1 (HE.out.below HN.out.be) HN.out.hp h4 HH.out.1 HH.out.2.1 HN.out.pu.le).mono ?_
   rintro e w2 ⟨q2,hor⟩
   have HN2:Hid (Rw w0 w w2 X (w.heap.size+1) w.heap.size ha hc y cs d2):=HN.out.touch (qam.of_below q2) HH.out.2.2 nX.out.1 nX.out.2 HN.out.pu (HN.out.hp.below q2)
   obtain ⟨z,rfl,HOr⟩:∃ z:Int,e=.returned (.int .i64 z)/\Hid ((∃ k,k<y.n/\y.Can d2 k/\z=(k:Nat))\/(z = -1/\∀ p,p<y.n->¬ y.Can d2 p)):=by
    rcases hor with ⟨k,hk,hcan,rfl⟩ | ⟨rfl,hn⟩
    ·exact ⟨_,rfl,.inl ⟨k,hk,hcan,rfl⟩⟩
    ·exact ⟨_,rfl,.inr ⟨rfl,hn⟩⟩
   clear hor q2 h1 HN
   go_wp2
   go_roundg (sumL y.l y.n - sumL d2 y.n)
   case measure=>exact HM.out
   case rel=>exact ⟨d2,z,rfl,rfl,HN2.out,HOr.out⟩
  ·have HRow:Hid (qB (y.All d)=qB y.Row):=by
    show qB (y.All d)=qB y.Row
    have hi:=Hs.row_iff HRr.out.pu HH.out.1 hst
    by_cases hr:y.Row
    ·rw [qax hr,qax (hi.1 hr)]
    ·rw [qap hr,qap (fun h=>hr (hi.2 h))]
   have HN:Hid (Rw w0 w wr X (w.heap.size+1) w.heap.size ha hc y cs d):=HRr.out
   clear hst HG HOr HRr
   go_wp2_with fail
   refine (qog X ha hc hA hC y d wr (HE.out.below HN.out.be) HN.out.hp h4 HH.out.2.1 HN.out.pu.le).mono ?_
   rintro e w2 ⟨rfl,b2⟩
   rw [HRow.out]
   have B2:Hid (Below wr.heap.size wr w2):=b2
   clear b2 h1
   have HB2:Hid (Below w0.heap.size w0 w2/\w2.rangeAt (w.heap.size+1) 0 cs/\w2.there X 4 21/\w2.cell? ⟨w.heap.size,0,none⟩=some (.pointer (some ⟨X,4,none⟩))):=
    ⟨HN.out.be.trans (B2.out.mono HN.out.be.size),qfi (P:=fun _=>False) HN.out.bf (qam.of_below B2.out) (fun h=>h),(HN.out.hp.below B2.out).thereX,(B2.out.cell (p:=⟨w.heap.size,0,none⟩) (zJ wr _ HN.out.hb)).trans HN.out.hb⟩
   go_wp2
   refine leaves_cons (f:=122) (args:=#[.pointer (some ⟨w.heap.size+1,0,none⟩),.pointer (some ⟨w.heap.size,0,none⟩)]) (by simp) (by simp [go_sem]) ?_
   refine (quy X (w.heap.size+1) w.heap.size w2 cs HL21.out.1 HL21.out.2 HB2.out.2.1 HB2.out.2.2.1 HB2.out.2.2.2 .returning).mono ?_
   rintro e u' w3 ⟨rfl,rfl,t3⟩
   exact ⟨_,results_tmp rfl _ _ _,rfl,HB2.out.1.trans (t3.below HB2.out.1.size fun b e=>by have:=HH.out.2.2;omega)⟩
