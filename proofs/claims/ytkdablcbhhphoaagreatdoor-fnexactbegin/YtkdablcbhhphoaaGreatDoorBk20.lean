import Derived.Test.YtkdablcbhhphoaaGreatDoorBk15
import Derived.Test.YtkdablcbhhphoaaGreatDoorBk16
import Derived.Test.YtkdablcbhhphoaaGreatDoorBk19
namespace Go.Proofs.YtkdablcbhhphoaaGreatDoor
set_option maxRecDepth 100000
set_option maxHeartbeats 4000000
open Go.ChangeShapes Go.WideShapes Go.ChangeAt Go.RowKit Go.Deep Go.Sort
theorem qeh {xs ys:List Int} (hl:xs.length=ys.length) (h:∀ j,j<xs.length->zi xs j=zi ys j):xs=ys:=by
 refine List.ext_getElem hl fun i h1 h2=>?_;have:=h i h1;simpa [zi,List.getD_eq_getElem?_getD,List.getElem?_eq_getElem h1,List.getElem?_eq_getElem h2] using this
theorem qfi (a0 a1:Option Addr) (c0 c1:Nat) (xs ys:List Int) (w:World) (hx:xs.length<=1048576) (hy:ys.length<=1048576) (h0:Sl w a0 xs) (h1:Sl w a1 ys):
  Calls Tryz.prog 184 #[.slice a0 xs.length c0,.slice a1 ys.length c1] w fun e w'=>e=.returned (.bool (xs == ys))/\Below w.heap.size w w':=by
 have hl':(xs.length:Int)<=1048576:=by omega
 have hl2:(ys.length:Int)<=1048576:=by omega
 by_cases hl:xs.length=ys.length
 ·have H0:Hid (Sl w a0 xs):=h0
  have H1:Hid (Sl w a1 ys):=h1;have HL:Hid (xs.length=ys.length):=hl;rw [<- hl];clear h0 h1 hl hy hl2
  go_enter Tryz.func184,Tryz.ntmps184
  go_wp2_with fail
  go_loopw [13] (fun i wr=>∃ k:Nat,k<=xs.length/\i=.int .i64 k/\Below w.heap.size w wr/\Hid (∀ j,j<k->zi xs j=zi ys j)) (fun i _=>xs.length - (intOf i).toNat)
  case atStart=>exact ⟨0,Nat.zero_le _,rfl,Below.refl _ _,fun j hj=>by omega⟩
  case round=>
   obtain ⟨k,hk,rfl,hbw,HZ⟩:=hrel;by_cases hlt:k<xs.length
   ·have hlt2:k<ys.length:=by have:=HL.out;omega
    obtain ⟨b,off,rfl,hbl,ck⟩:=(H0.out.below hbw).at hlt;obtain ⟨b',off',rfl,hbl',ck'⟩:=(H1.out.below hbw).at hlt2;have hlt':(k:Int)<(xs.length:Int):=by omega
    clear hlt2
    rcases zK (zi xs k != zi ys k) with t | t
    ·have HN:Hid ((xs == ys)=false):=by
      show (xs == ys)=false;rw [beq_eq_false_iff_ne];intro e;rw [e] at t;simp at t
     go_wp2_with fail
     go_quiet (fail)
     go_wp2;go_ret;rw [HN.out];exact ⟨rfl,yB hbw _⟩
    ·have HZ':Hid (∀ j,j<k+1->zi xs j=zi ys j):=fun j hj=>by
      by_cases e:j=k
      ·subst e
       simpa using t
      ·exact HZ.out j (by omega)
     clear HZ;go_wp2_with fail
     go_quiet (fail)
     go_wp2;go_roundw
     case rel=>exact ⟨k+1,by omega,by go_num,yB hbw _,HZ'.out⟩
     case measure=>simp [intOf];omega
   ·have HE:Hid ((xs == ys)=true):=by
     show (xs == ys)=true;rw [beq_iff_eq];exact qeh HL.out fun j hj=>HZ.out j (by omega)
    clear HZ;go_wp2;go_ret;rw [HE.out];exact ⟨rfl,hbw⟩
 ·have hne:((xs.length:Int) != (ys.length:Int))=true:=by simp;omega
  have HN:Hid ((xs == ys)=false):=by
   show (xs == ys)=false;rw [beq_eq_false_iff_ne];intro e;exact hl (by rw [e])
  clear h0 h1 hl
  go_enter Tryz.func184,Tryz.ntmps184
  go_wp2;go_ret;rw [HN.out];exact ⟨rfl,Below.refl _ _⟩
def eqS (S T:S4):Bool:=(S.p == T.p) && (S.c == T.c) && (S.rs == T.rs) && (S.os == T.os)
theorem quf {S T:S4}:eqS S T=true ↔ S=T:=by
 obtain ⟨a,b,c,d⟩:=S;obtain ⟨a',b',c',d'⟩:=T;simp only [eqS,Bool.and_eq_true,beq_iff_eq,S4.mk.injEq];exact ⟨fun ⟨⟨⟨h1,h2⟩,h3⟩,h4⟩=>⟨h1,h3,h4,h2⟩,fun ⟨h1,h3,h4,h2⟩=>⟨⟨⟨h1,h2⟩,h3⟩,h4⟩⟩
theorem qgh (S T:S4) (ra oa ra' oa':Option Addr) (rc oc rc' oc':Nat) (w:World) (l1:S.rs.length<=1048576) (l2:S.os.length<=1048576) (l3:T.rs.length<=1048576) (l4:T.os.length<=1048576) (h1:Sl w ra S.rs) (h2:Sl w oa S.os) (h3:Sl w ra' T.rs) (h4:Sl w oa' T.os):
  Calls Tryz.prog 182 #[stV S.p ra S.rs.length rc oa S.os.length oc S.c,stV T.p ra' T.rs.length rc' oa' T.os.length oc' T.c] w fun e w'=>e=.returned (.bool (eqS S T))/\Below w.heap.size w w':=by
 have H1:Hid (Sl w ra S.rs/\Sl w ra' T.rs):=⟨h1,h3⟩
 have H2:Hid (Sl w oa S.os/\Sl w oa' T.os):=⟨h2,h4⟩
 clear h1 h2 h3 h4
 rcases zK (S.p == T.p) with t1 | t1
 case inr=>
  have HE:Hid (eqS S T=false):=by
   show eqS S T=false;simp [eqS,t1]
  go_enter Tryz.func182,Tryz.ntmps182
  go_wp2;go_ret;rw [HE.out];exact ⟨rfl,by go_grown⟩
 rcases zK (S.c == T.c) with t2 | t2
 case inr=>
  have HE:Hid (eqS S T=false):=by
   show eqS S T=false;simp [eqS,t2]
  go_enter Tryz.func182,Tryz.ntmps182
  go_wp2;go_ret;rw [HE.out];exact ⟨rfl,by go_grown⟩
 rcases zK (S.rs == T.rs) with t3 | t3
 case inr=>
  have HE:Hid (eqS S T=false):=by
   show eqS S T=false;simp [eqS,t3]
  have T3:Hid ((S.rs == T.rs)=false):=t3;clear t3
  go_enter Tryz.func182,Tryz.ntmps182
  go_wp2_with fail
  refine (qfi _ _ _ _ _ _ _ l1 l3 (H1.1.below (by go_grown)) (H1.2.below (by go_grown))).mono ?_;rintro e w1 ⟨rfl,b1⟩;rw [T3.out];have B1:Hid (Below w.heap.size w w1):=qai (by go_grown) b1 (by simp;omega);clear b1;go_wp2;go_ret;rw [HE.out];exact ⟨rfl,B1.out⟩
 have HE:Hid (eqS S T=(S.os == T.os)):=by
  show eqS S T=(S.os == T.os);simp [eqS,t1,t2,t3]
 have T3:Hid ((S.rs == T.rs)=true):=t3;clear t3
 go_enter Tryz.func182,Tryz.ntmps182
 go_wp2_with fail
 refine (qfi _ _ _ _ _ _ _ l1 l3 (H1.1.below (by go_grown)) (H1.2.below (by go_grown))).mono ?_;rintro e w1 ⟨rfl,b1⟩;rw [T3.out];have B1:Hid (Below w.heap.size w w1):=qai (by go_grown) b1 (by simp;omega);obtain ⟨hc1,hf1⟩:=qap b1;clear b1;go_wp2_with fail
 refine (qfi _ _ _ _ _ _ _ l2 l4 (H2.1.below B1.out) (H2.2.below B1.out)).mono ?_;rintro e w2 ⟨rfl,b2⟩;have B2:Hid (Below w.heap.size w w2):=B1.out.trans (b2.mono B1.out.size);clear b2 hc1 hf1;go_wp2;go_ret;rw [HE.out];exact ⟨rfl,B2.out⟩
theorem qs3 (m:Bool) (v:Int) (w:World):
  Calls Tryz.prog 228 #[itV m v] w fun e w'=>e=.returned (.bool (qcg ⟨m,v⟩))/\Below w.heap.size w w':=by
 rcases zK m with rfl | rfl
 ·have HE:Hid (qcg ⟨true,v⟩=(v == 0)):=by
   show qcg ⟨true,v⟩=(v == 0);simp only [qcg,Bool.not_true,Bool.false_or];by_cases e:v=0
   ·subst e
    rfl
   ·have:(v == 0)=false:=by simpa using e
    rw [this,Bool.and_false]
  go_enter Tryz.func228,Tryz.ntmps228
  go_wp2;go_ret;rw [HE.out];exact ⟨rfl,by go_grown⟩
 ·have HE:Hid (qcg ⟨false,v⟩=inB v (-1000000000) 1000000000):=by
   show qcg ⟨false,v⟩=inB v (-1000000000) 1000000000;simp [qcg,numB]
  go_enter Tryz.func228,Tryz.ntmps228
  go_wp2_with fail
  refine (isNum_any _ _).mono ?_;rintro e w1 ⟨rfl,rfl⟩;go_wp2;go_ret;rw [HE.out];exact ⟨rfl,by go_grown⟩
def qcs (h:Nat->I2) (n:Nat):Bool:=(List.range n).all fun i=>qcg (h i)
theorem qef {h:Nat->I2} {n:Nat}:qcs h n=true ↔ ∀ i,i<n->qcg (h i)=true:=by
 simp [qcs]
theorem quw {h:Nat->I2} {n k:Nat} (hk:k<n) (hf:qcg (h k)=false):qcs h n=false:=by
 rcases zK (qcs h n) with t | t
 ·have:=qef.1 t k hk
  rw [hf] at this;cases this
 ·exact t
theorem qvx (a:Option Addr) (len cap:Nat) (h:Nat->I2) (w:World) (hlen:len<=1048576) (hc:ItL w a len h):
  Calls Tryz.prog 183 #[.slice a len cap] w fun e w'=>e=.returned (.bool (decide (len<=12) && qcs h len))/\Below w.heap.size w w':=by
 have hl':(len:Int)<=1048576:=by omega
 have HC:Hid (ItL w a len h):=hc;clear hc;by_cases h12:len<=12
 case neg=>
  have h12':(12:Int)<(len:Int):=by omega
  have HE:Hid ((decide (len<=12) && qcs h len)=false):=by
   show (decide (len<=12) && qcs h len)=false;simp [h12]
  go_enter Tryz.func183,Tryz.ntmps183
  go_wp2;go_ret;rw [HE.out];exact ⟨rfl,Below.refl _ _⟩
 have h12':¬ (12:Int)<(len:Int):=by omega
 have HE:Hid ((decide (len<=12) && qcs h len)=qcs h len):=by
  show (decide (len<=12) && qcs h len)=qcs h len;simp [h12]
 clear h12
 go_enter Tryz.func183,Tryz.ntmps183
 go_wp2_with fail
 go_loopw [10] (fun i wr=>∃ k:Nat,k<=len/\i=.int .i64 k/\Below w.heap.size w wr/\Hid (∀ j,j<k->qcg (h j)=true)) (fun i _=>len - (intOf i).toNat)
 case atStart=>exact ⟨0,Nat.zero_le _,rfl,Below.refl _ _,fun j hj=>by omega⟩
 case round=>
  obtain ⟨k,hk,rfl,hbw,HZ⟩:=hrel;by_cases hlt:k<len
  ·have hlt':(k:Int)<(len:Int):=by omega
   obtain ⟨b,off,rfl,-,c0,c1⟩:=(HC.out.below hbw).at hlt;go_wp2_with fail
   refine (qs3 _ _ _).mono ?_;rintro e w1 ⟨rfl,b1⟩;have B1:Hid (Below w.heap.size w w1):=hbw.trans (((zS wr _).trans (b1.mono (by simp))).mono hbw.size);clear b1
   rcases zK (qcg (h k)) with t | t
   ·have HZ':Hid (∀ j,j<k+1->qcg (h j)=true):=fun j hj=>by
     by_cases e:j=k
     ·subst e
      exact t
     ·exact HZ.out j (by omega)
    rw [show qcg { m:=(h k).m,v:=(h k).v }=true from t];clear HZ t;go_wp2;go_roundw
    case rel=>exact ⟨k+1,by omega,by go_num,B1.out,HZ'.out⟩
    case measure=>simp [intOf];omega
   ·have HN:Hid (qcs h len=false):=quw hlt t
    rw [show qcg { m:=(h k).m,v:=(h k).v }=false from t];clear HZ t;go_wp2;go_ret;rw [HE.out,HN.out];exact ⟨rfl,B1.out⟩
  ·have HN:Hid (qcs h len=true):=qef.2 fun j hj=>HZ.out j (by omega)
   clear HZ;go_wp2;go_ret;rw [HE.out,HN.out];exact ⟨rfl,hbw⟩
noncomputable def pB (p:Prop):Bool:=@decide p (Classical.propDecidable _)
theorem qbi {p:Prop} (h:p):pB p=true:=by simp [pB,h]
theorem qak {p:Prop} (h:¬ p):pB p=false:=by simp [pB,h]
theorem qgm (S T:S4) (ra oa ra' oa':Option Addr) (rc oc rc' oc':Nat) (w:World) (l1:S.rs.length<=1048576) (l2:S.os.length<=1048576) (_l3:T.rs.length<=1048576) (_l4:T.os.length<=1048576) (h1:Sl w ra S.rs) (h2:Sl w oa S.os) (h3:Sl w ra' T.rs) (h4:Sl w oa' T.os):
  Calls Tryz.prog 122 #[stV S.p ra S.rs.length rc oa S.os.length oc S.c,stV T.p ra' T.rs.length rc' oa' T.os.length oc' T.c] w fun e w'=>e=.returned (.bool (eqS S T))/\Below w.heap.size w w':=by
 have l1':(S.rs.length:Int)<=1048576:=by omega
 have l2':(S.os.length:Int)<=1048576:=by omega
 have H1:Hid (Sl w ra S.rs/\Sl w ra' T.rs):=⟨h1,h3⟩
 have H2:Hid (Sl w oa S.os/\Sl w oa' T.os):=⟨h2,h4⟩
 clear h1 h2 h3 h4 l1 l2
 rcases zK (S.p != T.p) with t1 | t1
 case inl=>
  have HE:Hid (eqS S T=false):=by
   show eqS S T=false;have:(S.p == T.p)=false:=by simpa using t1
   simp [eqS,this]
  go_enter Tryz.func122,Tryz.ntmps122
  go_wp2;go_ret;rw [HE.out];exact ⟨rfl,by go_grown⟩
 rcases zK (S.c != T.c) with t2 | t2
 case inl=>
  have HE:Hid (eqS S T=false):=by
   show eqS S T=false;have:(S.c == T.c)=false:=by simpa using t2
   simp [eqS,this]
  go_enter Tryz.func122,Tryz.ntmps122
  go_wp2;go_ret;rw [HE.out];exact ⟨rfl,by go_grown⟩
 rcases zK ((S.rs.length:Int) != (T.rs.length:Int)) with t3 | t3
 case inl=>
  have HE:Hid (eqS S T=false):=by
   show eqS S T=false
   have:(S.rs == T.rs)=false:=by
    rw [beq_eq_false_iff_ne];intro e;rw [e] at t3;simp at t3
   simp [eqS,this]
  go_enter Tryz.func122,Tryz.ntmps122
  go_wp2;go_ret;rw [HE.out];exact ⟨rfl,by go_grown⟩
 rcases zK ((S.os.length:Int) != (T.os.length:Int)) with t4 | t4
 case inl=>
  have HE:Hid (eqS S T=false):=by
   show eqS S T=false
   have:(S.os == T.os)=false:=by
    rw [beq_eq_false_iff_ne];intro e;rw [e] at t4;simp at t4
   simp [eqS,this]
  go_enter Tryz.func122,Tryz.ntmps122
  go_wp2;go_ret;rw [HE.out];exact ⟨rfl,by go_grown⟩
 have HE:Hid (eqS S T=((S.rs == T.rs) && (S.os == T.os))/\S.rs.length=T.rs.length/\S.os.length=T.os.length):=by
  have e1:(S.p == T.p)=true:=by simpa using t1
  have e2:(S.c == T.c)=true:=by simpa using t2
  have e3:S.rs.length=T.rs.length:=by simp at t3;omega
  have e4:S.os.length=T.os.length:=by simp at t4;omega
  refine ⟨?_,e3,e4⟩;show eqS S T=_;simp [eqS,e1,e2]
 have N1:Hid (BoxC ((w.alloc (oQ1 S.p ra S.rs.length rc oa S.os.length oc S.c)).alloc (oQ1 T.p ra' T.rs.length rc' oa' T.os.length oc' T.c)) w.heap.size (.int .i64 S.p) (.slice ra S.rs.length rc) (.slice oa S.os.length oc) (.int .i64 S.c)):=(BoxC.new w _ _ _ _ _).below (zS _ _)
 have N2:Hid (BoxC ((w.alloc (oQ1 S.p ra S.rs.length rc oa S.os.length oc S.c)).alloc (oQ1 T.p ra' T.rs.length rc' oa' T.os.length oc' T.c)) (w.heap.size+1) (.int .i64 T.p) (.slice ra' T.rs.length rc') (.slice oa' T.os.length oc') (.int .i64 T.c)):=by
  have h:=BoxC.new (w.alloc (oQ1 S.p ra S.rs.length rc oa S.os.length oc S.c)) (.int .i64 T.p) (.slice ra' T.rs.length rc') (.slice oa' T.os.length oc') (.int .i64 T.c) 142;rw [World.size_alloc] at h;exact h
 have NB:Hid (Below w.heap.size w ((w.alloc (oQ1 S.p ra S.rs.length rc oa S.os.length oc S.c)).alloc (oQ1 T.p ra' T.rs.length rc' oa' T.os.length oc' T.c))):=by
  show Below _ _ _
  go_grown
 go_enter Tryz.func122,Tryz.ntmps122
 go_wp2_with fail
 generalize (w.alloc (oQ1 S.p ra S.rs.length rc oa S.os.length oc S.c)).alloc (oQ1 T.p ra' T.rs.length rc' oa' T.os.length oc' T.c)=wb at *
 go_loopw [5] (fun i wr=>∃ k:Nat,k<=S.rs.length/\i=.int .i64 k/\Below wb.heap.size wb wr/\Hid (∀ j,j<k->zi S.rs j=zi T.rs j)) (fun i _=>S.rs.length - (intOf i).toNat)
 case atStart=>exact ⟨0,Nat.zero_le _,rfl,Below.refl _ _,fun j hj=>by omega⟩
 case round=>
  obtain ⟨k,hk,rfl,hbw,HZ⟩:=hrel;have hw:Below w.heap.size w wr:=NB.out.trans (hbw.mono NB.out.size);obtain ⟨n0,n1,n2,n3⟩:=N1.out.below hbw;obtain ⟨m0,m1,m2,m3⟩:=N2.out.below hbw;by_cases hlt:k<S.rs.length
  ·have hlt2:k<T.rs.length:=by have:=HE.out;omega
   obtain ⟨b,off,rfl,hbl,ck⟩:=(H1.1.below hw).at hlt;obtain ⟨b',off',rfl,hbl',ck'⟩:=(H1.2.below hw).at hlt2;have hlt':(k:Int)<(S.rs.length:Int):=by omega
   have hlt2':(k:Int)<(T.rs.length:Int):=by omega
   clear hlt2
   rcases zK (zi S.rs k != zi T.rs k) with t | t
   ·have HN:Hid (eqS S T=false):=by
     show eqS S T=false;rw [HE.1]
     have:(S.rs == T.rs)=false:=by
      rw [beq_eq_false_iff_ne];intro e;rw [e] at t;simp at t
     rw [this,Bool.false_and]
    go_wp2_with fail
    go_quiet (fail)
    go_wp2;go_ret;rw [HN.out];exact ⟨rfl,yB hw _⟩
   ·have HZ':Hid (∀ j,j<k+1->zi S.rs j=zi T.rs j):=fun j hj=>by
     by_cases e:j=k
     ·subst e
      simpa using t
     ·exact HZ.out j (by omega)
    clear HZ;go_wp2_with fail
    go_quiet (fail)
    go_wp2;go_roundw
    case rel=>exact ⟨k+1,by omega,by go_num,yB hbw _,HZ'.out⟩
    case measure=>simp [intOf];omega
  ·have HR:Hid ((S.rs == T.rs)=true):=by
    show (S.rs == T.rs)=true;rw [beq_iff_eq];exact qeh HE.2.1 fun j hj=>HZ.out j (by omega)
   have hkl:k=S.rs.length:=by omega
   subst hkl;clear HZ hlt hk;go_wp2_with fail
   clear n0 n1 n2 n3 m0 m1 m2 m3
   go_loopw [6] (fun i wr=>∃ k:Nat,k<=S.os.length/\i=.int .i64 k/\Below wb.heap.size wb wr/\Hid (∀ j,j<k->zi S.os j=zi T.os j)) (fun i _=>S.os.length - (intOf i).toNat)
   case atStart=>exact ⟨0,Nat.zero_le _,rfl,hbw,fun j hj=>by omega⟩
   case round=>
    clear hbw hw;obtain ⟨k,hk,rfl,hbw,HZ⟩:=hrel;have hw:Below w.heap.size w wr:=NB.out.trans (hbw.mono NB.out.size);obtain ⟨n0,n1,n2,n3⟩:=N1.out.below hbw;obtain ⟨m0,m1,m2,m3⟩:=N2.out.below hbw;by_cases hlt:k<S.os.length
    ·have hlt2:k<T.os.length:=by have:=HE.out;omega
     obtain ⟨b,off,rfl,hbl,ck⟩:=(H2.1.below hw).at hlt;obtain ⟨b',off',rfl,hbl',ck'⟩:=(H2.2.below hw).at hlt2;have hlt':(k:Int)<(S.os.length:Int):=by omega
     have hlt2':(k:Int)<(T.os.length:Int):=by omega
     clear hlt2
     rcases zK (zi S.os k != zi T.os k) with t | t
     ·have HN:Hid (eqS S T=false):=by
       show eqS S T=false;rw [HE.1]
       have:(S.os == T.os)=false:=by
        rw [beq_eq_false_iff_ne];intro e;rw [e] at t;simp at t
       rw [this,Bool.and_false]
      go_wp2_with fail
      go_quiet (fail)
      go_wp2;go_ret;rw [HN.out];exact ⟨rfl,yB hw _⟩
     ·have HZ':Hid (∀ j,j<k+1->zi S.os j=zi T.os j):=fun j hj=>by
       by_cases e:j=k
       ·subst e
        simpa using t
       ·exact HZ.out j (by omega)
      clear HZ;go_wp2_with fail
      go_quiet (fail)
      go_wp2;go_roundw
      case rel=>exact ⟨k+1,by omega,by go_num,yB hbw _,HZ'.out⟩
      case measure=>simp [intOf];omega
    ·have HN:Hid (eqS S T=true):=by
      show eqS S T=true;rw [HE.1,HR.out,Bool.true_and,beq_iff_eq];exact qeh HE.2.2 fun j hj=>HZ.out j (by omega)
     clear HZ;go_wp2;go_ret;rw [HN.out];exact ⟨rfl,hw⟩
structure LWay (h:Nat->I2) (len:Nat) (sent:List Int) (t:Nat):Prop where
 it:∀ i,i<len->qcg (h i)=true
 le:len<=12
 ln:sent.length=t+(numL h len).length
 eq:∀ j,j<(numL h len).length->zi (numL h len) j=zi sent (t+j)
theorem qev {xs ys:List Int} {j:Nat} (h:j<xs.length):zi (xs ++ ys) j=zi xs j:=by
 simp [zi,List.getD_eq_getElem?_getD,List.getElem?_append_left h]
theorem qea {xs ys:List Int} {j:Nat}:zi (xs ++ ys) (xs.length+j)=zi ys j:=by
 simp [zi,List.getD_eq_getElem?_getD,List.getElem?_append_right]
theorem LWay.iff {h:Nat->I2} {len:Nat} {took sent:List Int}:(LWay h len sent took.length/\∀ i,i<took.length->zi took i=zi sent i) ↔ WayP h len took sent:=by
 refine ⟨fun ⟨a,b⟩=>⟨a.it,a.le,?_⟩,fun a=>⟨⟨a.it,a.le,by rw [<- a.eq,List.length_append],fun j _=>by rw [<- a.eq,qea]⟩,fun i hi=>by rw [<- a.eq,qev hi]⟩⟩;refine qeh (by rw [List.length_append,a.ln]) fun j hj=>?_;by_cases hl:j<took.length
 ·rw [qev hl,b j hl]
 ·rw [List.length_append] at hj
  have e:j=took.length+(j - took.length):=by omega
  rw [e,qea];exact a.eq _ (by omega)
theorem qu2 (a:Option Addr) (len cap:Nat) (h:Nat->I2) (sa:Option Addr) (sc:Nat) (sent:List Int) (t:Nat) (w:World) (hlen:len<=1048576) (hc:ItL w a len h) (hs:sent.length<=1048576) (hS:Sl w sa sent) (ht:t<=1048576):
  Calls Tryz.prog 124 #[.slice a len cap,.slice sa sent.length sc,.int .i64 t] w fun e w'=>e=.returned (.bool (pB (LWay h len sent t)))/\Below w.heap.size w w':=by
 have hl':(len:Int)<=1048576:=by omega
 have hs':(sent.length:Int)<=1048576:=by omega
 have ht':(t:Int)<=1048576:=by omega
 have HC:Hid (ItL w a len h):=hc;have HS:Hid (Sl w sa sent):=hS;clear hc hS
 go_enter Tryz.func124,Tryz.ntmps124
 go_wp2_with fail
 go_loopw [7] (fun i wr=>∃ k:Nat,k<=len/\i=.int .i64 k/\Below w.heap.size w wr/\Hid (∀ j,j<k->qcg (h j)=true)) (fun i _=>len - (intOf i).toNat)
 case atStart=>exact ⟨0,Nat.zero_le _,rfl,Below.refl _ _,fun j hj=>by omega⟩
 case round=>
  obtain ⟨k,hk,rfl,hbw,HZ⟩:=hrel;by_cases hlt:k<len
  ·have hlt':(k:Int)<(len:Int):=by omega
   obtain ⟨b,off,rfl,-,c0,c1⟩:=(HC.out.below hbw).at hlt;have hN:∀ {x:Bool},inB (h k).v (-1000000000) 1000000000=x->numB (h k).v=x:=fun e=>e
   rcases zK (inB (h k).v (-1000000000) 1000000000) with t1 | t1
   ·have go_on:qcg (h k)=true->Hid (∀ j,j<k+1->qcg (h j)=true):=fun t j hj=>by
     by_cases e:j=k
     ·subst e
      exact t
     ·exact HZ.out j (by omega)
    have stop:qcg (h k)=false->Hid (pB (LWay h len sent t)=false):=fun t=>qak fun x=>by
     have:=x.it k hlt;rw [t] at this;cases this
    rcases zK (h k).m with t2 | t2
    ·rcases zK ((h k).v != 0) with t3 | t3
     ·have HN := stop (by
       have:((h k).v == 0)=false:=by simpa using t3
       simp [qcg,t2,this])
      rw [t2] at c0;clear go_on stop HZ hN;go_wp2_with fail
      refine (l1Num_any _ _).mono ?_;rintro e w1 ⟨rfl,rfl⟩;rw [t1];go_wp2;go_ret;rw [HN.out];exact ⟨rfl,hbw⟩
     ·have HZ' := go_on (by
       have:((h k).v == 0)=true:=by simpa using t3
       simp [qcg,hN t1,this])
      rw [t2] at c0;clear go_on stop HZ hN;go_wp2_with fail
      refine (l1Num_any _ _).mono ?_;rintro e w1 ⟨rfl,rfl⟩;rw [t1];go_wp2;go_roundw
      case rel=>exact ⟨k+1,by omega,by go_num,hbw,HZ'.out⟩
      case measure=>simp [intOf];omega
    ·have HZ':=go_on (by simp [qcg,hN t1,t2])
     rw [t2] at c0;clear go_on stop HZ hN;go_wp2_with fail
     refine (l1Num_any _ _).mono ?_;rintro e w1 ⟨rfl,rfl⟩;rw [t1];go_wp2;go_roundw
     case rel=>exact ⟨k+1,by omega,by go_num,hbw,HZ'.out⟩
     case measure=>simp [intOf];omega
   ·have HN:Hid (pB (LWay h len sent t)=false):=qak fun x=>by
     have:=x.it k hlt;simp [qcg,hN t1] at this
    clear HZ hN;go_wp2_with fail
    refine (l1Num_any _ _).mono ?_;rintro e w1 ⟨rfl,rfl⟩;rw [t1];go_wp2;go_ret;rw [HN.out];exact ⟨rfl,hbw⟩
  ·have HZ':Hid (∀ j,j<len->qcg (h j)=true):=fun j hj=>HZ.out j (by omega)
   have hkl:k=len:=by omega
   subst hkl;clear HZ hlt hk;go_wp2_with fail
   refine (qlw a k cap h wr hlen (HC.out.below hbw)).mono ?_;rintro e w1 ⟨v,rfl,o1,b1⟩;obtain ⟨na,nc,rfl,s1⟩:=o1.form;have B1:Hid (Below w.heap.size w w1):=hbw.trans (b1.mono hbw.size);have S1:Hid (Sl w1 na (numL h k)):=s1;have hnl:=qgj h k;have hnl':((numL h k).length:Int)<=1048576:=by omega
   clear o1 b1 s1 hbw;generalize hNU:numL h k=nu at *;have HNU:Hid (numL h k=nu):=hNU;clear hNU hnl;by_cases h12:k<=12
   case neg=>
    have h12':(12:Int)<(k:Int):=by omega
    have HN:Hid (pB (LWay h k sent t)=false):=qak fun x=>h12 x.le;go_wp2;go_ret;rw [HN.out];exact ⟨rfl,B1.out⟩
   have h12':¬ (12:Int)<(k:Int):=by omega
   rcases zK (((sent.length:Int) - (t:Int)) != (nu.length:Int)) with t5 | t5
   ·have HN:Hid (pB (LWay h k sent t)=false):=qak fun x=>by
     have:=x.ln;rw [HNU.out] at this;rw [this] at t5;simp at t5;omega
    go_wp2;go_ret;rw [HN.out];exact ⟨rfl,B1.out⟩
   have HLN:Hid (sent.length=t+nu.length):=by
    show sent.length=t+nu.length;simp at t5;omega
   go_wp2_with fail
   go_loopw [9] (fun i wr=>∃ j:Nat,j<=nu.length/\i=.int .i64 j/\Below w1.heap.size w1 wr/\Hid (∀ i,i<j->zi nu i=zi sent (t+i))) (fun i _=>nu.length - (intOf i).toNat)
   case atStart=>exact ⟨0,Nat.zero_le _,rfl,Below.refl _ _,fun j hj=>by omega⟩
   case round=>
    obtain ⟨j,hj,rfl,hbw,HZ⟩:=hrel;have hw:Below w.heap.size w wr:=B1.out.trans (hbw.mono B1.out.size);by_cases hlt:j<nu.length
    ·have hlt2:t+j<sent.length:=by have:=HLN.out;omega
     obtain ⟨b,off,rfl,hbl,ck⟩:=(S1.out.below hbw).at hlt;obtain ⟨b',off',rfl,hbl',ck'⟩:=(HS.out.below hw).at hlt2;have hlt':(j:Int)<(nu.length:Int):=by omega
     have hlt2':(t:Int)+(j:Int)<(sent.length:Int):=by omega
     have hq:((t:Int)+(j:Int)).toNat=t+j:=by omega
     clear hlt2
     rcases zK (zi nu j != zi sent (t+j)) with t6 | t6
     ·have HN:Hid (pB (LWay h k sent t)=false):=qak fun x=>by
       have:=x.eq j (by rw [HNU.out];exact hlt);rw [HNU.out] at this;rw [this] at t6;simp at t6
      go_wp2_with fail
      go_quiet (fail)
      go_wp2;go_ret;rw [HN.out];exact ⟨rfl,yB hw _⟩
     ·have HZ2:Hid (∀ i,i<j+1->zi nu i=zi sent (t+i)):=fun i hi=>by
       by_cases e:i=j
       ·subst e
        simpa using t6
       ·exact HZ.out i (by omega)
      clear HZ;go_wp2_with fail
      go_quiet (fail)
      go_wp2;go_roundw
      case rel=>exact ⟨j+1,by omega,by go_num,yB hbw _,HZ2.out⟩
      case measure=>simp [intOf];omega
    ·have HN : Hid (pB (LWay h k sent t) = true) := qbi ⟨HZ'.out, h12, by rw [HNU.out]; exact HLN.out, fun i hi => by
      rw [HNU.out] at hi ⊢
      exact HZ.out i (by omega)⟩
     clear HZ;go_wp2;go_ret;rw [HN.out];exact ⟨rfl,hw⟩
theorem qwr (gb n gc:Nat) (g:Nat->I5) (w:World) (hn:n<=maxLen) (hg:gb<w.heap.size) (hI:qan w gb 0 n g) (hp:qac g n 4=false):
  Calls Tryz.prog 241 #[.slice (some ⟨gb,0,none⟩) n gc] w fun e w'=>e=.returned (.tuple #[.nilFunc,.iface 273 (.agg #[.int .i64 (-1)])])/\Below w.heap.size w w':=by
 have HI:Hid (qan w gb 0 n g):=hI;have HL:Hid (n<=maxLen):=hn;have HP:Hid (qac g n 4=false):=hp;clear hI hn
 go_enter Tryz.func241,Tryz.ntmps241
 go_wp2_with fail
 refine (qc5 gb 0 n gc g 4 _ HL.out (by simp;omega) (HI.out.below (by go_grown) hg)).mono ?_;rintro e w1 ⟨rfl,b1⟩;have B1:Hid (Below w.heap.size w w1):=qai (by go_grown) b1 (by simp);clear b1;go_wp2;exact bodyPost_ret (v:=.tuple #[.nilFunc,.iface 273 (.agg #[.int .i64 (-1)])]) (by simp [results,Tryz.results241,go_sem]) rfl ⟨rfl,B1.out⟩
def AllR (w:World) (O:Option S4) (e:Ending) (w':World):Prop:=
 ∃ v err,e=.returned (.tuple #[v,err])/\Below w.heap.size w w'/\qag w' w.heap.size v (resS O).p (resS O).rs (resS O).os (resS O).c/\((O.isSome=true/\err=.nilIface)\/(O.isSome=false/\∃ x:Int,err=.iface 273 (.agg #[.int .i64 x])))
theorem qvf (gb n gc:Nat) (ea:Option Addr) (m ec:Nat) (g:Nat->I5) (eh:Nat->E3) (w:World) (hn:n<=maxLen) (hg:gb<w.heap.size) (hI:qan w gb 0 n g) (hp:qac g n 4=false):
  Calls Tryz.prog 226 #[.slice (some ⟨gb,0,none⟩) n gc,.slice ea m ec] w (AllR w (repO g n eh m)):=by
 have HI:Hid (qan w gb 0 n g):=hI
 have HO:Hid (repO g n eh m=none):=by
  show repO g n eh m=none;unfold repO;rw [if_neg (by rw [hp];simp)]
 have HP:Hid (qac g n 4=false):=hp;have HL:Hid (n<=maxLen):=hn;clear hI hn hp;rw [HO.out];have bA:=zS w (zQ0);have BA:Hid (Below w.heap.size w (w.alloc (zQ0))):=bA;have NB:Hid (BoxC (w.alloc (zQ0)) w.heap.size (.int .i64 0) (.slice none 0 0) (.slice none 0 0) (.int .i64 0)/\∀ j,(w.alloc (zQ0)).frozen? ⟨w.heap.size,j,none⟩=false):=⟨BoxC.new w _ _ _ _ _,fun j=>yA _ _ _ j rfl⟩
 clear bA
 go_enter Tryz.func226,Tryz.ntmps226
 go_wp2_with fail
 have hz:(w.alloc (zQ0)).heap.size=w.heap.size+1:=by simp
 generalize w.alloc (zQ0)=wa at *;refine (qwr gb n gc g wa HL.out (zL hg BA.out.size) (HI.out.below BA.out hg) HP.out).mono ?_;rintro e w1 ⟨rfl,b1⟩;have N1:BoxC w1 w.heap.size (.int .i64 0) (.slice none 0 0) (.slice none 0 0) (.int .i64 0):=NB.1.below b1;have F1:∀ j,w1.frozen? ⟨w.heap.size,j,none⟩=false:=fun j=>(zI (b1.block w.heap.size (by omega))).trans (NB.2 j);have B1:Hid (Below w.heap.size w w1):=BA.out.trans (b1.mono BA.out.size);obtain ⟨r0,r1,r2,r3⟩:=N1;clear b1 BA NB hz;go_wp2;exact bodyPost_ret (v:=.tuple #[stV 0 none 0 0 none 0 0 0,.iface 273 (.agg #[.int .i64 (-1)])]) (by simp [results,Tryz.results226,go_sem,r0,r1,r2,r3]) rfl ⟨_,_,rfl,(((B1.out.setCell (Nat.le_refl _) _).setCell (Nat.le_refl _) _).setCell (Nat.le_refl _) _).setCell (Nat.le_refl _) _,qag.nil _ _,.inr ⟨rfl,_,rfl⟩⟩
structure Ra (wa wr:World) (A B C X gb n gc k:Nat) (S:S4):Prop where
 rn:∃ ra rc oa oc,Rn wa wr A B C gb n gc k S.p S.c ra rc oa oc S.rs S.os
 sb:∃ ra rc oa oc,BoxC wr X (.int .i64 S.p) (.slice ra S.rs.length rc) (.slice oa S.os.length oc) (.int .i64 S.c)/\qag wr wa.heap.size (stV S.p ra S.rs.length rc oa S.os.length oc S.c) S.p S.rs S.os S.c/\¬ qae (stV S.p ra S.rs.length rc oa S.os.length oc S.c) X
 fs:∀ j,wr.frozen? ⟨X,j,none⟩=false
 ne:X≠A/\X≠B/\X≠C/\wa.heap.size<=X
theorem qag.setOut {w:World} {B N:Nat} {v:Value} {p code:Int} {rs os:List Int} (h:qag w B v p rs os code) (hN:¬ qae v N) (j:Nat) (u:Value):qag (w.setCell ⟨N,j,none⟩ u) B v p rs os code:=by
 obtain ⟨vr,vo,rfl,h1,h2,h3⟩:=h
 have blk:∀ {v':Value} {xs:List Int},OwnI w B v' xs->(v'.ownBlock≠some N)->OwnI (w.setCell ⟨N,j,none⟩ u) B v' xs:=by
  intro v' xs hv hne;obtain ⟨g0,g⟩:=hv;refine ⟨g0,?_⟩
  rcases g with g | ⟨b,cap,cur,rfl,g1,g2,g3⟩
  ·exact .inl g
  ·refine .inr ⟨b,cap,cur,rfl,g1,(zN _ _ _ _ fun e=>hne ?_).trans g2,g3⟩
   show some b=some N;rw [e]
 exact ⟨vr,vo,rfl,blk h1 fun e=>hN ((qal _ _ _ _ _).2 (.inl e)),blk h2 fun e=>hN ((qal _ _ _ _ _).2 (.inr e)),h3⟩
theorem Rn.setX {w wr:World} {A B C gb n gc k X:Nat} {p code:Int} {ra:Option Addr} {rc:Nat} {oa:Option Addr} {oc:Nat} {rs os:List Int} (h:Rn w wr A B C gb n gc k p code ra rc oa oc rs os) (hX:X≠A/\X≠B/\X≠C/\w.heap.size<=X) (hb:¬ qae (stV p ra rs.length rc oa os.length oc code) X) (j:Nat) (u:Value):Rn w (wr.setCell ⟨X,j,none⟩ u) A B C gb n gc k p code ra rc oa oc rs os:=by
 have hc:∀ N i,X≠N->(wr.setCell ⟨X,j,none⟩ u).cell? ⟨N,i,none⟩=wr.cell? ⟨N,i,none⟩:=fun N i hne=>World.cell?_setCell_other _ _ _ _ fun e=>hne (by injection e);obtain ⟨t0,t1,t2,t3⟩:=h.tl.box;refine ⟨(hc A 0 hX.1).trans h.la,⟨h.tl.lo,by simp;exact h.tl.hi,by simp,⟨(hc B 0 hX.2.1).trans t0,(hc B 1 hX.2.1).trans t1,(hc B 2 hX.2.1).trans t2,(hc B 3 hX.2.1).trans t3⟩,h.tl.own.setOut hb j u,fun i hi=>by simp;exact h.tl.up i hi,h.tl.ne⟩,fun i=>by rw [World.frozen?_setCell];exact h.fb i,(hc C 0 hX.2.2.1).trans h.ck,by rw [World.frozen?_setCell];exact h.fc,h.ne,h.nh,h.be.setCell hX.2.2.2 _⟩
theorem Ra.below {wa wr w':World} {A B C X gb n gc k:Nat} {S:S4} (h:Ra wa wr A B C X gb n gc k S) (hb:Below wr.heap.size wr w'):Ra wa w' A B C X gb n gc k S:=by
 obtain ⟨ra,rc,oa,oc,b,o,nb⟩:=h.sb;obtain ⟨ra',rc',oa',oc',r⟩:=h.rn;exact ⟨⟨ra',rc',oa',oc',r.below hb⟩,⟨ra,rc,oa,oc,b.below hb,o.below hb,nb⟩,fun j=>(zI (hb.block X (zJ wr _ b.1))).trans (h.fs j),h.ne⟩
theorem Ra.next {wa wq w5:World} {A B C X gb n gc k:Nat} {S S':S4} (h:Ra wa wq A B C X gb n gc k S) (kp:qa2 wq B C w5) {ra:Option Addr} {rc:Nat} {oa:Option Addr} {oc:Nat} (r:Rn wa w5 A B C gb n gc (k+1) S'.p S'.c ra rc oa oc S'.rs S'.os) (hj:∀ j,qae (stV S'.p ra S'.rs.length rc oa S'.os.length oc S'.c) j->wq.heap.size<=j):
  Ra wa ((((w5.setCell ⟨X,0,none⟩ (.int .i64 S'.p)).setCell ⟨X,1,none⟩ (.slice ra S'.rs.length rc)).setCell ⟨X,2,none⟩ (.slice oa S'.os.length oc)).setCell ⟨X,3,none⟩ (.int .i64 S'.c)) A B C X gb n gc (k+1) S':=by
 obtain ⟨ra0,rc0,oa0,oc0,b,-,-⟩:=h.sb;have zX:X<wq.heap.size:=zJ wq _ b.1
 have nX:¬ qae (stV S'.p ra S'.rs.length rc oa S'.os.length oc S'.c) X:=fun e=>by
  have:=hj X e;omega
 have hB5:w5.heap[X]? = wq.heap[X]?:=kp.2 X zX h.ne.2.1 h.ne.2.2.1;have b5:BoxC w5 X (.int .i64 S.p) (.slice ra0 S.rs.length rc0) (.slice oa0 S.os.length oc0) (.int .i64 S.c):=⟨(zH hB5).trans b.1,(zH hB5).trans b.2.1,(zH hB5).trans b.2.2.1,(zH hB5).trans b.2.2.2⟩
 refine ⟨⟨ra,rc,oa,oc,(((r.setX h.ne nX _ _).setX h.ne nX _ _).setX h.ne nX _ _).setX h.ne nX _ _⟩,⟨ra,rc,oa,oc,qq8 b5 _ _ _ _,(((r.tl.own.setOut nX _ _).setOut nX _ _).setOut nX _ _).setOut nX _ _,nX⟩,fun j=>?_,h.ne⟩;simp only [World.frozen?_setCell];rw [zI hB5];exact h.fs j
theorem qtr (gb n gc:Nat) (ea:Option Addr) (m ec:Nat) (g:Nat->I5) (eh:Nat->E3) (w:World) (hn:n<=maxLen) (hg:gb<w.heap.size) (hI:qan w gb 0 n g) (hp:qac g n 4=true) (hE:EvL w ea m eh) (hm:m<=1048576):
  Calls Tryz.prog 226 #[.slice (some ⟨gb,0,none⟩) n gc,.slice ea m ec] w (AllR w (repO g n eh m)):=by
 have HI:Hid (qan w gb 0 n g):=hI;have HE:Hid (EvL w ea m eh):=hE;have HP:Hid (qac g n 4=true):=hp;have HL:Hid (n<=maxLen):=hn;have hm':(m:Int)<=1048576:=by omega
 have HO:Hid (repO g n eh m=if m<=200 then rp g n eh m else none):=by
  show repO g n eh m=_;unfold repO;by_cases h2:m<=200
  ·rw [if_pos ⟨hp,h2⟩,if_pos h2]
  ·rw [if_neg (by omega),if_neg h2]
 clear hI hn hp hE;have bA:=zS w (zQ0);have BA:Hid (Below w.heap.size w (w.alloc (zQ0))):=bA;have NB:Hid (BoxC (w.alloc (zQ0)) w.heap.size (.int .i64 0) (.slice none 0 0) (.slice none 0 0) (.int .i64 0)/\∀ j,(w.alloc (zQ0)).frozen? ⟨w.heap.size,j,none⟩=false):=⟨BoxC.new w _ _ _ _ _,fun j=>yA _ _ _ j rfl⟩
 clear bA;generalize hRO:repO g n eh m=O at *
 go_enter Tryz.func226,Tryz.ntmps226
 go_wp2_with fail
 have hz:(w.alloc (zQ0)).heap.size=w.heap.size+1:=by simp
 generalize w.alloc (zQ0)=wa at *;refine (qvg gb n gc g wa HL.out (zL hg BA.out.size) (HI.out.below BA.out hg) HP.out).mono ?_;rintro e w1 ⟨A,B,C,ra,rc,oa,oc,rfl,R1⟩;have HR1:Hid (Rn wa w1 A B C gb n gc 0 0 0 ra rc oa oc [0,0,0,0] []):=R1;clear R1;go_wp2_with fail
 refine (qdo _).mono ?_;rintro e w2 ⟨v2,rfl,o2,b2⟩;obtain ⟨ra2,rc2,oa2,oc2,rfl,-,-⟩:=o2.read;have HR2:Hid (Rn wa w2 A B C gb n gc 0 0 0 ra rc oa oc [0,0,0,0] []):=HR1.out.below b2;have O2:Hid (qag w2 w1.heap.size (stV 0 ra2 4 rc2 oa2 0 oc2 0) 0 [0,0,0,0] [] 0):=o2;have zX:=b2.size
 have HRA:Hid (Ra wa (w2.alloc (oQ1 0 ra2 4 rc2 oa2 0 oc2 0)) A B C w2.heap.size gb n gc 0 newS):=by
  have zA:A<w2.heap.size:=zJ w2 _ HR2.out.la;have zB:B<w2.heap.size:=HR2.out.tl.hi;have zC:C<w2.heap.size:=zJ w2 _ HR2.out.ck;have hbe:=HR2.out.be.size;have hbe1:=HR1.out.be.size;refine ⟨⟨_,_,_,_,HR2.out.below (zS _ _)⟩,⟨ra2,rc2,oa2,oc2,BoxC.new w2 _ _ _ _ _,(O2.out.below (zS _ _)).mono hbe1,fun e=>?_⟩,fun j=>yA _ _ _ j rfl,by omega,by omega,by omega,hbe⟩;have:=(O2.out.lt e).2;omega
 clear o2 b2 O2 HR1 HR2;go_wp2_with fail
 generalize w2.alloc (oQ1 0 ra2 4 rc2 oa2 0 oc2 0)=w3 at *
 have HZ:Hid (w.heap.size<wa.heap.size):=by
  show w.heap.size<wa.heap.size;omega
 generalize w2.heap.size=X at *;clear zX hz
 go_loopw [23] (fun i wr=>∃ k:Nat,k<=m/\i=.int .i64 k/\Hid (k<=200/\∃ S,rp g n eh k=some S/\OkS n S/\Ra wa wr A B C X gb n gc k S)) (fun i _=>m - (intOf i).toNat)
 case atStart=>exact ⟨0,Nat.zero_le _,rfl,by omega,newS,rfl,qlm HP.out,HRA.out⟩
 case round=>
  clear HRA;obtain ⟨k,hk,rfl,HK⟩:=hrel;obtain ⟨hk2,S,hrp,hok,hra⟩:=HK.out;obtain ⟨sra,src,soa,soc,⟨s0,s1,s2,s3⟩,sown,snb⟩:=hra.sb
  have hbe:Below w.heap.size w wr:=by
   obtain ⟨_,_,_,_,r⟩:=hra.rn;exact BA.out.trans (r.be.mono BA.out.size)
  by_cases hlt:k<m
  ·have hlt':(k:Int)<(m:Int):=by omega
   obtain ⟨eb,eo,rfl,-,c0,c1,c2⟩:=(HE.out.below hbe).at hlt;have HRP:Hid (rp g n eh k=some S):=hrp;have HOK:Hid (OkS n S):=hok;have HRa:Hid (Ra wa wr A B C X gb n gc k S):=hra;have HK2:Hid (k<=200):=hk2;clear hrp hok hra hk2 sown snb HK s0 s1 s2 s3 hbe;go_wp2_with fail
   have hRq:Ra wa (wr.alloc (oQ0 (eh k).k (eh k).q (eh k).v)) A B C X gb n gc k S:=HRa.out.below (zS _ _);generalize wr.alloc (oQ0 (eh k).k (eh k).q (eh k).v)=wq at *;have HRq:Hid (Ra wa wq A B C X gb n gc k S):=hRq;obtain ⟨qra,qrc,qoa,qoc,qrn⟩:=hRq.rn;have hlen:=OkS.len HOK.out;refine (qts A B C gb n gc k g S.p S.c qra qrc qoa qoc S.rs S.os _ _ _ wa wq qrn HL.out (zL hg BA.out.size) (HI.out.below BA.out hg) HP.out HK2.out (by omega) (by omega)).mono ?_;rintro e w5 ⟨kp,hd⟩
   have n5:BoxC w5 w.heap.size (.int .i64 0) (.slice none 0 0) (.slice none 0 0) (.int .i64 0)/\(∀ j,w5.frozen? ⟨w.heap.size,j,none⟩=false)/\(∃ a b c d,BoxC w5 X a b c d)/\∀ j,w5.frozen? ⟨X,j,none⟩=false:=by
    have zR:w.heap.size<wq.heap.size:=zL HZ.out qrn.be.size;have lB:=qrn.tl.lo;have lC:=qrn.ne.2.2.2.2;have hz:=HZ.out;have eR:w5.heap[w.heap.size]? = wa.heap[w.heap.size]?:=(kp.2 _ zR (by omega) (by omega)).trans (qrn.be.block _ HZ.out);obtain ⟨xra,xrc,xoa,xoc,xb,-,-⟩:=hRq.sb;have eX:w5.heap[X]? = wq.heap[X]?:=kp.2 X (zJ wq _ xb.1) hRq.ne.2.1 hRq.ne.2.2.1;obtain ⟨a0,a1,a2,a3⟩:=NB.1;exact ⟨⟨(zH eR).trans a0,(zH eR).trans a1,(zH eR).trans a2,(zH eR).trans a3⟩,fun j=>(zI eR).trans (NB.2 j),⟨_,_,_,_,(zH eX).trans xb.1,(zH eX).trans xb.2.1,(zH eX).trans xb.2.2.1,(zH eX).trans xb.2.2.2⟩,fun j=>(zI eX).trans (hRq.fs j)⟩
   obtain ⟨⟨r0,r1,r2,r3⟩,rf,⟨xa,xb,xc,xd,x0,x1,x2,x3⟩,xf⟩:=n5
   have hRX:w.heap.size≠X:=by
    have:=hRq.ne.2.2.2;have:=HZ.out;omega
   have hXR:X≠w.heap.size:=fun e=>hRX e.symm
   rcases hd with ⟨tT,tk,ra7,rc7,oa7,oc7,rfl,R7,J7⟩ | ⟨tF,rfl,be7⟩
   ·have HN:Hid (Ra wa _ A B C X gb n gc (k+1) (doS g n S.p S.rs S.os S.c (eh k).k (eh k).q (eh k).v)):=hRq.next kp R7 J7
    have HS':Hid (rp g n eh (k+1)=some (doS g n S.p S.rs S.os S.c (eh k).k (eh k).q (eh k).v)):=qve HRP.out tT;have HO':Hid (OkS n (doS g n S.p S.rs S.os S.c (eh k).k (eh k).q (eh k).v)):=qrb tT
    have HK3:Hid (k+1<=200):=by
     show k+1<=200;have:=HK2.out;omega
    generalize doS g n S.p S.rs S.os S.c (eh k).k (eh k).q (eh k).v=S' at *;clear R7 J7 qrn hRq kp tT tk r0 r1 r2 r3 rf;go_wp2;go_roundw
    case rel=>exact ⟨k+1,by omega,by go_num,HK3.out,S',HS'.out,HO'.out,HN.out⟩
    case measure=>simp [intOf];omega
   ·have HON:Hid (O=none):=by
     show O=none;rw [HO.out]
     rcases tF with tF | tF
     ·by_cases h2:m<=200
      ·rw [if_pos h2]
       exact qqo (qyh HRP.out tF) (by omega)
      ·rw [if_neg h2]
     ·rw [if_neg (by omega)]
    have B5:Hid (Below w.heap.size w w5):=BA.out.trans (be7.mono BA.out.size)
    have hwX:w.heap.size<=X:=by
     have:=hRq.ne.2.2.2;have:=HZ.out;omega
    have HW:Hid (w.heap.size<=X):=hwX;clear qrn hRq kp tF be7 hwX;go_wp2;refine bodyPost_ret (v:=.tuple #[stV 0 none 0 0 none 0 0 0,.iface 273 (.agg #[.int .i64 k])]) (by simp [results,Tryz.results226,go_sem,r0,r1,r2,r3]) rfl ?_;rw [HON.out];refine ⟨_,_,rfl,?_,qag.nil _ _,.inr ⟨rfl,_,rfl⟩⟩
    repeat (refine Below.setCell ?_ (by first | exact Nat.le_refl _ | exact HW.out) _)
    exact B5.out
  ·have hkm:k=m:=by omega
   subst hkm
   have HOS:Hid (O=some S):=by
    show O=some S;rw [HO.out,if_pos hk2];exact hrp
   obtain ⟨r0,r1,r2,r3⟩:BoxC wr w.heap.size (.int .i64 0) (.slice none 0 0) (.slice none 0 0) (.int .i64 0):=by
    obtain ⟨_,_,_,_,r⟩:=hra.rn;have eR:wr.heap[w.heap.size]? = wa.heap[w.heap.size]?:=r.be.block _ HZ.out;obtain ⟨a0,a1,a2,a3⟩:=NB.1;exact ⟨(zH eR).trans a0,(zH eR).trans a1,(zH eR).trans a2,(zH eR).trans a3⟩
   have rf:∀ j,wr.frozen? ⟨w.heap.size,j,none⟩=false:=by
    obtain ⟨_,_,_,_,r⟩:=hra.rn;exact fun j=>(zI (r.be.block _ HZ.out)).trans (NB.2 j)
   have HSO:Hid (qag wr wa.heap.size (stV S.p sra S.rs.length src soa S.os.length soc S.c) S.p S.rs S.os S.c):=sown;have HBE:Hid (Below w.heap.size w wr):=hbe;have hlt':¬ (k:Int)<(k:Int):=by omega
   clear hrp hok hra hk2 sown snb HK hbe;go_wp2;refine bodyPost_ret (v:=.tuple #[stV S.p sra S.rs.length src soa S.os.length soc S.c,.nilIface]) (by simp [results,Tryz.results226,go_sem,r0,r1,r2,r3]) rfl ?_;rw [HOS.out];refine ⟨_,_,rfl,?_,?_,.inl ⟨rfl,rfl⟩⟩
   ·exact (((HBE.out.setCell (Nat.le_refl _) _).setCell (Nat.le_refl _) _).setCell (Nat.le_refl _) _).setCell (Nat.le_refl _) _
   ·exact HSO.out.put4 HZ.out (Nat.le_of_lt HZ.out)
