import Derived.Test.YtegogmbfhddeoabGreatDoorVk27
namespace Go.Proofs.YtegogmbfhddeoabGreatDoor
set_option maxRecDepth 100000
set_option maxHeartbeats 2000000
open Go.ChangeShapes Go.WideShapes Go.ChangeAt Go.RowKit Go.Deep Go.Sort
theorem qef {xs ys:List Int} (hl:xs.length=ys.length) (h:∀ j,j<xs.length->zi xs j=zi ys j):xs=ys:=by
 refine List.ext_getElem hl fun i h1 h2=>?_;have:=h i h1;simpa [zi,List.getD_eq_getElem?_getD,List.getElem?_eq_getElem h1,List.getElem?_eq_getElem h2] using this
theorem qe9 (a0 a1:Option Addr) (c0 c1:Nat) (xs ys:List Int) (w:World) (hx:xs.length<=1048576) (hy:ys.length<=1048576) (h0:Sl w a0 xs) (h1:Sl w a1 ys):
  Calls Tryz.prog 75 #[.slice a0 xs.length c0,.slice a1 ys.length c1] w fun e w'=>e=.returned (.bool (xs == ys))/\Below w.heap.size w w':=by
 have hl':(xs.length:Int)<=1048576:=by omega
 have hl2:(ys.length:Int)<=1048576:=by omega
 by_cases hl:xs.length=ys.length
 ·have H0:Hid (Sl w a0 xs):=h0
  have H1:Hid (Sl w a1 ys):=h1;have HL:Hid (xs.length=ys.length):=hl;rw [<- hl];clear h0 h1 hl hy hl2
  go_enter Tryz.func75,Tryz.ntmps75
  go_wp2_with fail
  go_loopw [13] (fun i wr=>∃ k:Nat,k<=xs.length/\i=.int .i64 k/\Below w.heap.size w wr/\Hid (∀ j,j<k->zi xs j=zi ys j)) (fun i _=>xs.length - (intOf i).toNat)
  case atStart=>exact ⟨0,Nat.zero_le _,rfl,Below.refl _ _,fun j hj=>by omega⟩
  case round=>
   obtain ⟨k,hk,rfl,hbw,HZ⟩:=hrel;by_cases hlt:k<xs.length
   ·have hlt2:k<ys.length:=by have:=HL.out;omega
    obtain ⟨b,off,rfl,hbl,ck⟩:=(H0.out.below hbw).at hlt;obtain ⟨b',off',rfl,hbl',ck'⟩:=(H1.out.below hbw).at hlt2;have hlt':(k:Int)<(xs.length:Int):=by omega
    clear hlt2
    rcases zK (zi xs k != zi ys k) with t | t
    ·have HN:Hid ((xs == ys)=false):=by
      show (xs == ys)=false;rw [beq_eq_false_iff_ne];intro e;rw [e] at t;simp at t
     go_wp2_with fail
     go_quiet (fail)
     go_wp2;go_ret;rw [HN.out];exact ⟨rfl,yC hbw _⟩
    ·have HZ':Hid (∀ j,j<k+1->zi xs j=zi ys j):=fun j hj=>by
      by_cases e:j=k
      ·subst e
       simpa using t
      ·exact HZ.out j (by omega)
     clear HZ;go_wp2_with fail
     go_quiet (fail)
     go_wp2;go_roundw
     case rel=>exact ⟨k+1,by omega,by go_num,yC hbw _,HZ'.out⟩
     case measure=>simp [intOf];omega
   ·have HE:Hid ((xs == ys)=true):=by
     show (xs == ys)=true;rw [beq_iff_eq];exact qef HL.out fun j hj=>HZ.out j (by omega)
    clear HZ;go_wp2;go_ret;rw [HE.out];exact ⟨rfl,hbw⟩
 ·have hne:((xs.length:Int) != (ys.length:Int))=true:=by simp;omega
  have HN:Hid ((xs == ys)=false):=by
   show (xs == ys)=false;rw [beq_eq_false_iff_ne];intro e;exact hl (by rw [e])
  clear h0 h1 hl
  go_enter Tryz.func75,Tryz.ntmps75
  go_wp2;go_ret;rw [HN.out];exact ⟨rfl,Below.refl _ _⟩
def eqS (S T:S4):Bool:=(S.p == T.p) && (S.c == T.c) && (S.rs == T.rs) && (S.os == T.os)
theorem qqh {S T:S4}:eqS S T=true ↔ S=T:=by
 obtain ⟨a,b,c,d⟩:=S;obtain ⟨a',b',c',d'⟩:=T;simp only [eqS,Bool.and_eq_true,beq_iff_eq,S4.mk.injEq];exact ⟨fun ⟨⟨⟨h1,h2⟩,h3⟩,h4⟩=>⟨h1,h3,h4,h2⟩,fun ⟨h1,h3,h4,h2⟩=>⟨⟨⟨h1,h2⟩,h3⟩,h4⟩⟩
theorem qf1 (S T:S4) (ra oa ra' oa':Option Addr) (rc oc rc' oc':Nat) (w:World) (l1:S.rs.length<=1048576) (l2:S.os.length<=1048576) (l3:T.rs.length<=1048576) (l4:T.os.length<=1048576) (h1:Sl w ra S.rs) (h2:Sl w oa S.os) (h3:Sl w ra' T.rs) (h4:Sl w oa' T.os):
  Calls Tryz.prog 73 #[stV S.p ra S.rs.length rc oa S.os.length oc S.c,stV T.p ra' T.rs.length rc' oa' T.os.length oc' T.c] w fun e w'=>e=.returned (.bool (eqS S T))/\Below w.heap.size w w':=by
 have H1:Hid (Sl w ra S.rs/\Sl w ra' T.rs):=⟨h1,h3⟩
 have H2:Hid (Sl w oa S.os/\Sl w oa' T.os):=⟨h2,h4⟩
 clear h1 h2 h3 h4
 rcases zK (S.p == T.p) with t1 | t1
 case inr=>
  have HE:Hid (eqS S T=false):=by
   show eqS S T=false;simp [eqS,t1]
  go_enter Tryz.func73,Tryz.ntmps73
  go_wp2;go_ret;rw [HE.out];exact ⟨rfl,by go_grown⟩
 rcases zK (S.c == T.c) with t2 | t2
 case inr=>
  have HE:Hid (eqS S T=false):=by
   show eqS S T=false;simp [eqS,t2]
  go_enter Tryz.func73,Tryz.ntmps73
  go_wp2;go_ret;rw [HE.out];exact ⟨rfl,by go_grown⟩
 rcases zK (S.rs == T.rs) with t3 | t3
 case inr=>
  have HE:Hid (eqS S T=false):=by
   show eqS S T=false;simp [eqS,t3]
  have T3:Hid ((S.rs == T.rs)=false):=t3;clear t3
  go_enter Tryz.func73,Tryz.ntmps73
  go_wp2_with fail
  refine (qe9 _ _ _ _ _ _ _ l1 l3 (H1.1.below (by go_grown)) (H1.2.below (by go_grown))).mono ?_;rintro e w1 ⟨rfl,b1⟩;rw [T3.out];have B1:Hid (Below w.heap.size w w1):=qad (by go_grown) b1 (by simp;omega);clear b1;go_wp2;go_ret;rw [HE.out];exact ⟨rfl,B1.out⟩
 have HE:Hid (eqS S T=(S.os == T.os)):=by
  show eqS S T=(S.os == T.os);simp [eqS,t1,t2,t3]
 have T3:Hid ((S.rs == T.rs)=true):=t3;clear t3
 go_enter Tryz.func73,Tryz.ntmps73
 go_wp2_with fail
 refine (qe9 _ _ _ _ _ _ _ l1 l3 (H1.1.below (by go_grown)) (H1.2.below (by go_grown))).mono ?_;rintro e w1 ⟨rfl,b1⟩;rw [T3.out];have B1:Hid (Below w.heap.size w w1):=qad (by go_grown) b1 (by simp;omega);obtain ⟨hc1,hf1⟩:=qah b1;clear b1;go_wp2_with fail
 refine (qe9 _ _ _ _ _ _ _ l2 l4 (H2.1.below B1.out) (H2.2.below B1.out)).mono ?_;rintro e w2 ⟨rfl,b2⟩;have B2:Hid (Below w.heap.size w w2):=B1.out.trans (b2.mono B1.out.size);clear b2 hc1 hf1;go_wp2;go_ret;rw [HE.out];exact ⟨rfl,B2.out⟩
theorem qpb (m:Bool) (v:Int) (w:World):
  Calls Tryz.prog 112 #[itV m v] w fun e w'=>e=.returned (.bool (qca ⟨m,v⟩))/\Below w.heap.size w w':=by
 rcases zK m with rfl | rfl
 ·have HE:Hid (qca ⟨true,v⟩=(v == 0)):=by
   show qca ⟨true,v⟩=(v == 0);simp only [qca,Bool.not_true,Bool.false_or];by_cases e:v=0
   ·subst e
    rfl
   ·have:(v == 0)=false:=by simpa using e
    rw [this,Bool.and_false]
  go_enter Tryz.func112,Tryz.ntmps112
  go_wp2;go_ret;rw [HE.out];exact ⟨rfl,by go_grown⟩
 ·have HE:Hid (qca ⟨false,v⟩=inB v (-1000000000) 1000000000):=by
   show qca ⟨false,v⟩=inB v (-1000000000) 1000000000;simp [qca,numB]
  go_enter Tryz.func112,Tryz.ntmps112
  go_wp2_with fail
  refine (isNum_any _ _).mono ?_;rintro e w1 ⟨rfl,rfl⟩;go_wp2;go_ret;rw [HE.out];exact ⟨rfl,by go_grown⟩
def qcn (h:Nat->I2) (n:Nat):Bool:=(List.range n).all fun i=>qca (h i)
theorem qed {h:Nat->I2} {n:Nat}:qcn h n=true ↔ ∀ i,i<n->qca (h i)=true:=by
 simp [qcn]
theorem qqz {h:Nat->I2} {n k:Nat} (hk:k<n) (hf:qca (h k)=false):qcn h n=false:=by
 rcases zK (qcn h n) with t | t
 ·have:=qed.1 t k hk
  rw [hf] at this;cases this
 ·exact t
theorem qsc (a:Option Addr) (len cap:Nat) (h:Nat->I2) (w:World) (hlen:len<=1048576) (hc:ItL w a len h):
  Calls Tryz.prog 74 #[.slice a len cap] w fun e w'=>e=.returned (.bool (decide (len<=12) && qcn h len))/\Below w.heap.size w w':=by
 have hl':(len:Int)<=1048576:=by omega
 have HC:Hid (ItL w a len h):=hc;clear hc;by_cases h12:len<=12
 case neg=>
  have h12':(12:Int)<(len:Int):=by omega
  have HE:Hid ((decide (len<=12) && qcn h len)=false):=by
   show (decide (len<=12) && qcn h len)=false;simp [h12]
  go_enter Tryz.func74,Tryz.ntmps74
  go_wp2;go_ret;rw [HE.out];exact ⟨rfl,Below.refl _ _⟩
 have h12':¬ (12:Int)<(len:Int):=by omega
 have HE:Hid ((decide (len<=12) && qcn h len)=qcn h len):=by
  show (decide (len<=12) && qcn h len)=qcn h len;simp [h12]
 clear h12
 go_enter Tryz.func74,Tryz.ntmps74
 go_wp2_with fail
 go_loopw [10] (fun i wr=>∃ k:Nat,k<=len/\i=.int .i64 k/\Below w.heap.size w wr/\Hid (∀ j,j<k->qca (h j)=true)) (fun i _=>len - (intOf i).toNat)
 case atStart=>exact ⟨0,Nat.zero_le _,rfl,Below.refl _ _,fun j hj=>by omega⟩
 case round=>
  obtain ⟨k,hk,rfl,hbw,HZ⟩:=hrel;by_cases hlt:k<len
  ·have hlt':(k:Int)<(len:Int):=by omega
   obtain ⟨b,off,rfl,-,c0,c1⟩:=(HC.out.below hbw).at hlt;go_wp2_with fail
   refine (qpb _ _ _).mono ?_;rintro e w1 ⟨rfl,b1⟩;have B1:Hid (Below w.heap.size w w1):=hbw.trans (((zT wr _).trans (b1.mono (by simp))).mono hbw.size);clear b1
   rcases zK (qca (h k)) with t | t
   ·have HZ':Hid (∀ j,j<k+1->qca (h j)=true):=fun j hj=>by
     by_cases e:j=k
     ·subst e
      exact t
     ·exact HZ.out j (by omega)
    rw [show qca { m:=(h k).m,v:=(h k).v }=true from t];clear HZ t;go_wp2;go_roundw
    case rel=>exact ⟨k+1,by omega,by go_num,B1.out,HZ'.out⟩
    case measure=>simp [intOf];omega
   ·have HN:Hid (qcn h len=false):=qqz hlt t
    rw [show qca { m:=(h k).m,v:=(h k).v }=false from t];clear HZ t;go_wp2;go_ret;rw [HE.out,HN.out];exact ⟨rfl,B1.out⟩
  ·have HN:Hid (qcn h len=true):=qed.2 fun j hj=>HZ.out j (by omega)
   clear HZ;go_wp2;go_ret;rw [HE.out,HN.out];exact ⟨rfl,hbw⟩
noncomputable def pB (p:Prop):Bool:=@decide p (Classical.propDecidable _)
theorem qrp {p:Prop} (h:p):pB p=true:=by simp [pB,h]
theorem qeg {p:Prop} (h:¬ p):pB p=false:=by simp [pB,h]
theorem qf7 (S T:S4) (ra oa ra' oa':Option Addr) (rc oc rc' oc':Nat) (w:World) (l1:S.rs.length<=1048576) (l2:S.os.length<=1048576) (_l3:T.rs.length<=1048576) (_l4:T.os.length<=1048576) (h1:Sl w ra S.rs) (h2:Sl w oa S.os) (h3:Sl w ra' T.rs) (h4:Sl w oa' T.os):
  Calls Tryz.prog 35 #[stV S.p ra S.rs.length rc oa S.os.length oc S.c,stV T.p ra' T.rs.length rc' oa' T.os.length oc' T.c] w fun e w'=>e=.returned (.bool (eqS S T))/\Below w.heap.size w w':=by
 have l1':(S.rs.length:Int)<=1048576:=by omega
 have l2':(S.os.length:Int)<=1048576:=by omega
 have H1:Hid (Sl w ra S.rs/\Sl w ra' T.rs):=⟨h1,h3⟩
 have H2:Hid (Sl w oa S.os/\Sl w oa' T.os):=⟨h2,h4⟩
 clear h1 h2 h3 h4 l1 l2
 rcases zK (S.p != T.p) with t1 | t1
 case inl=>
  have HE:Hid (eqS S T=false):=by
   show eqS S T=false;have:(S.p == T.p)=false:=by simpa using t1
   simp [eqS,this]
  go_enter Tryz.func35,Tryz.ntmps35
  go_wp2;go_ret;rw [HE.out];exact ⟨rfl,by go_grown⟩
 rcases zK (S.c != T.c) with t2 | t2
 case inl=>
  have HE:Hid (eqS S T=false):=by
   show eqS S T=false;have:(S.c == T.c)=false:=by simpa using t2
   simp [eqS,this]
  go_enter Tryz.func35,Tryz.ntmps35
  go_wp2;go_ret;rw [HE.out];exact ⟨rfl,by go_grown⟩
 rcases zK ((S.rs.length:Int) != (T.rs.length:Int)) with t3 | t3
 case inl=>
  have HE:Hid (eqS S T=false):=by
   show eqS S T=false
   have:(S.rs == T.rs)=false:=by
    rw [beq_eq_false_iff_ne];intro e;rw [e] at t3;simp at t3
   simp [eqS,this]
  go_enter Tryz.func35,Tryz.ntmps35
  go_wp2;go_ret;rw [HE.out];exact ⟨rfl,by go_grown⟩
 rcases zK ((S.os.length:Int) != (T.os.length:Int)) with t4 | t4
 case inl=>
  have HE:Hid (eqS S T=false):=by
   show eqS S T=false
   have:(S.os == T.os)=false:=by
    rw [beq_eq_false_iff_ne];intro e;rw [e] at t4;simp at t4
   simp [eqS,this]
  go_enter Tryz.func35,Tryz.ntmps35
  go_wp2;go_ret;rw [HE.out];exact ⟨rfl,by go_grown⟩
 have HE:Hid (eqS S T=((S.rs == T.rs) && (S.os == T.os))/\S.rs.length=T.rs.length/\S.os.length=T.os.length):=by
  have e1:(S.p == T.p)=true:=by simpa using t1
  have e2:(S.c == T.c)=true:=by simpa using t2
  have e3:S.rs.length=T.rs.length:=by simp at t3;omega
  have e4:S.os.length=T.os.length:=by simp at t4;omega
  refine ⟨?_,e3,e4⟩;show eqS S T=_;simp [eqS,e1,e2]
 have N1:Hid (BoxC ((w.alloc (oQ1 S.p ra S.rs.length rc oa S.os.length oc S.c)).alloc (oQ1 T.p ra' T.rs.length rc' oa' T.os.length oc' T.c)) w.heap.size (.int .i64 S.p) (.slice ra S.rs.length rc) (.slice oa S.os.length oc) (.int .i64 S.c)):=(BoxC.new w _ _ _ _ _).below (zT _ _)
 have N2:Hid (BoxC ((w.alloc (oQ1 S.p ra S.rs.length rc oa S.os.length oc S.c)).alloc (oQ1 T.p ra' T.rs.length rc' oa' T.os.length oc' T.c)) (w.heap.size+1) (.int .i64 T.p) (.slice ra' T.rs.length rc') (.slice oa' T.os.length oc') (.int .i64 T.c)):=by
  have h:=BoxC.new (w.alloc (oQ1 S.p ra S.rs.length rc oa S.os.length oc S.c)) (.int .i64 T.p) (.slice ra' T.rs.length rc') (.slice oa' T.os.length oc') (.int .i64 T.c) 51;rw [World.size_alloc] at h;exact h
 have NB:Hid (Below w.heap.size w ((w.alloc (oQ1 S.p ra S.rs.length rc oa S.os.length oc S.c)).alloc (oQ1 T.p ra' T.rs.length rc' oa' T.os.length oc' T.c))):=by
  show Below _ _ _
  go_grown
 go_enter Tryz.func35,Tryz.ntmps35
 go_wp2_with fail
 generalize (w.alloc (oQ1 S.p ra S.rs.length rc oa S.os.length oc S.c)).alloc (oQ1 T.p ra' T.rs.length rc' oa' T.os.length oc' T.c)=wb at *
 go_loopw [5] (fun i wr=>∃ k:Nat,k<=S.rs.length/\i=.int .i64 k/\Below wb.heap.size wb wr/\Hid (∀ j,j<k->zi S.rs j=zi T.rs j)) (fun i _=>S.rs.length - (intOf i).toNat)
 case atStart=>exact ⟨0,Nat.zero_le _,rfl,Below.refl _ _,fun j hj=>by omega⟩
 case round=>
  obtain ⟨k,hk,rfl,hbw,HZ⟩:=hrel;have hw:Below w.heap.size w wr:=NB.out.trans (hbw.mono NB.out.size);obtain ⟨n0,n1,n2,n3⟩:=N1.out.below hbw;obtain ⟨m0,m1,m2,m3⟩:=N2.out.below hbw;by_cases hlt:k<S.rs.length
  ·have hlt2:k<T.rs.length:=by have:=HE.out;omega
   obtain ⟨b,off,rfl,hbl,ck⟩:=(H1.1.below hw).at hlt;obtain ⟨b',off',rfl,hbl',ck'⟩:=(H1.2.below hw).at hlt2;have hlt':(k:Int)<(S.rs.length:Int):=by omega
   have hlt2':(k:Int)<(T.rs.length:Int):=by omega
   clear hlt2
   rcases zK (zi S.rs k != zi T.rs k) with t | t
   ·have HN:Hid (eqS S T=false):=by
     show eqS S T=false;rw [HE.1]
     have:(S.rs == T.rs)=false:=by
      rw [beq_eq_false_iff_ne];intro e;rw [e] at t;simp at t
     rw [this,Bool.false_and]
    go_wp2_with fail
    go_quiet (fail)
    go_wp2;go_ret;rw [HN.out];exact ⟨rfl,yC hw _⟩
   ·have HZ':Hid (∀ j,j<k+1->zi S.rs j=zi T.rs j):=fun j hj=>by
     by_cases e:j=k
     ·subst e
      simpa using t
     ·exact HZ.out j (by omega)
    clear HZ;go_wp2_with fail
    go_quiet (fail)
    go_wp2;go_roundw
    case rel=>exact ⟨k+1,by omega,by go_num,yC hbw _,HZ'.out⟩
    case measure=>simp [intOf];omega
  ·have HR:Hid ((S.rs == T.rs)=true):=by
    show (S.rs == T.rs)=true;rw [beq_iff_eq];exact qef HE.2.1 fun j hj=>HZ.out j (by omega)
   have hkl:k=S.rs.length:=by omega
   subst hkl;clear HZ hlt hk;go_wp2_with fail
   clear n0 n1 n2 n3 m0 m1 m2 m3
   go_loopw [6] (fun i wr=>∃ k:Nat,k<=S.os.length/\i=.int .i64 k/\Below wb.heap.size wb wr/\Hid (∀ j,j<k->zi S.os j=zi T.os j)) (fun i _=>S.os.length - (intOf i).toNat)
   case atStart=>exact ⟨0,Nat.zero_le _,rfl,hbw,fun j hj=>by omega⟩
   case round=>
    clear hbw hw;obtain ⟨k,hk,rfl,hbw,HZ⟩:=hrel;have hw:Below w.heap.size w wr:=NB.out.trans (hbw.mono NB.out.size);obtain ⟨n0,n1,n2,n3⟩:=N1.out.below hbw;obtain ⟨m0,m1,m2,m3⟩:=N2.out.below hbw;by_cases hlt:k<S.os.length
    ·have hlt2:k<T.os.length:=by have:=HE.out;omega
     obtain ⟨b,off,rfl,hbl,ck⟩:=(H2.1.below hw).at hlt;obtain ⟨b',off',rfl,hbl',ck'⟩:=(H2.2.below hw).at hlt2;have hlt':(k:Int)<(S.os.length:Int):=by omega
     have hlt2':(k:Int)<(T.os.length:Int):=by omega
     clear hlt2
     rcases zK (zi S.os k != zi T.os k) with t | t
     ·have HN:Hid (eqS S T=false):=by
       show eqS S T=false;rw [HE.1]
       have:(S.os == T.os)=false:=by
        rw [beq_eq_false_iff_ne];intro e;rw [e] at t;simp at t
       rw [this,Bool.and_false]
      go_wp2_with fail
      go_quiet (fail)
      go_wp2;go_ret;rw [HN.out];exact ⟨rfl,yC hw _⟩
     ·have HZ':Hid (∀ j,j<k+1->zi S.os j=zi T.os j):=fun j hj=>by
       by_cases e:j=k
       ·subst e
        simpa using t
       ·exact HZ.out j (by omega)
      clear HZ;go_wp2_with fail
      go_quiet (fail)
      go_wp2;go_roundw
      case rel=>exact ⟨k+1,by omega,by go_num,yC hbw _,HZ'.out⟩
      case measure=>simp [intOf];omega
    ·have HN:Hid (eqS S T=true):=by
      show eqS S T=true;rw [HE.1,HR.out,Bool.true_and,beq_iff_eq];exact qef HE.2.2 fun j hj=>HZ.out j (by omega)
     clear HZ;go_wp2;go_ret;rw [HN.out];exact ⟨rfl,hw⟩
structure LWay (h:Nat->I2) (len:Nat) (sent:List Int) (t:Nat):Prop where
 it:∀ i,i<len->qca (h i)=true
 le:len<=12
 ln:sent.length=t+(numL h len).length
 eq:∀ j,j<(numL h len).length->zi (numL h len) j=zi sent (t+j)
theorem qeq {xs ys:List Int} {j:Nat} (h:j<xs.length):zi (xs ++ ys) j=zi xs j:=by
 simp [zi,List.getD_eq_getElem?_getD,List.getElem?_append_left h]
theorem qd8 {xs ys:List Int} {j:Nat}:zi (xs ++ ys) (xs.length+j)=zi ys j:=by
 simp [zi,List.getD_eq_getElem?_getD,List.getElem?_append_right]
theorem LWay.iff {h:Nat->I2} {len:Nat} {took sent:List Int}:(LWay h len sent took.length/\∀ i,i<took.length->zi took i=zi sent i) ↔ WayP h len took sent:=by
 refine ⟨fun ⟨a,b⟩=>⟨a.it,a.le,?_⟩,fun a=>⟨⟨a.it,a.le,by rw [<- a.eq,List.length_append],fun j _=>by rw [<- a.eq,qd8]⟩,fun i hi=>by rw [<- a.eq,qeq hi]⟩⟩;refine qef (by rw [List.length_append,a.ln]) fun j hj=>?_;by_cases hl:j<took.length
 ·rw [qeq hl,b j hl]
 ·rw [List.length_append] at hj
  have e:j=took.length+(j - took.length):=by omega
  rw [e,qd8];exact a.eq _ (by omega)
theorem qre (a:Option Addr) (len cap:Nat) (h:Nat->I2) (sa:Option Addr) (sc:Nat) (sent:List Int) (t:Nat) (w:World) (hlen:len<=1048576) (hc:ItL w a len h) (hs:sent.length<=1048576) (hS:Sl w sa sent) (ht:t<=1048576):
  Calls Tryz.prog 37 #[.slice a len cap,.slice sa sent.length sc,.int .i64 t] w fun e w'=>e=.returned (.bool (pB (LWay h len sent t)))/\Below w.heap.size w w':=by
 have hl':(len:Int)<=1048576:=by omega
 have hs':(sent.length:Int)<=1048576:=by omega
 have ht':(t:Int)<=1048576:=by omega
 have HC:Hid (ItL w a len h):=hc;have HS:Hid (Sl w sa sent):=hS;clear hc hS
 go_enter Tryz.func37,Tryz.ntmps37
 go_wp2_with fail
 go_loopw [7] (fun i wr=>∃ k:Nat,k<=len/\i=.int .i64 k/\Below w.heap.size w wr/\Hid (∀ j,j<k->qca (h j)=true)) (fun i _=>len - (intOf i).toNat)
 case atStart=>exact ⟨0,Nat.zero_le _,rfl,Below.refl _ _,fun j hj=>by omega⟩
 case round=>
  obtain ⟨k,hk,rfl,hbw,HZ⟩:=hrel;by_cases hlt:k<len
  ·have hlt':(k:Int)<(len:Int):=by omega
   obtain ⟨b,off,rfl,-,c0,c1⟩:=(HC.out.below hbw).at hlt;have hN:∀ {x:Bool},inB (h k).v (-1000000000) 1000000000=x->numB (h k).v=x:=fun e=>e
   rcases zK (inB (h k).v (-1000000000) 1000000000) with t1 | t1
   ·have go_on:qca (h k)=true->Hid (∀ j,j<k+1->qca (h j)=true):=fun t j hj=>by
     by_cases e:j=k
     ·subst e
      exact t
     ·exact HZ.out j (by omega)
    have stop:qca (h k)=false->Hid (pB (LWay h len sent t)=false):=fun t=>qeg fun x=>by
     have:=x.it k hlt;rw [t] at this;cases this
    rcases zK (h k).m with t2 | t2
    ·rcases zK ((h k).v != 0) with t3 | t3
     ·have HN := stop (by
       have:((h k).v == 0)=false:=by simpa using t3
       simp [qca,t2,this])
      rw [t2] at c0;clear go_on stop HZ hN;go_wp2_with fail
      refine (l1Num_any _ _).mono ?_;rintro e w1 ⟨rfl,rfl⟩;rw [t1];go_wp2;go_ret;rw [HN.out];exact ⟨rfl,hbw⟩
     ·have HZ' := go_on (by
       have:((h k).v == 0)=true:=by simpa using t3
       simp [qca,hN t1,this])
      rw [t2] at c0;clear go_on stop HZ hN;go_wp2_with fail
      refine (l1Num_any _ _).mono ?_;rintro e w1 ⟨rfl,rfl⟩;rw [t1];go_wp2;go_roundw
      case rel=>exact ⟨k+1,by omega,by go_num,hbw,HZ'.out⟩
      case measure=>simp [intOf];omega
    ·have HZ':=go_on (by simp [qca,hN t1,t2])
     rw [t2] at c0;clear go_on stop HZ hN;go_wp2_with fail
     refine (l1Num_any _ _).mono ?_;rintro e w1 ⟨rfl,rfl⟩;rw [t1];go_wp2;go_roundw
     case rel=>exact ⟨k+1,by omega,by go_num,hbw,HZ'.out⟩
     case measure=>simp [intOf];omega
   ·have HN:Hid (pB (LWay h len sent t)=false):=qeg fun x=>by
     have:=x.it k hlt;simp [qca,hN t1] at this
    clear HZ hN;go_wp2_with fail
    refine (l1Num_any _ _).mono ?_;rintro e w1 ⟨rfl,rfl⟩;rw [t1];go_wp2;go_ret;rw [HN.out];exact ⟨rfl,hbw⟩
  ·have HZ':Hid (∀ j,j<len->qca (h j)=true):=fun j hj=>HZ.out j (by omega)
   have hkl:k=len:=by omega
   subst hkl;clear HZ hlt hk;go_wp2_with fail
   refine (qjv a k cap h wr hlen (HC.out.below hbw)).mono ?_;rintro e w1 ⟨v,rfl,o1,b1⟩;obtain ⟨na,nc,rfl,s1⟩:=o1.form;have B1:Hid (Below w.heap.size w w1):=hbw.trans (b1.mono hbw.size);have S1:Hid (Sl w1 na (numL h k)):=s1;have hnl:=qf3 h k;have hnl':((numL h k).length:Int)<=1048576:=by omega
   clear o1 b1 s1 hbw;generalize hNU:numL h k=nu at *;have HNU:Hid (numL h k=nu):=hNU;clear hNU hnl;by_cases h12:k<=12
   case neg=>
    have h12':(12:Int)<(k:Int):=by omega
    have HN:Hid (pB (LWay h k sent t)=false):=qeg fun x=>h12 x.le;go_wp2;go_ret;rw [HN.out];exact ⟨rfl,B1.out⟩
   have h12':¬ (12:Int)<(k:Int):=by omega
   rcases zK (((sent.length:Int) - (t:Int)) != (nu.length:Int)) with t5 | t5
   ·have HN:Hid (pB (LWay h k sent t)=false):=qeg fun x=>by
     have:=x.ln;rw [HNU.out] at this;rw [this] at t5;simp at t5;omega
    go_wp2;go_ret;rw [HN.out];exact ⟨rfl,B1.out⟩
   have HLN:Hid (sent.length=t+nu.length):=by
    show sent.length=t+nu.length;simp at t5;omega
   go_wp2_with fail
   go_loopw [9] (fun i wr=>∃ j:Nat,j<=nu.length/\i=.int .i64 j/\Below w1.heap.size w1 wr/\Hid (∀ i,i<j->zi nu i=zi sent (t+i))) (fun i _=>nu.length - (intOf i).toNat)
   case atStart=>exact ⟨0,Nat.zero_le _,rfl,Below.refl _ _,fun j hj=>by omega⟩
   case round=>
    obtain ⟨j,hj,rfl,hbw,HZ⟩:=hrel;have hw:Below w.heap.size w wr:=B1.out.trans (hbw.mono B1.out.size);by_cases hlt:j<nu.length
    ·have hlt2:t+j<sent.length:=by have:=HLN.out;omega
     obtain ⟨b,off,rfl,hbl,ck⟩:=(S1.out.below hbw).at hlt;obtain ⟨b',off',rfl,hbl',ck'⟩:=(HS.out.below hw).at hlt2;have hlt':(j:Int)<(nu.length:Int):=by omega
     have hlt2':(t:Int)+(j:Int)<(sent.length:Int):=by omega
     have hq:((t:Int)+(j:Int)).toNat=t+j:=by omega
     clear hlt2
     rcases zK (zi nu j != zi sent (t+j)) with t6 | t6
     ·have HN:Hid (pB (LWay h k sent t)=false):=qeg fun x=>by
       have:=x.eq j (by rw [HNU.out];exact hlt);rw [HNU.out] at this;rw [this] at t6;simp at t6
      go_wp2_with fail
      go_quiet (fail)
      go_wp2;go_ret;rw [HN.out];exact ⟨rfl,yC hw _⟩
     ·have HZ2:Hid (∀ i,i<j+1->zi nu i=zi sent (t+i)):=fun i hi=>by
       by_cases e:i=j
       ·subst e
        simpa using t6
       ·exact HZ.out i (by omega)
      clear HZ;go_wp2_with fail
      go_quiet (fail)
      go_wp2;go_roundw
      case rel=>exact ⟨j+1,by omega,by go_num,yC hbw _,HZ2.out⟩
      case measure=>simp [intOf];omega
    ·have HN : Hid (pB (LWay h k sent t) = true) := qrp ⟨HZ'.out, h12, by rw [HNU.out]; exact HLN.out, fun i hi => by
      rw [HNU.out] at hi ⊢
      exact HZ.out i (by omega)⟩
     clear HZ;go_wp2;go_ret;rw [HN.out];exact ⟨rfl,hw⟩
theorem Sy.Ok.evq {y:Sy} (h:y.Ok) {p i:Nat} (hp:p<y.pn) (hi:i<y.hL p):0<=(y.hH p i).q/\(y.hH p i).q<(y.pn:Int):=⟨qjq (qbg (h.rp p hp)).2.2 i hi,h.pe p hp i hi⟩
theorem Sy.Ok.hl200 {y:Sy} (h:y.Ok) {p:Nat} (hp:p<y.pn):y.hL p<=200:=(qbg (h.rp p hp)).2.1
theorem qol {g:Nat->I5} {len:Nat} {eh eh':Nat->E3}:∀ {k:Nat},(∀ i,i<k->eh' i=eh i)->rp g len eh' k=rp g len eh k
 | 0,_=>rfl
 | k+1,h=>by
  show (rp g len eh' k).bind (qen g len (eh' k))=(rp g len eh k).bind (qen g len (eh k));rw [qol fun i hi=>h i (by omega),h k (by omega)]
theorem qhp {eh eh':Nat->E3} {kd pr:Int}:∀ {k:Nat},(∀ i,i<k->eh' i=eh i)->plN eh' kd pr k=plN eh kd pr k
 | 0,_=>rfl
 | k+1,h=>by
  have e:=qhp (kd:=kd) (pr:=pr) (k:=k) fun i hi=>h i (by omega)
  have hh:hitB eh' kd pr k=hitB eh kd pr k:=by
   unfold hitB;rw [h k (by omega)]
  unfold plN;rw [e,hh]
theorem qrs {eh:Nat->E3} {kd pr:Int}:∀ {k i:Nat},i ∈ plN eh kd pr k->i<k
 | 0,i,h=>by simp [plN] at h
 | k+1,i,h=>by
  unfold plN at h
  split at h
  ·simp only [List.mem_append,List.mem_singleton] at h
   rcases h with h | h
   ·have:=qrs h
    omega
   ·omega
  ·have:=qrs h
   omega
theorem qp4 {eh eh':Nat->E3} {kd pr:Int} {k:Nat} (h:∀ i,i<k->eh' i=eh i):valL eh' kd pr k=valL eh kd pr k:=by
 unfold valL;rw [qhp h];exact List.map_congr_left fun i hi=>by rw [h i (qrs hi)]
theorem qhb {eh eh':Nat->E3} {kd pr:Int} {k:Nat} (h:∀ i,i<k->eh' i=eh i):cnt eh' kd pr k=cnt eh kd pr k:=by
 unfold cnt;rw [qhp h]
theorem qum (eh:Nat->E3) (kd pr:Int) (k:Nat):cnt eh kd pr k=(valL eh kd pr k).length:=by simp [cnt,valL]
theorem qsa {eh:Nat->E3} {kd pr:Int} {n:Nat} {x:E3}:valL (fun i=>if i=n then x else eh i) kd pr (n+1)=valL eh kd pr n ++ (if x.k=kd/\x.q=pr then [x.v] else []):=by
 have e:valL (fun i=>if i=n then x else eh i) kd pr n=valL eh kd pr n:=qp4 fun i hi=>by rw [if_neg (by omega)]
 by_cases h:x.k=kd/\x.q=pr
 ·have hh:hitB (fun i=>if i=n then x else eh i) kd pr n=true:=by
   rw [qcz];simp only [if_true];exact h
  rw [qj5 hh,e,if_pos h];simp
 ·have hh:hitB (fun i=>if i=n then x else eh i) kd pr n=false:=by
   rcases zK (hitB (fun i=>if i=n then x else eh i) kd pr n) with t | t
   ·rw [qcz] at t
    simp only [if_true] at t;exact absurd t h
   ·exact t
  rw [qg1 hh,e,if_neg h,List.append_nil]
theorem qik {H H':Nat->I2}:∀ {n:Nat},(∀ i,i<n->H' i=H i)->numL H' n=numL H n
 | 0,_=>rfl
 | n+1,h=>by
  unfold numL;rw [qik fun i hi=>h i (by omega),h n (by omega)]
theorem qrl (H:Nat->I2) (n:Nat) (v:Int):numL (fun i=>if i=n then ⟨false,v⟩ else H i) (n+1)=numL H n ++ [v]:=by
 rw [qfh (by simp)];rw [qik (H:=H) fun i hi=>by rw [if_neg (by omega)]];simp
theorem qf2 {H:Nat->I2} (h0:(H 0).m=false):∀ n,numL H (n+1)=(H 0).v :: numL (fun i=>H (i+1)) n
 | 0=>by rw [qfh h0];rfl
 | n+1=>by
  rw [numL];rw [qf2 h0 n]
  conv=>rhs;rw [numL]
  split <;> simp
theorem Hs.Put.more {x x':Hs} (hn:x'.n=x.n) (hl:∀ j,x.l j<=x'.l j) (he:∀ j i,i<x.l j->x'.e j i=x.e j i) {d:Nat->Nat} (h:x.Put d):x'.Put d:=by
 induction h with
 | start=>exact .start
 | next hd hp hc ih=>
  rename_i d p;refine .next ih (by omega) ⟨zL hc.1 (hl p),fun hk=>?_⟩;have e:=he p (d p) hc.1;rw [e] at hk ⊢;have hle:=hd.le;rw [qhb (fun i hi=>he p i (Nat.lt_trans hi hc.1)),qhb (fun i hi=>he _ i (zL hi (hle _)))];exact hc.2 hk
theorem qsd {a b p q n:Nat} (hb:b<n) (hq:q<n) (h:a*n+b=p*n+q):a=p/\b=q:=by
 have h1:(a*n+b) / n=a:=by rw [Nat.mul_comm,Nat.mul_add_div (by omega),Nat.div_eq_of_lt hb,Nat.add_zero]
 have h2:(p*n+q) / n=p:=by rw [Nat.mul_comm,Nat.mul_add_div (by omega),Nat.div_eq_of_lt hq,Nat.add_zero]
 have h3:a=p:=by rw [<- h1,<- h2,h]
 subst h3;exact ⟨rfl,by omega⟩
theorem qon {a b p q n:Nat} (h1:a=p) (h2:q=b):a*n+b=p*n+q:=by rw [h1,h2]
theorem Sy.Ok.next {y:Sy} (h:y.Ok) {p:Nat} (hp:p<y.pn) (hc:(y.sS p).c=0):(y.nk p=1\/y.nk p=2\/y.nk p=3\/y.nk p=4)/\(y.nk p≠2->y.nk p≠3->y.nq p=0)/\(y.nk p=2->numB (y.nv p)=true):=by
 have hr:=h.right hp hc;rw [<- hc] at hr;have e1:y.nk p=evK (y.pH p (y.sS p).p.toNat).o:=if_pos hr;have e2:y.nq p=evP (y.pH p (y.sS p).p.toNat).o (y.pH p (y.sS p).p.toNat).n:=if_pos hr;have e3:y.nv p=evW (y.pH p (y.sS p).p.toNat).o (y.pH p (y.sS p).p.toNat).a (y.sS p).rs:=if_pos hr;obtain ⟨hpr,hs,-⟩:=qba hr;obtain ⟨⟨a1,a2,a3,a4,ers,n1,n2,n3,n4⟩,⟨k,ek,hk⟩,-,-⟩:=qby hs;have ek':(y.sS p).p.toNat=k:=by omega
 obtain ⟨-,-,⟨m0,m3⟩,-⟩:=qb9 (qbr hpr hk);rw [ek'] at e1 e2 e3;refine ⟨?_,?_,?_⟩
 ·rw [e1]
  unfold evK
  split
  ·exact .inr (.inl rfl)
  ·split
   ·exact .inr (.inr (.inl rfl))
   ·split
    ·exact .inr (.inr (.inr rfl))
    ·exact .inl rfl
 ·intro h2 h3
  rw [e1] at h2 h3;rw [e2];unfold evK at h2 h3;unfold evP;by_cases e6:(y.pH p k).o=6
  ·rw [if_pos e6] at h2
   exact absurd rfl h2
  ·rw [if_neg e6] at h3 ⊢
   by_cases e7:(y.pH p k).o=7
   ·rw [if_pos e7] at h3
    exact absurd rfl h3
   ·rw [if_neg e7]
 ·intro h2
  rw [e1] at h2;rw [e3,ers]
  have e6:(y.pH p k).o=6:=by
   unfold evK at h2;by_cases e6:(y.pH p k).o=6
   ·exact e6
   ·rw [if_neg e6] at h2
    split at h2
    ·cases h2
    ·split at h2 <;> cases h2
  unfold evW;rw [if_pos e6];obtain ⟨j,ej⟩:∃ j:Nat,(y.pH p k).a=j:=⟨(y.pH p k).a.toNat,by omega⟩
  have hj:(y.pH p k).a.toNat<4:=by omega
  match (y.pH p k).a.toNat,hj with
  | 0,_=>exact n1
  | 1,_=>exact n2
  | 2,_=>exact n3
  | 3,_=>exact n4
structure Sy.Done (y:Sy) (p:Nat) (f:Int):Prop where
 run:(y.sS p).c=0
 room:y.hL p<200
 peer:0<=y.eq p f/\y.eq p f<(y.pn:Int)
 send:y.nk p=2->y.wL (p*y.pn+(y.eq p f).toNat)<12/\numB (y.ev p f)=true
 take:y.nk p=3->0<y.wL ((y.eq p f).toNat*y.pn+p)/\(y.wH ((y.eq p f).toNat*y.pn+p) 0).m=false/\(y.wH ((y.eq p f).toNat*y.pn+p) 0).v=y.ev p f/\numB (y.ev p f)=true
 can:doB (y.pH p) (y.pL p) (y.sS p).p (y.sS p).rs (y.sS p).os (y.sS p).c (y.nk p) (y.eq p f) (y.ev p f)=true
theorem Sy.Ok.done {y:Sy} (h:y.Ok) {p:Nat} (hp:p<y.pn) {f:Int} (hc:cmS y p f=0):y.Done p f:=by
 unfold cmS at hc;have h4:y.pn<=4:=h.cn.1.2;have h1:1<=y.pn:=h.cn.1.1;by_cases c0:(y.sS p).c=0
 case neg=>
  rw [if_pos c0] at hc;cases hc
 rw [if_neg (by simpa using c0)] at hc;by_cases c1:fuS y p (y.nk p) (y.nq p)=true
 ·rw [if_pos c1] at hc
  cases hc
 rw [if_neg c1] at hc
 have hfu:y.hL p<200/\(y.nk p=2->y.wL (p*y.pn+(y.nq p).toNat)<12):=by
  simp only [fuS,Bool.or_eq_true,decide_eq_true_eq,Bool.and_eq_true,beq_iff_eq,not_or,not_and] at c1;exact ⟨by omega,fun h2=>by have:=c1.2 h2;omega⟩
 obtain ⟨hk,hq0,hnv⟩:=h.next hp c0;by_cases k3:y.nk p=3
 ·rw [if_pos k3] at hc
  have eQ:y.eq p f=if y.nq p=9 then f else y.nq p:=if_pos k3
  rw [<- eQ] at hc;have eV:y.ev p f=(y.wH ((y.eq p f).toNat*y.pn+p) 0).v:=if_pos k3;unfold tkS at hc;by_cases b:belB (y.eq p f) y.pn=true
  case neg=>
   rw [if_neg b] at hc;cases hc
  rw [if_pos b] at hc;have hb:0<=y.eq p f/\y.eq p f<(y.pn:Int):=by simpa [belB] using b
  by_cases w0:y.wL ((y.eq p f).toNat*y.pn+p)=0
  ·rw [if_pos w0] at hc
   cases hc
  rw [if_neg w0] at hc;by_cases m0:(y.wH ((y.eq p f).toNat*y.pn+p) 0).m=true
  ·rw [if_pos m0] at hc
   cases hc
  have hv:numB (y.ev p f)=true:=by
   have:=(h.wa (y.eq p f).toNat (by omega) p hp).it 0 (by omega);simp only [qca,Bool.and_eq_true] at this;rw [eV];exact this.1
  refine ⟨c0,hfu.1,hb,(fun h2=>by rw [k3] at h2;cases h2),fun _=>⟨by omega,by simpa using m0,eV.symm,hv⟩,?_⟩;have e3:nxK (y.pH p) (y.pL p) (y.sS p).p (y.sS p).rs (y.sS p).os (y.sS p).c=3:=k3;unfold doB canB;rw [if_pos e3,k3,hv];simp only [beq_self_eq_true,Bool.true_and];by_cases e9:y.nq p=9
  ·have e9':nxP (y.pH p) (y.pL p) (y.sS p).p (y.sS p).rs (y.sS p).os (y.sS p).c=9:=e9
   rw [if_pos e9'];simp only [belB,decide_eq_true_eq];omega
  ·have e9':¬ nxP (y.pH p) (y.pL p) (y.sS p).p (y.sS p).rs (y.sS p).os (y.sS p).c=9:=e9
   rw [if_neg e9',eQ,if_neg e9];simp [Sy.nq]
 ·have eQ:y.eq p f=y.nq p:=if_neg k3
  have eV:y.ev p f=y.nv p:=if_neg k3
  have hpe:0<=y.nq p/\y.nq p<(y.pn:Int):=by
   by_cases k2:y.nk p=2
   ·exact h.peer hp k2
   ·rw [hq0 k2 k3]
    omega
  refine ⟨c0,hfu.1,by rw [eQ];exact hpe,fun h2=>⟨by rw [eQ];exact hfu.2 h2,by rw [eV];exact hnv h2⟩,fun h3=>absurd h3 k3,?_⟩;have e3:¬ nxK (y.pH p) (y.pL p) (y.sS p).p (y.sS p).rs (y.sS p).os (y.sS p).c=3:=k3;have e0:y.nk p≠0:=by omega
  unfold doB canB;rw [if_neg e3,eQ,eV];simp only [Bool.and_eq_true,bne_iff_ne,beq_iff_eq];exact ⟨e0,rfl,rfl,rfl⟩
theorem Sy.Ok.step {y:Sy} (h:y.Ok) {p:Nat} (hp:p<y.pn) {f:Int} (hc:cmS y p f=0):(y.step p f).Ok:=by
 have D:=h.done hp hc;have e:y.step p f=(y.way p (y.nk p) (y.eq p f) (y.ev p f)).evt p (y.nk p) (y.eq p f) (y.ev p f):=if_pos hc;rw [e];obtain ⟨q,hq⟩:∃ q:Nat,y.eq p f=q:=⟨(y.eq p f).toNat,by have:=D.peer;omega⟩
 have hqn:q<y.pn:=by have:=D.peer;omega
 have D':=D;obtain ⟨run,room,peer,send,take,can⟩:=D;rw [hq,Int.toNat_natCast] at send take;rw [hq] at can ⊢;generalize hV:y.ev p f=V at *;obtain ⟨kk,-,-⟩:=h.next hp run;generalize hK:y.nk p=K at *;clear hV hK e hc hq peer D'
 -- what happened to each,now
 have hH:∀ a kd pr,valL (((y.way p K q V).evt p K q V).hH a) kd pr (((y.way p K q V).evt p K q V).hL a)=valL (y.hH a) kd pr (y.hL a) ++ (if a=p/\K=kd/\(q:Int)=pr then [V] else []):=by
  intro a kd pr;show valL (if a=p then (fun i=>if i=y.hL p then (⟨K,q,V⟩:E3) else y.hH p i) else y.hH a) kd pr (if a=p then y.hL p+1 else y.hL a)=_;by_cases ea:a=p
  ·subst ea
   simp only [if_true,true_and];exact qsa
  ·rw [if_neg ea,if_neg ea,if_neg (fun h=>ea h.1),List.append_nil]
 refine ⟨h.cn,h.pr,fun a ha=>?_,fun a ha i hi=>?_,fun a ha b hb=>?_,?_⟩
 ·show repO (y.pH a) (y.pL a) (if a=p then (fun i=>if i=y.hL p then (⟨K,q,V⟩:E3) else y.hH p i) else y.hH a) (if a=p then y.hL p+1 else y.hL a)=some (if a=p then doS (y.pH p) (y.pL p) (y.sS p).p (y.sS p).rs (y.sS p).os (y.sS p).c K q V else y.sS a)
  by_cases ea:a=p
  ·subst ea
   simp only [if_true];have h0:=qbg (h.rp a hp);unfold repO;rw [if_pos ⟨h0.1,by omega⟩];have hr:Go.Proofs.YtegogmbfhddeoabGreatDoor.rp (y.pH a) (y.pL a) (fun i=>if i=y.hL a then (⟨K,q,V⟩:E3) else y.hH a i) (y.hL a)=some (y.sS a):=(qol fun i hi=>by rw [if_neg (by omega)]).trans h0.2.2;have:=qom hr (by simpa using can);simpa using this
  ·rw [if_neg ea,if_neg ea,if_neg ea]
   exact h.rp a ha
 ·have hi':i<(if a=p then y.hL p+1 else y.hL a):=hi
  show ((if a=p then (fun i=>if i=y.hL p then (⟨K,q,V⟩:E3) else y.hH p i) else y.hH a) i).q<(y.pn:Int);by_cases ea:a=p
  ·subst ea
   simp only [if_true] at hi' ⊢;by_cases ei:i=y.hL a
   ·rw [if_pos ei]
    show (q:Int)<_;omega
   ·rw [if_neg ei]
    exact h.pe a hp i (by omega)
  ·rw [if_neg ea] at hi' ⊢
   exact h.pe a ha i hi'
 ·have wab:=h.wa a ha b hb
  rw [hH b 3 a,hH a 2 b];show WayP (((y.way p K q V)).wH (a*y.pn+b)) ((y.way p K q V).wL (a*y.pn+b)) _ _;by_cases k2:K=2
  ·subst k2
   rw [Sy.way_send,if_neg (fun h=>by have:=h.2.1;omega),List.append_nil];show WayP (if a*y.pn+b=p*y.pn+q then (fun i=>if i=y.wL (p*y.pn+q) then ⟨false,V⟩ else y.wH (p*y.pn+q) i) else y.wH (a*y.pn+b)) (if a*y.pn+b=p*y.pn+q then y.wL (p*y.pn+q)+1 else y.wL (a*y.pn+b)) _ _;by_cases ew:a*y.pn+b=p*y.pn+q
   ·obtain ⟨rfl,rfl⟩:=qsd hb hqn ew
    simp only [if_true];rw [if_pos ⟨trivial,trivial,trivial⟩];obtain ⟨s1,s2⟩:=send rfl;refine ⟨fun i hi=>?_,by omega,?_⟩
    ·by_cases ei:i=y.wL (a*y.pn+b)
     ·rw [if_pos ei]
      simp [qca,s2]
     ·rw [if_neg ei]
      exact wab.it i (by omega)
    ·rw [qrl,<- List.append_assoc,wab.eq]
   ·rw [if_neg ew,if_neg ew,if_neg (fun h=>ew (qon h.1 (Int.ofNat_inj.1 h.2.2))),List.append_nil]
    exact wab
  ·by_cases k3:K=3
   ·subst k3
    rw [Sy.way_take,if_neg (c:=a=p/\(3:Int)=2/\_) (fun h=>by have:=h.2.1;omega),List.append_nil];show WayP (if a*y.pn+b=q*y.pn+p then (fun i=>y.wH (q*y.pn+p) (i+1)) else y.wH (a*y.pn+b)) (if a*y.pn+b=q*y.pn+p then y.wL (q*y.pn+p) - 1 else y.wL (a*y.pn+b)) _ _;by_cases ew:a*y.pn+b=q*y.pn+p
    ·obtain ⟨rfl,rfl⟩:=qsd hb hp ew
     simp only [if_true];rw [if_pos ⟨trivial,trivial,trivial⟩];obtain ⟨t1,t2,t3,-⟩:=take rfl;obtain ⟨m,em⟩:∃ m,y.wL (a*y.pn+b)=m+1:=⟨y.wL (a*y.pn+b) - 1,by omega⟩
     have weq:=wab.eq;have wle:=wab.le;have wit:=wab.it;rw [em] at weq wle wit ⊢;rw [Nat.add_sub_cancel];refine ⟨fun i hi=>wit (i+1) (by omega),by omega,?_⟩;rw [qf2 t2,t3] at weq;rw [List.append_assoc];exact weq
    ·rw [if_neg ew,if_neg ew,if_neg (fun h=>ew (qon (Int.ofNat_inj.1 h.2.2).symm h.1.symm)),List.append_nil]
     exact wab
   ·rw [Sy.way_no y p k2 k3,if_neg (fun h=>k3 h.2.1),if_neg (fun h=>k2 h.2.1),List.append_nil,List.append_nil]
    exact wab
 ·obtain ⟨d,hd,hall⟩:=h.ro
  have hd':((y.way p K q V).evt p K q V).hs.Put d:=by
   refine Hs.Put.more (x:=y.hs) (x':=((y.way p K q V).evt p K q V).hs) rfl (fun j=>?_) (fun j i hi=>?_) hd
   ·show y.hL j<=if j=p then y.hL p+1 else y.hL j
    by_cases ej:j=p
    ·rw [if_pos ej,ej];omega
    ·rw [if_neg ej];exact Nat.le_refl _
   ·have hi':i<y.hL j:=hi
    show (if j=p then (fun i=>if i=y.hL p then (⟨K,q,V⟩:E3) else y.hH p i) else y.hH j) i=y.hH j i;by_cases ej:j=p
    ·subst ej
     rw [if_pos rfl,if_neg (by omega)]
    ·rw [if_neg ej]
  have hdp:d p=y.hL p:=hall p hp
  have epH:∀ a,a≠p->((y.way p K q V).evt p K q V).hs.e a=y.hH a:=fun a ha=>by
   show (if a=p then _ else y.hH a)=_;rw [if_neg ha]
  have epp:((y.way p K q V).evt p K q V).hs.e p=fun i=>if i=y.hL p then (⟨K,q,V⟩:E3) else y.hH p i:=by
   show (if p=p then _ else y.hH p)=_;rw [if_pos rfl];rfl
  have elp:((y.way p K q V).evt p K q V).hs.l p=y.hL p+1:=by
   show (if p=p then _ else y.hL p)=_;rw [if_pos rfl];rfl
  have ece:∀ a kd pr,a<y.pn->cnt (((y.way p K q V).evt p K q V).hs.e a) kd pr (d a)=(valL (y.hH a) kd pr (y.hL a)).length:=fun a kd pr ha=>by
   have hda:d a=y.hL a:=hall a ha;rw [hda,<- qum];refine qhb fun i hi=>?_;by_cases ea:a=p
   ·subst ea
    rw [epp];show (if i=y.hL a then (⟨K,q,V⟩:E3) else y.hH a i)=y.hH a i;rw [if_neg (by omega)]
   ·rw [epH a ea]
  refine ⟨up d p,.next hd' hp ⟨by rw [elp,hdp];omega,fun hk=>?_⟩,fun a ha=>?_⟩
  ·have ee:((y.way p K q V).evt p K q V).hs.e p (d p)=⟨K,q,V⟩:=by rw [epp,hdp];exact if_pos rfl
   rw [ee] at hk ⊢;have hk':K=3:=hk;show cnt _ 3 (q:Int) _<cnt (((y.way p K q V).evt p K q V).hs.e (q:Int).toNat) 2 p (d (q:Int).toNat);rw [Int.toNat_natCast,ece p 3 q hp,ece q 2 p hqn];obtain ⟨t1,t2,-⟩:=take hk';obtain ⟨m,em⟩:∃ m,y.wL (q*y.pn+p)=m+1:=⟨y.wL (q*y.pn+p) - 1,by omega⟩
   have weq:=(h.wa q hqn p hp).eq;rw [em,qf2 t2] at weq;have:=congrArg List.length weq;simp only [List.length_append,List.length_cons] at this;omega
  ·have hda:d a=y.hL a:=hall a ha
   by_cases ea:a=p
   ·subst ea
    rw [qcd,elp,hdp]
   ·rw [up_other ea,hda]
    show y.hL a=if a=p then _ else y.hL a
    rw [if_neg ea]
theorem qqt (ea:Option Addr) (len cap:Nat) (eh:Nat->E3) (kd pr n:Int) (w:World) (hlen:len<=1048576) (hc:EvL w ea len eh):
  Calls Tryz.prog 90 #[.slice ea len cap,.int .i64 kd,.int .i64 pr,.int .i64 n] w fun e w'=>e=.returned (.int .i64 (nthV eh kd pr len n))/\Below w.heap.size w w':=by
 have HC:Hid (EvL w ea len eh):=hc;clear hc;generalize hV:nthV eh kd pr len n=V;have HV:Hid (nthV eh kd pr len n=V):=hV;clear hV;have hpl:=qrq eh kd pr len
 go_enter Tryz.func90,Tryz.ntmps90
 go_wp2_with fail
 refine (qim ea len cap eh kd pr w hlen HC.out).mono ?_;rintro e w1 ⟨v,rfl,o1,b1⟩;obtain ⟨a0,cp,rfl,s1⟩:=o1.form;have HS:Hid (Sl w1 a0 (plI eh kd pr len)):=s1;clear o1 s1
 rcases zK (belB n ((plI eh kd pr len).length:Nat)) with t | t
 ·have hn:0<=n/\n<((plI eh kd pr len).length:Int):=by simpa [belB] using t
  obtain ⟨m,rfl⟩:∃ m:Nat,n=m:=⟨n.toNat,by omega⟩
  have hv:=HV.out;unfold nthV at hv;rw [if_pos t,Int.toNat_natCast] at hv;have hm:m<(plI eh kd pr len).length:=by omega
  have hm':(m:Int)<((plI eh kd pr len).length:Int):=by omega
  obtain ⟨b0,o0,rfl,hlt,hcell⟩:=HS.out.at hm;rw [hv] at hcell;clear hn hv HS;go_wp2_with fail
  refine (isBelow_any _ _ _).mono ?_;rintro e w2 ⟨rfl,rfl⟩;go_wp2;go_ret;exact ⟨rfl,b1⟩
 ·have hv:=HV.out
  unfold nthV at hv;rw [if_neg (by rw [t];decide)] at hv;subst hv;go_wp2_with fail
  refine (isBelow_any _ _ _).mono ?_;rintro e w2 ⟨rfl,rfl⟩;go_wp2;go_ret;exact ⟨rfl,b1⟩
