import Derived.Test.YtkdablcbhhphoaaGreatDoorMt18
import Derived.Test.YtkdablcbhhphoaaGreatDoorMt20
namespace Go.Proofs.YtkdablcbhhphoaaGreatDoor
open Go.Proofs.Tryz
set_option maxRecDepth 100000
set_option maxHeartbeats 4000000
open Go.RowKit Go.Deep
structure Sy.Sm (y:Sy):Prop where
 n:y.pn<=16/\y.sn<=16/\y.wn<=16/\y.hn<=16
 p:∀ i,i<y.pn->y.pL i<=1000
 s:∀ i,i<y.sn->(y.sS i).rs.length<=1000/\(y.sS i).os.length<=1000
 w:∀ i,i<y.wn->y.wL i<=1000
 h:∀ i,i<y.hn->y.hL i<=1000
theorem qyn {n:Nat} {S:S4} (h:OkS n S):S.rs.length<=60/\S.os.length<=60:=by
 obtain ⟨⟨r0,r1,r2,r3,e,-⟩,-,h60,-⟩:=qco h;exact ⟨by rw [e];simp,h60⟩
theorem Sy.Ok.bds {y:Sy} (h:y.Ok):(∀ i,i<y.pn->y.pL i<=30)/\(∀ i,i<y.sn->OkS (y.pL i) (y.sS i))/\(∀ i,i<y.wn->y.wL i<=12)/\(∀ i,i<y.hn->y.hL i<=200):=by
 obtain ⟨⟨h1,h4⟩,hs,hh,hw⟩:=h.cn;refine ⟨fun i hi=>?_,fun i hi=>h.st (by omega),fun i hi=>?_,fun i hi=>h.le200 (by omega)⟩
 ·have h1:=h.four hi
  simp only [qac,nH,inB,nI] at h1;have:=h1.2.1;omega
 ·rw [hw] at hi
  have ha:i / y.pn<y.pn:=Nat.div_lt_of_lt_mul hi;have hb:i % y.pn<y.pn:=Nat.mod_lt _ (by omega);have e:i / y.pn*y.pn+i % y.pn=i:=by rw [Nat.mul_comm];exact Nat.div_add_mod i y.pn
  have:=h.way ha hb;rw [e] at this;exact this
theorem Sy.Ok.sm {y:Sy} (h:y.Ok):y.Sm:=by
 obtain ⟨⟨h1,h4⟩,hs,hh,hw⟩:=h.cn;obtain ⟨b1,b2,b3,b4⟩:=h.bds;have h16:y.pn*y.pn<=16:=zO (Nat.mul_le_mul h4 h4) (by omega);exact ⟨⟨by omega,by omega,by omega,by omega⟩,fun i hi=>by have:=b1 i hi;omega,fun i hi=>by have:=qyn (b2 i hi);omega,fun i hi=>by have:=b3 i hi;omega,fun i hi=>by have:=b4 i hi;omega⟩
open Go.ChangeShapes Go.WideShapes Go.ChangeAt Go.Sort
theorem qs9 (m:Bool) (v:Int) (w:World):
  Calls prog 228 #[itV m v] w (rB w (.bool (qci ⟨m,v⟩))):=by
 rcases zK m with rfl | rfl
 ·have HE:Hid (qci ⟨true,v⟩=(v == 0)):=by
   show qci ⟨true,v⟩=(v == 0);simp only [qci,Bool.not_true,Bool.false_or];by_cases e:v=0
   ·subst e
    rfl
   ·have:(v == 0)=false:=by simpa using e
    rw [this,Bool.and_false]
  go_enter func228,ntmps228
  go_wp2;go_ret;rw [HE.out];exact ⟨rfl,by go_grown⟩
 ·have HE:Hid (qci ⟨false,v⟩=inB v (-1000000000) 1000000000):=by
   show qci ⟨false,v⟩=inB v (-1000000000) 1000000000;simp [qci,numB]
  go_enter func228,ntmps228
  go_wp2_with fail
  refine (isNum_any _ _).mono ?_;rintro e w1 ⟨rfl,rfl⟩;go_wp2;go_ret;rw [HE.out];exact ⟨rfl,by go_grown⟩
def qcv (h:Nat->I2) (n:Nat):Bool:=(List.range n).all fun i=>qci (h i)
theorem qek {h:Nat->I2} {n:Nat}:qcv h n=true ↔ ∀ i,i<n->qci (h i)=true:=by
 simp [qcv]
theorem qu4 {h:Nat->I2} {n k:Nat} (hk:k<n) (hf:qci (h k)=false):qcv h n=false:=by
 rcases zK (qcv h n) with t | t
 ·have:=qek.1 t k hk
  rw [hf] at this;cases this
 ·exact t
theorem qv7 (a:Option Addr) (len cap:Nat) (h:Nat->I2) (w:World) (hlen:len<=1048576) (hc:ItL w a len h):
  Calls prog 183 #[.slice a len cap] w (rB w (.bool (decide (len<=12) && qcv h len))):=by
 have hl':(len:Int)<=1048576:=by omega
 have HC:Hid (ItL w a len h):=hc;clear hc;by_cases h12:len<=12
 case neg=>
  have h12':(12:Int)<(len:Int):=by omega
  have HE:Hid ((decide (len<=12) && qcv h len)=false):=by
   show (decide (len<=12) && qcv h len)=false;simp [h12]
  go_enter func183,ntmps183
  go_wp2;go_ret;rw [HE.out];exact ⟨rfl,nE _ _⟩
 have h12':¬ (12:Int)<(len:Int):=by omega
 have HE:Hid ((decide (len<=12) && qcv h len)=qcv h len):=by
  show (decide (len<=12) && qcv h len)=qcv h len;simp [h12]
 clear h12
 go_enter func183,ntmps183
 go_wp2_with fail
 go_loopw [10] (fun i wr=>∃ k:Nat,k<=len/\i=.int .i64 k/\Below w.heap.size w wr/\Hid (∀ j,j<k->qci (h j)=true)) (fun i _=>len - (intOf i).toNat)
 case atStart=>exact ⟨0,nD _,rfl,nE _ _,fun j hj=>by omega⟩
 case round=>
  obtain ⟨k,hk,rfl,hbw,HZ⟩:=hrel;by_cases hlt:k<len
  ·have hlt':(k:Int)<(len:Int):=by omega
   obtain ⟨b,off,rfl,-,c0,c1⟩:=(HC.bw hbw).at hlt;go_wp2_with fail
   refine (qs9 _ _ _).mono ?_;rintro e w1 ⟨rfl,b1⟩;have B1:Hid (Below w.heap.size w w1):=hbw.trans (((zS wr _).trans (b1.mono (by simp))).mono hbw.size);clear b1
   rcases zK (qci (h k)) with t | t
   ·have HZ':Hid (∀ j,j<k+1->qci (h j)=true):=fun j hj=>by
     by_cases e:j=k
     ·subst e
      exact t
     ·exact HZ.out j (by omega)
    rw [show qci { m:=(h k).m,v:=(h k).v }=true from t];clear HZ t;go_wp2;go_roundw
    case rel=>exact ⟨k+1,by omega,by go_num,B1.out,HZ'.out⟩
    case measure=>simp [intOf];omega
   ·have HN:Hid (qcv h len=false):=qu4 hlt t
    rw [show qci { m:=(h k).m,v:=(h k).v }=false from t];clear HZ t;go_wp2;go_ret;rw [HE.out,HN.out];exact ⟨rfl,B1.out⟩
  ·have HN:Hid (qcv h len=true):=qek.2 fun j hj=>HZ.out j (by omega)
   clear HZ;go_wp2;go_ret;rw [HE.out,HN.out];exact ⟨rfl,hbw⟩
structure LWay (h:Nat->I2) (len:Nat) (sent:List Int) (t:Nat):Prop where
 it:∀ i,i<len->qci (h i)=true
 le:len<=12
 ln:sent.length=t+(numL h len).length
 eq:∀ j,j<(numL h len).length->zi (numL h len) j=zi sent (t+j)
theorem qe0 {xs ys:List Int} {j:Nat} (h:j<xs.length):zi (xs ++ ys) j=zi xs j:=by
 simp [zi,List.getD_eq_getElem?_getD,List.getElem?_append_left h]
theorem qef {xs ys:List Int} {j:Nat}:zi (xs ++ ys) (xs.length+j)=zi ys j:=by
 simp [zi,List.getD_eq_getElem?_getD,List.getElem?_append_right]
theorem LWay.iff {h:Nat->I2} {len:Nat} {took sent:List Int}:(LWay h len sent took.length/\∀ i,i<took.length->zi took i=zi sent i) ↔ WayP h len took sent:=by
 refine ⟨fun ⟨a,b⟩=>⟨a.it,a.le,?_⟩,fun a=>⟨⟨a.it,a.le,by rw [<- a.eq,List.length_append],fun j _=>by rw [<- a.eq,qef]⟩,fun i hi=>by rw [<- a.eq,qe0 hi]⟩⟩;refine qem (by rw [List.length_append,a.ln]) fun j hj=>?_;by_cases hl:j<took.length
 ·rw [qe0 hl,b j hl]
 ·rw [List.length_append] at hj
  have e:j=took.length+(j - took.length):=by omega
  rw [e,qef];exact a.eq _ (by omega)
theorem qva (a:Option Addr) (len cap:Nat) (h:Nat->I2) (sa:Option Addr) (sc:Nat) (sent:List Int) (t:Nat) (w:World) (hlen:len<=1048576) (hc:ItL w a len h) (hs:sent.length<=1048576) (hS:Sl w sa sent) (ht:t<=1048576):
  Calls prog 124 #[.slice a len cap,.slice sa sent.length sc,.int .i64 t] w (rB w (.bool (pB (LWay h len sent t)))):=by
 have hl':(len:Int)<=1048576:=by omega
 have hs':(sent.length:Int)<=1048576:=by omega
 have ht':(t:Int)<=1048576:=by omega
 have HC:Hid (ItL w a len h):=hc;have HS:Hid (Sl w sa sent):=hS;clear hc hS
 go_enter func124,ntmps124
 go_wp2_with fail
 go_loopw [7] (fun i wr=>∃ k:Nat,k<=len/\i=.int .i64 k/\Below w.heap.size w wr/\Hid (∀ j,j<k->qci (h j)=true)) (fun i _=>len - (intOf i).toNat)
 case atStart=>exact ⟨0,nD _,rfl,nE _ _,fun j hj=>by omega⟩
 case round=>
  obtain ⟨k,hk,rfl,hbw,HZ⟩:=hrel;by_cases hlt:k<len
  ·have hlt':(k:Int)<(len:Int):=by omega
   obtain ⟨b,off,rfl,-,c0,c1⟩:=(HC.bw hbw).at hlt;have hN:∀ {x:Bool},inB (h k).v (-1000000000) 1000000000=x->numB (h k).v=x:=fun e=>e
   rcases zK (inB (h k).v (-1000000000) 1000000000) with t1 | t1
   ·have go_on:qci (h k)=true->Hid (∀ j,j<k+1->qci (h j)=true):=fun t j hj=>by
     by_cases e:j=k
     ·subst e
      exact t
     ·exact HZ.out j (by omega)
    have stop:qci (h k)=false->Hid (pB (LWay h len sent t)=false):=fun t=>qak fun x=>by
     have:=x.it k hlt;rw [t] at this;cases this
    rcases zK (h k).m with t2 | t2
    ·rcases zK ((h k).v != 0) with t3 | t3
     ·have HN := stop (by
       have:((h k).v == 0)=false:=by simpa using t3
       simp [qci,t2,this])
      rw [t2] at c0;clear go_on stop HZ hN;go_wp2_with fail
      refine (l1Num_any _ _).mono ?_;rintro e w1 ⟨rfl,rfl⟩;rw [t1];go_wp2;go_ret;rw [HN.out];exact ⟨rfl,hbw⟩
     ·have HZ' := go_on (by
       have:((h k).v == 0)=true:=by simpa using t3
       simp [qci,hN t1,this])
      rw [t2] at c0;clear go_on stop HZ hN;go_wp2_with fail
      refine (l1Num_any _ _).mono ?_;rintro e w1 ⟨rfl,rfl⟩;rw [t1];go_wp2;go_roundw
      case rel=>exact ⟨k+1,by omega,by go_num,hbw,HZ'.out⟩
      case measure=>simp [intOf];omega
    ·have HZ':=go_on (by simp [qci,hN t1,t2])
     rw [t2] at c0;clear go_on stop HZ hN;go_wp2_with fail
     refine (l1Num_any _ _).mono ?_;rintro e w1 ⟨rfl,rfl⟩;rw [t1];go_wp2;go_roundw
     case rel=>exact ⟨k+1,by omega,by go_num,hbw,HZ'.out⟩
     case measure=>simp [intOf];omega
   ·have HN:Hid (pB (LWay h len sent t)=false):=qak fun x=>by
     have:=x.it k hlt;simp [qci,hN t1] at this
    clear HZ hN;go_wp2_with fail
    refine (l1Num_any _ _).mono ?_;rintro e w1 ⟨rfl,rfl⟩;rw [t1];go_wp2;go_ret;rw [HN.out];exact ⟨rfl,hbw⟩
  ·have HZ':Hid (∀ j,j<len->qci (h j)=true):=fun j hj=>HZ.out j (by omega)
   have hkl:k=len:=by omega
   subst hkl;clear HZ hlt hk;go_wp2_with fail
   refine (ql0 a k cap h wr hlen (HC.bw hbw)).mono ?_;rintro e w1 ⟨v,rfl,o1,b1⟩;obtain ⟨na,nc,rfl,s1⟩:=o1.form;have B1:Hid (Below w.heap.size w w1):=hbw.trans (b1.mono hbw.size);have S1:Hid (Sl w1 na (numL h k)):=s1;have hnl:=qgn h k;have hnl':((numL h k).length:Int)<=1048576:=by omega
   clear o1 b1 s1 hbw;generalize hNU:numL h k=nu at *;have HNU:Hid (numL h k=nu):=hNU;clear hNU hnl;by_cases h12:k<=12
   case neg=>
    have h12':(12:Int)<(k:Int):=by omega
    have HN:Hid (pB (LWay h k sent t)=false):=qak fun x=>h12 x.le;go_wp2;go_ret;rw [HN.out];exact ⟨rfl,B1.out⟩
   have h12':¬ (12:Int)<(k:Int):=by omega
   rcases zK (((sent.length:Int) - (t:Int)) != (nu.length:Int)) with t5 | t5
   ·have HN:Hid (pB (LWay h k sent t)=false):=qak fun x=>by
     have:=x.ln;rw [HNU.out] at this;rw [this] at t5;simp at t5;omega
    go_wp2;go_ret;rw [HN.out];exact ⟨rfl,B1.out⟩
   have HLN:Hid (sent.length=t+nu.length):=by
    show sent.length=t+nu.length;simp at t5;omega
   go_wp2_with fail
   go_loopw [9] (fun i wr=>∃ j:Nat,j<=nu.length/\i=.int .i64 j/\Below w1.heap.size w1 wr/\Hid (∀ i,i<j->zi nu i=zi sent (t+i))) (fun i _=>nu.length - (intOf i).toNat)
   case atStart=>exact ⟨0,nD _,rfl,nE _ _,fun j hj=>by omega⟩
   case round=>
    obtain ⟨j,hj,rfl,hbw,HZ⟩:=hrel;have hw:Below w.heap.size w wr:=B1.trans (hbw.mono B1.size);by_cases hlt:j<nu.length
    ·have hlt2:t+j<sent.length:=by have:=HLN.out;omega
     obtain ⟨b,off,rfl,hbl,ck⟩:=(S1.bw hbw).at hlt;obtain ⟨b',off',rfl,hbl',ck'⟩:=(HS.bw hw).at hlt2;have hlt':(j:Int)<(nu.length:Int):=by omega
     have hlt2':(t:Int)+(j:Int)<(sent.length:Int):=by omega
     have hq:((t:Int)+(j:Int)).toNat=t+j:=by omega
     clear hlt2
     rcases zK (zi nu j != zi sent (t+j)) with t6 | t6
     ·have HN:Hid (pB (LWay h k sent t)=false):=qak fun x=>by
       have:=x.eq j (by rw [HNU.out];exact hlt);rw [HNU.out] at this;rw [this] at t6;simp at t6
      go_wp2_with fail
      go_quiet (fail)
      go_wp2;go_ret;rw [HN.out];exact ⟨rfl,yB hw _⟩
     ·have HZ2:Hid (∀ i,i<j+1->zi nu i=zi sent (t+i)):=fun i hi=>by
       by_cases e:i=j
       ·subst e
        simpa using t6
       ·exact HZ.out i (by omega)
      clear HZ;go_wp2_with fail
      go_quiet (fail)
      go_wp2;go_roundw
      case rel=>exact ⟨j+1,by omega,by go_num,yB hbw _,HZ2.out⟩
      case measure=>simp [intOf];omega
    ·have HN : Hid (pB (LWay h k sent t) = true) := qbl ⟨HZ'.out, h12, by rw [HNU.out]; exact HLN.out, fun i hi => by
      rw [HNU.out] at hi ⊢
      exact HZ.out i (by omega)⟩
     clear HZ;go_wp2;go_ret;rw [HN.out];exact ⟨rfl,hw⟩
theorem qw1 (gb n gc:Nat) (g:Nat->I5) (w:World) (hn:n<=maxLen) (hg:gb<w.heap.size) (hI:qao w gb 0 n g) (hp:qac g n 4=false):
  Calls prog 241 #[.slice (some ⟨gb,0,none⟩) n gc] w (rB w (.tuple #[.nilFunc,.iface 273 (.agg #[.int .i64 (-1)])])):=by
 have HI:Hid (qao w gb 0 n g):=hI;have HL:Hid (n<=maxLen):=hn;have HP:Hid (qac g n 4=false):=hp;clear hI hn
 go_enter func241,ntmps241
 go_wp2_with fail
 refine (qda gb 0 n gc g 4 _ HL.out (by simp;omega) (HI.bw (by go_grown) hg)).mono ?_;rintro e w1 ⟨rfl,b1⟩;have B1:Hid (Below w.heap.size w w1):=qai (by go_grown) b1 (by simp);clear b1;go_wp2;exact bodyPost_ret (v:=.tuple #[.nilFunc,.iface 273 (.agg #[.int .i64 (-1)])]) (by simp [results,results241,go_sem]) rfl ⟨rfl,B1.out⟩
def AllR (w:World) (O:Option S4) (e:Ending) (w':World):Prop:=
 ∃ v err,e=.returned (.tuple #[v,err])/\Below w.heap.size w w'/\qag w' w.heap.size v (resS O).p (resS O).rs (resS O).os (resS O).c/\((O.isSome=true/\err=.nilIface)\/(O.isSome=false/\∃ x:Int,err=.iface 273 (.agg #[.int .i64 x])))
theorem qvo (gb n gc:Nat) (ea:Option Addr) (m ec:Nat) (g:Nat->I5) (eh:Nat->E3) (w:World) (hn:n<=maxLen) (hg:gb<w.heap.size) (hI:qao w gb 0 n g) (hp:qac g n 4=false):
  Calls prog 226 #[.slice (some ⟨gb,0,none⟩) n gc,.slice ea m ec] w (AllR w (repO g n eh m)):=by
 have HI:Hid (qao w gb 0 n g):=hI
 have HO:Hid (repO g n eh m=none):=by
  show repO g n eh m=none;unfold repO;rw [nB (by rw [hp];simp)]
 have HP:Hid (qac g n 4=false):=hp;have HL:Hid (n<=maxLen):=hn;clear hI hn hp;rw [HO.out];have bA:=zS w (zQ0);have BA:Hid (Below w.heap.size w (w.alloc (zQ0))):=bA;have NB:Hid (BoxC (w.alloc (zQ0)) w.heap.size (.int .i64 0) nS nS (.int .i64 0)/\∀ j,(w.alloc (zQ0)).frozen? ⟨w.heap.size,j,none⟩=false):=⟨BoxC.new w _ _ _ _ _,fun j=>yA _ _ _ j rfl⟩
 clear bA
 go_enter func226,ntmps226
 go_wp2_with fail
 have hz:(w.alloc (zQ0)).heap.size=w.heap.size+1:=by simp
 generalize w.alloc (zQ0)=wa at *;refine (qw1 gb n gc g wa HL.out (zL hg BA.size) (HI.bw BA.out hg) HP.out).mono ?_;rintro e w1 ⟨rfl,b1⟩;have N1:BoxC w1 w.heap.size (.int .i64 0) nS nS (.int .i64 0):=NB.1.bw b1;have F1:∀ j,w1.frozen? ⟨w.heap.size,j,none⟩=false:=fun j=>(zI (b1.block w.heap.size (by omega))).trans (NB.2 j);have B1:Hid (Below w.heap.size w w1):=BA.trans (b1.mono BA.size);obtain ⟨r0,r1,r2,r3⟩:=N1;clear b1 BA NB hz;go_wp2;exact bodyPost_ret (v:=.tuple #[stV 0 none 0 0 none 0 0 0,.iface 273 (.agg #[.int .i64 (-1)])]) (by simp [results,results226,go_sem,r0,r1,r2,r3]) rfl ⟨_,_,rfl,(((B1.setCell (nA _) _).setCell (nA _) _).setCell (nA _) _).setCell (nA _) _,qag.nil _ _,.inr ⟨rfl,_,rfl⟩⟩
structure Ra (wa wr:World) (A B C X gb n gc k:Nat) (S:S4):Prop where
 rn:∃ ra rc oa oc,Rn wa wr A B C gb n gc k S.p S.c ra rc oa oc S.rs S.os
 sb:∃ ra rc oa oc,BoxC wr X (.int .i64 S.p) (.slice ra S.rs.length rc) (.slice oa S.os.length oc) (.int .i64 S.c)/\qag wr wa.heap.size (stV S.p ra S.rs.length rc oa S.os.length oc S.c) S.p S.rs S.os S.c/\¬ qae (stV S.p ra S.rs.length rc oa S.os.length oc S.c) X
 fs:∀ j,wr.frozen? ⟨X,j,none⟩=false
 ne:X≠A/\X≠B/\X≠C/\wa.heap.size<=X
theorem qag.setOut {w:World} {B N:Nat} {v:Value} {p code:Int} {rs os:List Int} (h:qag w B v p rs os code) (hN:¬ qae v N) (j:Nat) (u:Value):qag (w.setCell ⟨N,j,none⟩ u) B v p rs os code:=by
 obtain ⟨vr,vo,rfl,h1,h2,h3⟩:=h
 have blk:∀ {v':Value} {xs:List Int},OwnI w B v' xs->(v'.ownBlock≠some N)->OwnI (w.setCell ⟨N,j,none⟩ u) B v' xs:=by
  intro v' xs hv hne;obtain ⟨g0,g⟩:=hv;refine ⟨g0,?_⟩
  rcases g with g | ⟨b,cap,cur,rfl,g1,g2,g3⟩
  ·exact .inl g
  ·refine .inr ⟨b,cap,cur,rfl,g1,(zN _ _ _ _ fun e=>hne ?_).trans g2,g3⟩
   show some b=some N;rw [e]
 exact ⟨vr,vo,rfl,blk h1 fun e=>hN ((qal _ _ _ _ _).2 (.inl e)),blk h2 fun e=>hN ((qal _ _ _ _ _).2 (.inr e)),h3⟩
theorem Rn.setX {w wr:World} {A B C gb n gc k X:Nat} {p code:Int} {ra:Option Addr} {rc:Nat} {oa:Option Addr} {oc:Nat} {rs os:List Int} (h:Rn w wr A B C gb n gc k p code ra rc oa oc rs os) (hX:X≠A/\X≠B/\X≠C/\w.heap.size<=X) (hb:¬ qae (stV p ra rs.length rc oa os.length oc code) X) (j:Nat) (u:Value):Rn w (wr.setCell ⟨X,j,none⟩ u) A B C gb n gc k p code ra rc oa oc rs os:=by
 have hc:∀ N i,X≠N->(wr.setCell ⟨X,j,none⟩ u).cell? ⟨N,i,none⟩=wr.cell? ⟨N,i,none⟩:=fun N i hne=>World.cell?_setCell_other _ _ _ _ fun e=>hne (by injection e);obtain ⟨t0,t1,t2,t3⟩:=h.tl.box;refine ⟨(hc A 0 hX.1).trans h.la,⟨h.tl.lo,by simp;exact h.tl.hi,by simp,⟨(hc B 0 hX.2.1).trans t0,(hc B 1 hX.2.1).trans t1,(hc B 2 hX.2.1).trans t2,(hc B 3 hX.2.1).trans t3⟩,h.tl.own.setOut hb j u,fun i hi=>by simp;exact h.tl.up i hi,h.tl.ne⟩,fun i=>by rw [World.frozen?_setCell];exact h.fb i,(hc C 0 hX.2.2.1).trans h.ck,by rw [World.frozen?_setCell];exact h.fc,h.ne,h.nh,h.be.setCell hX.2.2.2 _⟩
theorem Ra.bw {wa wr w':World} {A B C X gb n gc k:Nat} {S:S4} (h:Ra wa wr A B C X gb n gc k S) (hb:Below wr.heap.size wr w'):Ra wa w' A B C X gb n gc k S:=by
 obtain ⟨ra,rc,oa,oc,b,o,nb⟩:=h.sb;obtain ⟨ra',rc',oa',oc',r⟩:=h.rn;exact ⟨⟨ra',rc',oa',oc',r.bw hb⟩,⟨ra,rc,oa,oc,b.bw hb,o.bw hb,nb⟩,fun j=>(zI (hb.block X (zJ wr _ b.1))).trans (h.fs j),h.ne⟩
theorem Ra.next {wa wq w5:World} {A B C X gb n gc k:Nat} {S S':S4} (h:Ra wa wq A B C X gb n gc k S) (kp:qa5 wq B C w5) {ra:Option Addr} {rc:Nat} {oa:Option Addr} {oc:Nat} (r:Rn wa w5 A B C gb n gc (k+1) S'.p S'.c ra rc oa oc S'.rs S'.os) (hj:∀ j,qae (stV S'.p ra S'.rs.length rc oa S'.os.length oc S'.c) j->wq.heap.size<=j):
  Ra wa ((((w5.setCell ⟨X,0,none⟩ (.int .i64 S'.p)).setCell ⟨X,1,none⟩ (.slice ra S'.rs.length rc)).setCell ⟨X,2,none⟩ (.slice oa S'.os.length oc)).setCell ⟨X,3,none⟩ (.int .i64 S'.c)) A B C X gb n gc (k+1) S':=by
 obtain ⟨ra0,rc0,oa0,oc0,b,-,-⟩:=h.sb;have zX:X<wq.heap.size:=zJ wq _ b.1
 have nX:¬ qae (stV S'.p ra S'.rs.length rc oa S'.os.length oc S'.c) X:=fun e=>by
  have:=hj X e;omega
 have hB5:w5.heap[X]? = wq.heap[X]?:=kp.2 X zX h.ne.2.1 h.ne.2.2.1;have b5:BoxC w5 X (.int .i64 S.p) (.slice ra0 S.rs.length rc0) (.slice oa0 S.os.length oc0) (.int .i64 S.c):=⟨(zH hB5).trans b.1,(zH hB5).trans b.2.1,(zH hB5).trans b.2.2.1,(zH hB5).trans b.2.2.2⟩
 refine ⟨⟨ra,rc,oa,oc,(((r.setX h.ne nX _ _).setX h.ne nX _ _).setX h.ne nX _ _).setX h.ne nX _ _⟩,⟨ra,rc,oa,oc,qrg b5 _ _ _ _,(((r.tl.own.setOut nX _ _).setOut nX _ _).setOut nX _ _).setOut nX _ _,nX⟩,fun j=>?_,h.ne⟩;simp only [World.frozen?_setCell];rw [zI hB5];exact h.fs j
theorem qt0 (gb n gc:Nat) (ea:Option Addr) (m ec:Nat) (g:Nat->I5) (eh:Nat->E3) (w:World) (hn:n<=maxLen) (hg:gb<w.heap.size) (hI:qao w gb 0 n g) (hp:qac g n 4=true) (hE:EvL w ea m eh) (hm:m<=1048576):
  Calls prog 226 #[.slice (some ⟨gb,0,none⟩) n gc,.slice ea m ec] w (AllR w (repO g n eh m)):=by
 have HI:Hid (qao w gb 0 n g):=hI;have HE:Hid (EvL w ea m eh):=hE;have HP:Hid (qac g n 4=true):=hp;have HL:Hid (n<=maxLen):=hn;have hm':(m:Int)<=1048576:=by omega
 have HO:Hid (repO g n eh m=if m<=200 then rp g n eh m else none):=by
  show repO g n eh m=_;unfold repO;by_cases h2:m<=200
  ·rw [nC ⟨hp,h2⟩,nC h2]
  ·rw [nB (by omega),nB h2]
 clear hI hn hp hE;have bA:=zS w (zQ0);have BA:Hid (Below w.heap.size w (w.alloc (zQ0))):=bA;have NB:Hid (BoxC (w.alloc (zQ0)) w.heap.size (.int .i64 0) nS nS (.int .i64 0)/\∀ j,(w.alloc (zQ0)).frozen? ⟨w.heap.size,j,none⟩=false):=⟨BoxC.new w _ _ _ _ _,fun j=>yA _ _ _ j rfl⟩
 clear bA;generalize hRO:repO g n eh m=O at *
 go_enter func226,ntmps226
 go_wp2_with fail
 have hz:(w.alloc (zQ0)).heap.size=w.heap.size+1:=by simp
 generalize w.alloc (zQ0)=wa at *;refine (qvp gb n gc g wa HL.out (zL hg BA.size) (HI.bw BA.out hg) HP.out).mono ?_;rintro e w1 ⟨A,B,C,ra,rc,oa,oc,rfl,R1⟩;have HR1:Hid (Rn wa w1 A B C gb n gc 0 0 0 ra rc oa oc [0,0,0,0] []):=R1;clear R1;go_wp2_with fail
 refine (qdu _).mono ?_;rintro e w2 ⟨v2,rfl,o2,b2⟩;obtain ⟨ra2,rc2,oa2,oc2,rfl,-,-⟩:=o2.read;have HR2:Hid (Rn wa w2 A B C gb n gc 0 0 0 ra rc oa oc [0,0,0,0] []):=HR1.bw b2;have O2:Hid (qag w2 w1.heap.size (stV 0 ra2 4 rc2 oa2 0 oc2 0) 0 [0,0,0,0] [] 0):=o2;have zX:=b2.size
 have HRA:Hid (Ra wa (w2.alloc (oQ1 0 ra2 4 rc2 oa2 0 oc2 0)) A B C w2.heap.size gb n gc 0 newS):=by
  have zA:A<w2.heap.size:=zJ w2 _ HR2.la;have zB:B<w2.heap.size:=HR2.tl.hi;have zC:C<w2.heap.size:=zJ w2 _ HR2.ck;have hbe:=HR2.be.size;have hbe1:=HR1.be.size;refine ⟨⟨_,_,_,_,HR2.bw (zS _ _)⟩,⟨ra2,rc2,oa2,oc2,BoxC.new w2 _ _ _ _ _,(O2.bw (zS _ _)).mono hbe1,fun e=>?_⟩,fun j=>yA _ _ _ j rfl,by omega,by omega,by omega,hbe⟩;have:=(O2.lt e).2;omega
 clear o2 b2 O2 HR1 HR2;go_wp2_with fail
 generalize w2.alloc (oQ1 0 ra2 4 rc2 oa2 0 oc2 0)=w3 at *
 have HZ:Hid (w.heap.size<wa.heap.size):=by
  show w.heap.size<wa.heap.size;omega
 generalize w2.heap.size=X at *;clear zX hz
 go_loopw [23] (fun i wr=>∃ k:Nat,k<=m/\i=.int .i64 k/\Hid (k<=200/\∃ S,rp g n eh k=some S/\OkS n S/\Ra wa wr A B C X gb n gc k S)) (fun i _=>m - (intOf i).toNat)
 case atStart=>exact ⟨0,nD _,rfl,by omega,newS,rfl,qlr HP.out,HRA.out⟩
 case round=>
  clear HRA;obtain ⟨k,hk,rfl,HK⟩:=hrel;obtain ⟨hk2,S,hrp,hok,hra⟩:=HK.out;obtain ⟨sra,src,soa,soc,⟨s0,s1,s2,s3⟩,sown,snb⟩:=hra.sb
  have hbe:Below w.heap.size w wr:=by
   obtain ⟨_,_,_,_,r⟩:=hra.rn;exact BA.trans (r.be.mono BA.size)
  by_cases hlt:k<m
  ·have hlt':(k:Int)<(m:Int):=by omega
   obtain ⟨eb,eo,rfl,-,c0,c1,c2⟩:=(HE.bw hbe).at hlt;have HRP:Hid (rp g n eh k=some S):=hrp;have HOK:Hid (OkS n S):=hok;have HRa:Hid (Ra wa wr A B C X gb n gc k S):=hra;have HK2:Hid (k<=200):=hk2;clear hrp hok hra hk2 sown snb HK s0 s1 s2 s3 hbe;go_wp2_with fail
   have hRq:Ra wa (wr.alloc (oQ0 (eh k).k (eh k).q (eh k).v)) A B C X gb n gc k S:=HRa.bw (zS _ _);generalize wr.alloc (oQ0 (eh k).k (eh k).q (eh k).v)=wq at *;have HRq:Hid (Ra wa wq A B C X gb n gc k S):=hRq;obtain ⟨qra,qrc,qoa,qoc,qrn⟩:=hRq.rn;have hlen:=OkS.len HOK.out;refine (qt1 A B C gb n gc k g S.p S.c qra qrc qoa qoc S.rs S.os _ _ _ wa wq qrn HL.out (zL hg BA.size) (HI.bw BA.out hg) HP.out HK2.out (by omega) (by omega)).mono ?_;rintro e w5 ⟨kp,hd⟩
   have n5:BoxC w5 w.heap.size (.int .i64 0) nS nS (.int .i64 0)/\(∀ j,w5.frozen? ⟨w.heap.size,j,none⟩=false)/\(∃ a b c d,BoxC w5 X a b c d)/\∀ j,w5.frozen? ⟨X,j,none⟩=false:=by
    have zR:w.heap.size<wq.heap.size:=zL HZ.out qrn.be.size;have lB:=qrn.tl.lo;have lC:=qrn.ne.2.2.2.2;have hz:=HZ.out;have eR:w5.heap[w.heap.size]? = wa.heap[w.heap.size]?:=(kp.2 _ zR (by omega) (by omega)).trans (qrn.be.block _ HZ.out);obtain ⟨xra,xrc,xoa,xoc,xb,-,-⟩:=hRq.sb;have eX:w5.heap[X]? = wq.heap[X]?:=kp.2 X (zJ wq _ xb.1) hRq.ne.2.1 hRq.ne.2.2.1;obtain ⟨a0,a1,a2,a3⟩:=NB.1;exact ⟨⟨(zH eR).trans a0,(zH eR).trans a1,(zH eR).trans a2,(zH eR).trans a3⟩,fun j=>(zI eR).trans (NB.2 j),⟨_,_,_,_,(zH eX).trans xb.1,(zH eX).trans xb.2.1,(zH eX).trans xb.2.2.1,(zH eX).trans xb.2.2.2⟩,fun j=>(zI eX).trans (hRq.fs j)⟩
   obtain ⟨⟨r0,r1,r2,r3⟩,rf,⟨xa,xb,xc,xd,x0,x1,x2,x3⟩,xf⟩:=n5
   have hRX:w.heap.size≠X:=by
    have:=hRq.ne.2.2.2;have:=HZ.out;omega
   have hXR:X≠w.heap.size:=fun e=>hRX e.symm
   rcases hd with ⟨tT,tk,ra7,rc7,oa7,oc7,rfl,R7,J7⟩ | ⟨tF,rfl,be7⟩
   ·have HN:Hid (Ra wa _ A B C X gb n gc (k+1) (doS g n S.p S.rs S.os S.c (eh k).k (eh k).q (eh k).v)):=hRq.next kp R7 J7
    have HS':Hid (rp g n eh (k+1)=some (doS g n S.p S.rs S.os S.c (eh k).k (eh k).q (eh k).v)):=qvn HRP.out tT;have HO':Hid (OkS n (doS g n S.p S.rs S.os S.c (eh k).k (eh k).q (eh k).v)):=qrj tT
    have HK3:Hid (k+1<=200):=by
     show k+1<=200;have:=HK2.out;omega
    generalize doS g n S.p S.rs S.os S.c (eh k).k (eh k).q (eh k).v=S' at *;clear R7 J7 qrn hRq kp tT tk r0 r1 r2 r3 rf;go_wp2;go_roundw
    case rel=>exact ⟨k+1,by omega,by go_num,HK3.out,S',HS'.out,HO'.out,HN.out⟩
    case measure=>simp [intOf];omega
   ·have HON:Hid (O=none):=by
     show O=none;rw [HO.out]
     rcases tF with tF | tF
     ·by_cases h2:m<=200
      ·rw [nC h2]
       exact qqt (qys HRP.out tF) (by omega)
      ·rw [nB h2]
     ·rw [nB (by omega)]
    have B5:Hid (Below w.heap.size w w5):=BA.trans (be7.mono BA.size)
    have hwX:w.heap.size<=X:=by
     have:=hRq.ne.2.2.2;have:=HZ.out;omega
    have HW:Hid (w.heap.size<=X):=hwX;clear qrn hRq kp tF be7 hwX;go_wp2;refine bodyPost_ret (v:=.tuple #[stV 0 none 0 0 none 0 0 0,.iface 273 (.agg #[.int .i64 k])]) (by simp [results,results226,go_sem,r0,r1,r2,r3]) rfl ?_;rw [HON.out];refine ⟨_,_,rfl,?_,qag.nil _ _,.inr ⟨rfl,_,rfl⟩⟩
    repeat (refine Below.setCell ?_ (by first | exact nA _ | exact HW.out) _)
    exact B5.out
  ·have hkm:k=m:=by omega
   subst hkm
   have HOS:Hid (O=some S):=by
    show O=some S;rw [HO.out,nC hk2];exact hrp
   obtain ⟨r0,r1,r2,r3⟩:BoxC wr w.heap.size (.int .i64 0) nS nS (.int .i64 0):=by
    obtain ⟨_,_,_,_,r⟩:=hra.rn;have eR:wr.heap[w.heap.size]? = wa.heap[w.heap.size]?:=r.be.block _ HZ.out;obtain ⟨a0,a1,a2,a3⟩:=NB.1;exact ⟨(zH eR).trans a0,(zH eR).trans a1,(zH eR).trans a2,(zH eR).trans a3⟩
   have rf:∀ j,wr.frozen? ⟨w.heap.size,j,none⟩=false:=by
    obtain ⟨_,_,_,_,r⟩:=hra.rn;exact fun j=>(zI (r.be.block _ HZ.out)).trans (NB.2 j)
   have HSO:Hid (qag wr wa.heap.size (stV S.p sra S.rs.length src soa S.os.length soc S.c) S.p S.rs S.os S.c):=sown;have HBE:Hid (Below w.heap.size w wr):=hbe;have hlt':¬ (k:Int)<(k:Int):=by omega
   clear hrp hok hra hk2 sown snb HK hbe;go_wp2;refine bodyPost_ret (v:=.tuple #[stV S.p sra S.rs.length src soa S.os.length soc S.c,.nilIface]) (by simp [results,results226,go_sem,r0,r1,r2,r3]) rfl ?_;rw [HOS.out];refine ⟨_,_,rfl,?_,?_,.inl ⟨rfl,rfl⟩⟩
   ·exact (((HBE.setCell (nA _) _).setCell (nA _) _).setCell (nA _) _).setCell (nA _) _
   ·exact HSO.put4 HZ.out (nJ HZ.out)
theorem qr5 {g:Nat->I5} {len:Nat} {eh eh':Nat->E3}:∀ {k:Nat},(∀ i,i<k->eh' i=eh i)->rp g len eh' k=rp g len eh k
 | 0,_=>rfl
 | k+1,h=>by
  show (rp g len eh' k).bind (qeu g len (eh' k))=(rp g len eh k).bind (qeu g len (eh k));rw [qr5 fun i hi=>h i (by omega),h k (by omega)]
theorem qit {eh eh':Nat->E3} {kd pr:Int}:∀ {k:Nat},(∀ i,i<k->eh' i=eh i)->plN eh' kd pr k=plN eh kd pr k
 | 0,_=>rfl
 | k+1,h=>by
  have e:=qit (kd:=kd) (pr:=pr) (k:=k) fun i hi=>h i (by omega)
  have hh:hitB eh' kd pr k=hitB eh kd pr k:=by
   unfold hitB;rw [h k (by omega)]
  unfold plN;rw [e,hh]
theorem qvl {eh:Nat->E3} {kd pr:Int}:∀ {k i:Nat},i ∈ plN eh kd pr k->i<k
 | 0,i,h=>by simp [plN] at h
 | k+1,i,h=>by
  unfold plN at h
  split at h
  ·simp only [List.mem_append,List.mem_singleton] at h
   rcases h with h | h
   ·have:=qvl h
    omega
   ·omega
  ·have:=qvl h
   omega
theorem qub {eh eh':Nat->E3} {kd pr:Int} {k:Nat} (h:∀ i,i<k->eh' i=eh i):valL eh' kd pr k=valL eh kd pr k:=by
 unfold valL;rw [qit h];exact List.map_congr_left fun i hi=>by rw [h i (qvl hi)]
theorem qij {eh eh':Nat->E3} {kd pr:Int} {k:Nat} (h:∀ i,i<k->eh' i=eh i):cnt eh' kd pr k=cnt eh kd pr k:=by
 unfold cnt;rw [qit h]
theorem qx5 (eh:Nat->E3) (kd pr:Int) (k:Nat):cnt eh kd pr k=(valL eh kd pr k).length:=by simp [cnt,valL]
theorem qv5 {eh:Nat->E3} {kd pr:Int} {n:Nat} {x:E3}:valL (fun i=>if i=n then x else eh i) kd pr (n+1)=valL eh kd pr n ++ (if x.k=kd/\x.q=pr then [x.v] else []):=by
 have e:valL (fun i=>if i=n then x else eh i) kd pr n=valL eh kd pr n:=qub fun i hi=>by rw [nB (by omega)]
 by_cases h:x.k=kd/\x.q=pr
 ·have hh:hitB (fun i=>if i=n then x else eh i) kd pr n=true:=by
   rw [qeh];simp only [nQ];exact h
  rw [qsa hh,e,nC h];simp
 ·have hh:hitB (fun i=>if i=n then x else eh i) kd pr n=false:=by
   rcases zK (hitB (fun i=>if i=n then x else eh i) kd pr n) with t | t
   ·rw [qeh] at t
    simp only [nQ] at t;exact absurd t h
   ·exact t
  rw [qmf hh,e,nB h,List.append_nil]
theorem qj7 {H H':Nat->I2}:∀ {n:Nat},(∀ i,i<n->H' i=H i)->numL H' n=numL H n
 | 0,_=>rfl
 | n+1,h=>by
  unfold numL;rw [qj7 fun i hi=>h i (by omega),h n (by omega)]
theorem qvf (H:Nat->I2) (n:Nat) (v:Int):numL (fun i=>if i=n then ⟨false,v⟩ else H i) (n+1)=numL H n ++ [v]:=by
 rw [qhz (by simp)];rw [qj7 (H:=H) fun i hi=>by rw [nB (by omega)]];simp
theorem qgm {H:Nat->I2} (h0:(H 0).m=false):∀ n,numL H (n+1)=(H 0).v :: numL (fun i=>H (i+1)) n
 | 0=>by rw [qhz h0];rfl
 | n+1=>by
  rw [numL];rw [qgm h0 n]
  conv=>rhs;rw [numL]
  split <;> simp
theorem Hs.Put.more {x x':Hs} (hn:x'.n=x.n) (hl:∀ j,x.l j<=x'.l j) (he:∀ j i,i<x.l j->x'.e j i=x.e j i) {d:Nat->Nat} (h:x.Put d):x'.Put d:=by
 induction h with
 | start=>exact .start
 | next hd hp hc ih=>
  rename_i d p;refine .next ih (by omega) ⟨zL hc.1 (hl p),fun hk=>?_⟩;have e:=he p (d p) hc.1;rw [e] at hk ⊢;have hle:=hd.le;rw [qij (fun i hi=>he p i (Nat.lt_trans hi hc.1)),qij (fun i hi=>he _ i (zL hi (hle _)))];exact hc.2 hk
theorem qv8 {a b p q n:Nat} (hb:b<n) (hq:q<n) (h:a*n+b=p*n+q):a=p/\b=q:=by
 have h1:(a*n+b) / n=a:=by rw [Nat.mul_comm,Nat.mul_add_div (by omega),Nat.div_eq_of_lt hb,nP]
 have h2:(p*n+q) / n=p:=by rw [Nat.mul_comm,Nat.mul_add_div (by omega),Nat.div_eq_of_lt hq,nP]
 have h3:a=p:=by rw [<- h1,<- h2,h]
 subst h3;exact ⟨rfl,by omega⟩
theorem qr6 {a b p q n:Nat} (h1:a=p) (h2:q=b):a*n+b=p*n+q:=by rw [h1,h2]
theorem Sy.Ok.next {y:Sy} (h:y.Ok) {p:Nat} (hp:p<y.pn) (hc:(y.sS p).c=0):(y.nk p=1\/y.nk p=2\/y.nk p=3\/y.nk p=4)/\(y.nk p≠2->y.nk p≠3->y.nq p=0)/\(y.nk p=2->numB (y.nv p)=true):=by
 have hr:=h.right hp hc;rw [<- hc] at hr;have e1:y.nk p=evK (y.pH p (y.sS p).p.toNat).o:=nC hr;have e2:y.nq p=evP (y.pH p (y.sS p).p.toNat).o (y.pH p (y.sS p).p.toNat).n:=nC hr;have e3:y.nv p=evW (y.pH p (y.sS p).p.toNat).o (y.pH p (y.sS p).p.toNat).a (y.sS p).rs:=nC hr;obtain ⟨hpr,hs,-⟩:=qbe hr;obtain ⟨⟨a1,a2,a3,a4,ers,n1,n2,n3,n4⟩,⟨k,ek,hk⟩,-,-⟩:=qco hs;have ek':(y.sS p).p.toNat=k:=by omega
 obtain ⟨-,-,⟨m0,m3⟩,-⟩:=qce (qbw hpr hk);rw [ek'] at e1 e2 e3;refine ⟨?_,?_,?_⟩
 ·rw [e1]
  unfold evK
  split
  ·exact .inr (.inl rfl)
  ·split
   ·exact .inr (.inr (.inl rfl))
   ·split
    ·exact .inr (.inr (.inr rfl))
    ·exact .inl rfl
 ·intro h2 h3
  rw [e1] at h2 h3;rw [e2];unfold evK at h2 h3;unfold evP;by_cases e6:(y.pH p k).o=6
  ·rw [nC e6] at h2
   exact absurd rfl h2
  ·rw [nB e6] at h3 ⊢
   by_cases e7:(y.pH p k).o=7
   ·rw [nC e7] at h3
    exact absurd rfl h3
   ·rw [nB e7]
 ·intro h2
  rw [e1] at h2;rw [e3,ers]
  have e6:(y.pH p k).o=6:=by
   unfold evK at h2;by_cases e6:(y.pH p k).o=6
   ·exact e6
   ·rw [nB e6] at h2
    split at h2
    ·cases h2
    ·split at h2 <;> cases h2
  unfold evW;rw [nC e6];obtain ⟨j,ej⟩:∃ j:Nat,(y.pH p k).a=j:=⟨(y.pH p k).a.toNat,by omega⟩
  have hj:(y.pH p k).a.toNat<4:=by omega
  match (y.pH p k).a.toNat,hj with
  | 0,_=>exact n1
  | 1,_=>exact n2
  | 2,_=>exact n3
  | 3,_=>exact n4
structure Sy.Done (y:Sy) (p:Nat) (f:Int):Prop where
 run:(y.sS p).c=0
 room:y.hL p<200
 peer:0<=y.eq p f/\y.eq p f<(y.pn:Int)
 send:y.nk p=2->y.wL (p*y.pn+(y.eq p f).toNat)<12/\numB (y.ev p f)=true
 take:y.nk p=3->0<y.wL ((y.eq p f).toNat*y.pn+p)/\(y.wH ((y.eq p f).toNat*y.pn+p) 0).m=false/\(y.wH ((y.eq p f).toNat*y.pn+p) 0).v=y.ev p f/\numB (y.ev p f)=true
 can:doB (y.pH p) (y.pL p) (y.sS p).p (y.sS p).rs (y.sS p).os (y.sS p).c (y.nk p) (y.eq p f) (y.ev p f)=true
theorem Sy.Ok.done {y:Sy} (h:y.Ok) {p:Nat} (hp:p<y.pn) {f:Int} (hc:cmS y p f=0):y.Done p f:=by
 unfold cmS at hc;have h4:y.pn<=4:=h.cn.1.2;have h1:1<=y.pn:=h.cn.1.1;by_cases c0:(y.sS p).c=0
 case neg=>
  rw [nC c0] at hc;cases hc
 rw [nB (by simpa using c0)] at hc;by_cases c1:fuS y p (y.nk p) (y.nq p)=true
 ·rw [nC c1] at hc
  cases hc
 rw [nB c1] at hc
 have hfu:y.hL p<200/\(y.nk p=2->y.wL (p*y.pn+(y.nq p).toNat)<12):=by
  simp only [fuS,Bool.or_eq_true,nI,nH,beq_iff_eq,not_or,not_and] at c1;exact ⟨by omega,fun h2=>by have:=c1.2 h2;omega⟩
 obtain ⟨hk,hq0,hnv⟩:=h.next hp c0;by_cases k3:y.nk p=3
 ·rw [nC k3] at hc
  have eQ:y.eq p f=if y.nq p=9 then f else y.nq p:=nC k3
  rw [<- eQ] at hc;have eV:y.ev p f=(y.wH ((y.eq p f).toNat*y.pn+p) 0).v:=nC k3;unfold tkS at hc;by_cases b:belB (y.eq p f) y.pn=true
  case neg=>
   rw [nB b] at hc;cases hc
  rw [nC b] at hc;have hb:0<=y.eq p f/\y.eq p f<(y.pn:Int):=by simpa [belB] using b
  by_cases w0:y.wL ((y.eq p f).toNat*y.pn+p)=0
  ·rw [nC w0] at hc
   cases hc
  rw [nB w0] at hc;by_cases m0:(y.wH ((y.eq p f).toNat*y.pn+p) 0).m=true
  ·rw [nC m0] at hc
   cases hc
  have hv:numB (y.ev p f)=true:=by
   have:=(h.wa (y.eq p f).toNat (by omega) p hp).it 0 (by omega);simp only [qci,nH] at this;rw [eV];exact this.1
  refine ⟨c0,hfu.1,hb,(fun h2=>by rw [k3] at h2;cases h2),fun _=>⟨by omega,by simpa using m0,eV.symm,hv⟩,?_⟩;have e3:nxK (y.pH p) (y.pL p) (y.sS p).p (y.sS p).rs (y.sS p).os (y.sS p).c=3:=k3;unfold doB canB;rw [nC e3,k3,hv];simp only [beq_self_eq_true,Bool.true_and];by_cases e9:y.nq p=9
  ·have e9':nxP (y.pH p) (y.pL p) (y.sS p).p (y.sS p).rs (y.sS p).os (y.sS p).c=9:=e9
   rw [nC e9'];simp only [belB,nI];omega
  ·have e9':¬ nxP (y.pH p) (y.pL p) (y.sS p).p (y.sS p).rs (y.sS p).os (y.sS p).c=9:=e9
   rw [nB e9',eQ,nB e9];simp [Sy.nq]
 ·have eQ:y.eq p f=y.nq p:=nB k3
  have eV:y.ev p f=y.nv p:=nB k3
  have hpe:0<=y.nq p/\y.nq p<(y.pn:Int):=by
   by_cases k2:y.nk p=2
   ·exact h.peer hp k2
   ·rw [hq0 k2 k3]
    omega
  refine ⟨c0,hfu.1,by rw [eQ];exact hpe,fun h2=>⟨by rw [eQ];exact hfu.2 h2,by rw [eV];exact hnv h2⟩,fun h3=>absurd h3 k3,?_⟩;have e3:¬ nxK (y.pH p) (y.pL p) (y.sS p).p (y.sS p).rs (y.sS p).os (y.sS p).c=3:=k3;have e0:y.nk p≠0:=by omega
  unfold doB canB;rw [nB e3,eQ,eV];simp only [nH,bne_iff_ne,beq_iff_eq];exact ⟨e0,rfl,rfl,rfl⟩
theorem Sy.Ok.step {y:Sy} (h:y.Ok) {p:Nat} (hp:p<y.pn) {f:Int} (hc:cmS y p f=0):(y.step p f).Ok:=by
 have D:=h.done hp hc;have e:y.step p f=(y.way p (y.nk p) (y.eq p f) (y.ev p f)).evt p (y.nk p) (y.eq p f) (y.ev p f):=nC hc;rw [e];obtain ⟨q,hq⟩:∃ q:Nat,y.eq p f=q:=⟨(y.eq p f).toNat,by have:=D.peer;omega⟩
 have hqn:q<y.pn:=by have:=D.peer;omega
 have D':=D;obtain ⟨run,room,peer,send,take,can⟩:=D;rw [hq,nF] at send take;rw [hq] at can ⊢;generalize hV:y.ev p f=V at *;obtain ⟨kk,-,-⟩:=h.next hp run;generalize hK:y.nk p=K at *;clear hV hK e hc hq peer D'
 -- what happened to each,now
 have hH:∀ a kd pr,valL (((y.way p K q V).evt p K q V).hH a) kd pr (((y.way p K q V).evt p K q V).hL a)=valL (y.hH a) kd pr (y.hL a) ++ (if a=p/\K=kd/\(q:Int)=pr then [V] else []):=by
  intro a kd pr;show valL (if a=p then (fun i=>if i=y.hL p then (⟨K,q,V⟩:E3) else y.hH p i) else y.hH a) kd pr (if a=p then y.hL p+1 else y.hL a)=_;by_cases ea:a=p
  ·subst ea
   simp only [nQ,true_and];exact qv5
  ·rw [nB ea,nB ea,nB (fun h=>ea h.1),List.append_nil]
 refine ⟨h.cn,h.pr,fun a ha=>?_,fun a ha i hi=>?_,fun a ha b hb=>?_,?_⟩
 ·show repO (y.pH a) (y.pL a) (if a=p then (fun i=>if i=y.hL p then (⟨K,q,V⟩:E3) else y.hH p i) else y.hH a) (if a=p then y.hL p+1 else y.hL a)=some (if a=p then doS (y.pH p) (y.pL p) (y.sS p).p (y.sS p).rs (y.sS p).os (y.sS p).c K q V else y.sS a)
  by_cases ea:a=p
  ·subst ea
   simp only [nQ];have h0:=qcs (h.rp a hp);unfold repO;rw [nC ⟨h0.1,by omega⟩];have hr:Go.Proofs.YtkdablcbhhphoaaGreatDoor.rp (y.pH a) (y.pL a) (fun i=>if i=y.hL a then (⟨K,q,V⟩:E3) else y.hH a i) (y.hL a)=some (y.sS a):=(qr5 fun i hi=>by rw [nB (by omega)]).trans h0.2.2;have:=qvn hr (by simpa using can);simpa using this
  ·rw [nB ea,nB ea,nB ea]
   exact h.rp a ha
 ·have hi':i<(if a=p then y.hL p+1 else y.hL a):=hi
  show ((if a=p then (fun i=>if i=y.hL p then (⟨K,q,V⟩:E3) else y.hH p i) else y.hH a) i).q<(y.pn:Int);by_cases ea:a=p
  ·subst ea
   simp only [nQ] at hi' ⊢;by_cases ei:i=y.hL a
   ·rw [nC ei]
    show (q:Int)<_;omega
   ·rw [nB ei]
    exact h.pe a hp i (by omega)
  ·rw [nB ea] at hi' ⊢
   exact h.pe a ha i hi'
 ·have wab:=h.wa a ha b hb
  rw [hH b 3 a,hH a 2 b];show WayP (((y.way p K q V)).wH (a*y.pn+b)) ((y.way p K q V).wL (a*y.pn+b)) _ _;by_cases k2:K=2
  ·subst k2
   rw [Sy.way_send,nB (fun h=>by have:=h.2.1;omega),List.append_nil];show WayP (if a*y.pn+b=p*y.pn+q then (fun i=>if i=y.wL (p*y.pn+q) then ⟨false,V⟩ else y.wH (p*y.pn+q) i) else y.wH (a*y.pn+b)) (if a*y.pn+b=p*y.pn+q then y.wL (p*y.pn+q)+1 else y.wL (a*y.pn+b)) _ _;by_cases ew:a*y.pn+b=p*y.pn+q
   ·obtain ⟨rfl,rfl⟩:=qv8 hb hqn ew
    simp only [nQ];rw [nC ⟨trivial,trivial,trivial⟩];obtain ⟨s1,s2⟩:=send rfl;refine ⟨fun i hi=>?_,by omega,?_⟩
    ·by_cases ei:i=y.wL (a*y.pn+b)
     ·rw [nC ei]
      simp [qci,s2]
     ·rw [nB ei]
      exact wab.it i (by omega)
    ·rw [qvf,<- List.append_assoc,wab.eq]
   ·rw [nB ew,nB ew,nB (fun h=>ew (qr6 h.1 (Int.ofNat_inj.1 h.2.2))),List.append_nil]
    exact wab
  ·by_cases k3:K=3
   ·subst k3
    rw [Sy.way_take,nB (c:=a=p/\(3:Int)=2/\_) (fun h=>by have:=h.2.1;omega),List.append_nil];show WayP (if a*y.pn+b=q*y.pn+p then (fun i=>y.wH (q*y.pn+p) (i+1)) else y.wH (a*y.pn+b)) (if a*y.pn+b=q*y.pn+p then y.wL (q*y.pn+p) - 1 else y.wL (a*y.pn+b)) _ _;by_cases ew:a*y.pn+b=q*y.pn+p
    ·obtain ⟨rfl,rfl⟩:=qv8 hb hp ew
     simp only [nQ];rw [nC ⟨trivial,trivial,trivial⟩];obtain ⟨t1,t2,t3,-⟩:=take rfl;obtain ⟨m,em⟩:∃ m,y.wL (a*y.pn+b)=m+1:=⟨y.wL (a*y.pn+b) - 1,by omega⟩
     have weq:=wab.eq;have wle:=wab.le;have wit:=wab.it;rw [em] at weq wle wit ⊢;rw [Nat.add_sub_cancel];refine ⟨fun i hi=>wit (i+1) (by omega),by omega,?_⟩;rw [qgm t2,t3] at weq;rw [List.append_assoc];exact weq
    ·rw [nB ew,nB ew,nB (fun h=>ew (qr6 (Int.ofNat_inj.1 h.2.2).symm h.1.symm)),List.append_nil]
     exact wab
   ·rw [Sy.way_no y p k2 k3,nB (fun h=>k3 h.2.1),nB (fun h=>k2 h.2.1),List.append_nil,List.append_nil]
    exact wab
 ·obtain ⟨d,hd,hall⟩:=h.ro
  have hd':((y.way p K q V).evt p K q V).hs.Put d:=by
   refine Hs.Put.more (x:=y.hs) (x':=((y.way p K q V).evt p K q V).hs) rfl (fun j=>?_) (fun j i hi=>?_) hd
   ·show y.hL j<=if j=p then y.hL p+1 else y.hL j
    by_cases ej:j=p
    ·rw [nC ej,ej];omega
    ·rw [nB ej];exact nA _
   ·have hi':i<y.hL j:=hi
    show (if j=p then (fun i=>if i=y.hL p then (⟨K,q,V⟩:E3) else y.hH p i) else y.hH j) i=y.hH j i;by_cases ej:j=p
    ·subst ej
     rw [nC rfl,nB (by omega)]
    ·rw [nB ej]
  have hdp:d p=y.hL p:=hall p hp
  have epH:∀ a,a≠p->((y.way p K q V).evt p K q V).hs.e a=y.hH a:=fun a ha=>by
   show (if a=p then _ else y.hH a)=_;rw [nB ha]
  have epp:((y.way p K q V).evt p K q V).hs.e p=fun i=>if i=y.hL p then (⟨K,q,V⟩:E3) else y.hH p i:=by
   show (if p=p then _ else y.hH p)=_;rw [nC rfl];rfl
  have elp:((y.way p K q V).evt p K q V).hs.l p=y.hL p+1:=by
   show (if p=p then _ else y.hL p)=_;rw [nC rfl];rfl
  have ece:∀ a kd pr,a<y.pn->cnt (((y.way p K q V).evt p K q V).hs.e a) kd pr (d a)=(valL (y.hH a) kd pr (y.hL a)).length:=fun a kd pr ha=>by
   have hda:d a=y.hL a:=hall a ha;rw [hda,<- qx5];refine qij fun i hi=>?_;by_cases ea:a=p
   ·subst ea
    rw [epp];show (if i=y.hL a then (⟨K,q,V⟩:E3) else y.hH a i)=y.hH a i;rw [nB (by omega)]
   ·rw [epH a ea]
  refine ⟨up d p,.next hd' hp ⟨by rw [elp,hdp];omega,fun hk=>?_⟩,fun a ha=>?_⟩
  ·have ee:((y.way p K q V).evt p K q V).hs.e p (d p)=⟨K,q,V⟩:=by rw [epp,hdp];exact nC rfl
   rw [ee] at hk ⊢;have hk':K=3:=hk;show cnt _ 3 (q:Int) _<cnt (((y.way p K q V).evt p K q V).hs.e (q:Int).toNat) 2 p (d (q:Int).toNat);rw [nF,ece p 3 q hp,ece q 2 p hqn];obtain ⟨t1,t2,-⟩:=take hk';obtain ⟨m,em⟩:∃ m,y.wL (q*y.pn+p)=m+1:=⟨y.wL (q*y.pn+p) - 1,by omega⟩
   have weq:=(h.wa q hqn p hp).eq;rw [em,qgm t2] at weq;have:=congrArg List.length weq;simp only [List.length_append,List.length_cons] at this;omega
  ·have hda:d a=y.hL a:=hall a ha
   by_cases ea:a=p
   ·subst ea
    rw [qee,elp,hdp]
   ·rw [up_other ea,hda]
    show y.hL a=if a=p then _ else y.hL a
    rw [nB ea]
