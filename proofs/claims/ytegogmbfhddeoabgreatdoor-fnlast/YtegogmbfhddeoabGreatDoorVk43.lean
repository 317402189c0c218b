import Derived.Test.YtegogmbfhddeoabGreatDoorVk42
import Derived.Test.YtegogmbfhddeoabGreatDoorVk37
namespace Go.Proofs.YtegogmbfhddeoabGreatDoor
set_option maxRecDepth 100000
set_option maxHeartbeats 4000000
open Go.RowKit Go.Deep
theorem qld (f:Nat->Bool):∀ n,(lsM f n = -1/\∀ j,j<n->f j=false)\/∃ j,j<n/\lsM f n=(j:Int)/\f j=true/\∀ i,j<i->i<n->f i=false
 | 0=>.inl ⟨rfl,fun j hj=>absurd hj (Nat.not_lt_zero _)⟩
 | n+1=>by
  rcases zK (f n) with h | h
  ·exact .inr ⟨n,Nat.lt_succ_self _,by rw [lsM,if_pos h],h,fun i h1 h2=>by omega⟩
  ·have e:lsM f (n+1)=lsM f n:=by rw [lsM,if_neg (by rw [h];decide)]
   rcases qld f n with ⟨h1,h2⟩ | ⟨j,h1,h2,h3,h4⟩
   ·refine .inl ⟨e.trans h1,fun j hj=>?_⟩
    by_cases ej:j=n
    ·rw [ej];exact h
    ·exact h2 j (by omega)
   ·refine .inr ⟨j,by omega,e.trans h2,h3,fun i hi1 hi2=>?_⟩
    by_cases ei:i=n
    ·rw [ei];exact h
    ·exact h4 i hi1 (by omega)
theorem qvx {y:Sy} {P:Nat} {k v:Int} (h:spB y P k=true):hsB y P k v=lsF (y.pH P) (y.pL P) (y.hH P) k v (y.hL P):=by
 obtain ⟨-,h2,h3⟩:=qdd h
 have hP:P<y.pn:=by
  simp only [belB,decide_eq_true_eq] at h2;omega
 unfold hsB lsF;rw [h,Bool.true_and,Int.toNat_natCast,h3.rp P hP];rfl
theorem qpo (y:Sy) (p k v:Int):(lsI y p k v<0->hsB y p k v=false)/\(0<=lsI y p k v->∃ P K:Nat,p=P/\lsI y p k v=K/\P<y.pn/\y.Ok/\knB k=true/\K<=y.hL P/\lsF (y.pH P) (y.pL P) (y.hH P) k v K=true/\hsB y p k v=((K:Int) == (y.hL P:Int))):=by
 rcases zK (spB y p k) with h | h
 ·obtain ⟨h1,h2,h3⟩:=qdd h
  have h2':0<=p/\p<(y.pn:Int):=by simpa [belB] using h2
  obtain ⟨P,rfl⟩:∃ P:Nat,p=P:=⟨p.toNat,by omega⟩
  have e:lsI y P k v=lsM (lsF (y.pH P) (y.pL P) (y.hH P) k v) (y.hL P+1):=qm9 h;rw [e,qvx h]
  rcases qld (lsF (y.pH P) (y.pL P) (y.hH P) k v) (y.hL P+1) with ⟨c1,c2⟩ | ⟨j,c1,c2,c3,c4⟩
  ·rw [c1]
   exact ⟨fun _=>c2 _ (Nat.lt_succ_self _),fun hn=>absurd hn (by decide)⟩
  ·rw [c2]
   refine ⟨fun hn=>absurd hn (by omega),fun _=>⟨P,j,rfl,rfl,by omega,h3,h1,by omega,c3,?_⟩⟩;by_cases ej:j=y.hL P
   ·rw [<- ej,c3]
    simp
   ·rw [c4 (y.hL P) (by omega) (Nat.lt_succ_self _)]
    have:(j:Int)≠(y.hL P:Int):=by omega
    exact (by simpa using this)
 ·refine ⟨fun _=>by rw [hsB,h];rfl,fun hn=>?_⟩
  rw [qri h] at hn;exact absurd hn (by decide)
theorem qrh {y:Sy} {P K:Nat} {k v:Int} (hO:y.Ok) (hP:P<y.pn) (hK:K<=y.hL P) (hk:knB k=true) (hf:lsF (y.pH P) (y.pL P) (y.hH P) k v K=true):(bkC y P K=0\/bkC y P K=3)/\(bkC y P K=0->((bkY y P K).hL P=K/\hsB (bkY y P K) P k v=true/\(bkY y P K).Ok/\(bkY y P K).hn=y.pn)):=by
 have hin:bkIn y P K=true:=by
  simp only [bkIn,belB,inB,Bool.and_eq_true,decide_eq_true_eq,Int.toNat_natCast];omega
 refine ⟨?_,fun h0=>?_⟩
 ·unfold bkC
  rw [if_pos (Sy.okB_true hO),if_pos hin]
  split
  ·exact .inl rfl
  ·exact .inr rfl
 ·obtain ⟨-,-,hO',e,-,-⟩:=qt8 h0
  have hs:=qo1 h0;have hl:(bkY y P K).hL P=K:=by omega
  have hsp:spB (bkY y P K) P k=true:=by
   unfold spB;rw [hk,Sy.okB_true hO',Bool.and_true,Bool.true_and];have:(bkY y P K).pn=y.pn:=by rw [e];rfl
   simp only [belB,decide_eq_true_eq];omega
  refine ⟨hl,?_,hO',by rw [e];rfl⟩;rw [qvx hsp,hl];have e1:(bkY y P K).pH=y.pH:=by rw [e];rfl
  have e2:(bkY y P K).pL=y.pL:=by rw [e];rfl
  have e3:(bkY y P K).hH=y.hH:=by rw [e];rfl
  rw [e1,e2,e3];exact hf
open Go.Sort Go.Maps
theorem Rn.keepX {w wr w':World} {A B C gb n gc k X:Nat} {p code:Int} {ra:Option Addr} {rc:Nat} {oa:Option Addr} {oc:Nat} {rs os:List Int} (h:Rn w wr A B C gb n gc k p code ra rc oa oc rs os) (hX:X≠A/\X≠B/\X≠C/\w.heap.size<=X) (hn:¬ qai (stV p ra rs.length rc oa os.length oc code) X) (hg:wr.grownBy w' (some X)):Rn w w' A B C gb n gc k p code ra rc oa oc rs os:=by
 have hb:∀ i,i<wr.heap.size->i≠X->w'.heap[i]? = wr.heap[i]?:=fun i hi hne=>hg.block i hi fun e=>hne (by injection e);have eA:=hb A (zJ wr _ h.la) (fun e=>hX.1 e.symm);have eB:=hb B h.tl.hi (fun e=>hX.2.1 e.symm);have eC:=hb C (zJ wr _ h.ck) (fun e=>hX.2.2.1 e.symm);obtain ⟨t0,t1,t2,t3⟩:=h.tl.box;have o':qae w' w.heap.size (stV p ra rs.length rc oa os.length oc code) p rs os code:=h.tl.own.blk fun i hi=>hb i (h.tl.own.lt hi).2 fun e=>hn (e ▸ hi);exact ⟨(zH eA).trans h.la,⟨h.tl.lo,zL h.tl.hi hg.size,Nat.le_refl _,⟨(zH eB).trans t0,(zH eB).trans t1,(zH eB).trans t2,(zH eB).trans t3⟩,o',fun i hi=>(o'.lt hi).2,h.tl.ne⟩,fun j=>(zI eB).trans (h.fb j),(zH eC).trans h.ck,(zI eC).trans h.fc,h.ne,h.nh,Below.grown h.be hg h.be.size (fun j hj=>by cases hj;exact hX.2.2.2)⟩
theorem qae.up {w:World} {B T:Nat} {v:Value} {p code:Int} {rs os:List Int} (h:qae w B v p rs os code) (hj:∀ j,qai v j->T<=j):qae w T v p rs os code:=by
 obtain ⟨vr,vo,rfl,h1,h2,h3⟩:=h
 have up:∀ {u:Value} {xs:List Int},OwnI w B u xs->(∀ j,u.ownBlock=some j->T<=j)->OwnI w T u xs:=by
  intro u xs hu hk;obtain ⟨g0,g⟩:=hu;refine ⟨g0,?_⟩
  rcases g with g | ⟨b,cap,cur,rfl,g1,g2⟩
  ·exact .inl g
  ·exact .inr ⟨b,cap,cur,rfl,hk b rfl,g2⟩
 exact ⟨vr,vo,rfl,up h1 fun j hk=>hj j ((qar _ _ _ _ _).2 (.inl hk)),up h2 fun j hk=>hj j ((qar _ _ _ _ _).2 (.inr hk)),h3⟩
def StoR (w:World) (g:Nat->I5) (n:Nat) (eh:Nat->E3) (m:Nat) (e:Ending) (w':World):Prop:=
 Below w.heap.size w w'/\(((repO g n eh m).isSome=false/\e=.returned (.tuple #[.map none,.bool false]))\/((repO g n eh m).isSome=true/\∃ b T V D,e=.returned (.tuple #[.map (some b),.bool true])/\Sto w' b T m g n eh V D))
structure Sr (w wr:World) (A B C b T gb n gc k:Nat) (g:Nat->I5) (eh:Nat->E3) (S:S4):Prop where
 rn:∃ ra rc oa oc,Rn w wr A B C gb n gc k S.p S.c ra rc oa oc S.rs S.os/\¬ qai (stV S.p ra S.rs.length rc oa S.os.length oc S.c) b
 so:∃ V D,Sto wr b T k g n eh V D
 ne:b≠A/\b≠B/\b≠C/\w.heap.size<=b
 lt:A<T/\B<T/\C<T
 tw:T<=wr.heap.size
theorem Sr.below {w wr w':World} {A B C b T gb n gc k:Nat} {g:Nat->I5} {eh:Nat->E3} {S:S4} (h:Sr w wr A B C b T gb n gc k g eh S) (hb:Below wr.heap.size wr w'):Sr w w' A B C b T gb n gc k g eh S:=by
 obtain ⟨ra,rc,oa,oc,r,hh⟩:=h.rn;obtain ⟨V,D,s⟩:=h.so;exact ⟨⟨ra,rc,oa,oc,r.below hb,hh⟩,⟨V,D,s.below hb⟩,h.ne,h.lt,zP h.tw hb.size⟩
theorem qns (gb n gc:Nat) (ea:Option Addr) (m ec:Nat) (g:Nat->I5) (eh:Nat->E3) (w:World) (hn:n<=maxLen) (hg:gb<w.heap.size) (hI:qam w gb 0 n g) (hp:qab g n 4=true) (hE:EvL w ea m eh) (hm:m<=1048576):
  Calls Tryz.prog 15 #[.slice (some ⟨gb,0,none⟩) n gc,.slice ea m ec] w (StoR w g n eh m):=by
 have HI:Hid (qam w gb 0 n g):=hI;have HE:Hid (EvL w ea m eh):=hE;have HP:Hid (qab g n 4=true):=hp;have HL:Hid (n<=maxLen):=hn;have hm':(m:Int)<=1048576:=by omega
 have HO:Hid (repO g n eh m=if m<=200 then rp g n eh m else none):=by
  show repO g n eh m=_;unfold repO;by_cases h2:m<=200
  ·rw [if_pos ⟨hp,h2⟩,if_pos h2]
  ·rw [if_neg (by omega),if_neg h2]
 clear hI hn hp hE;have hmm:=@run_makeMap Tryz.prog
 go_enter Tryz.func15,Tryz.ntmps15
 go_wp2_with fail
 refine (qll gb n gc g w HL.out hg HI.out HP.out).mono ?_;rintro e w1 ⟨A,B,C,ra,rc,oa,oc,rfl,R1⟩;have HR1:Hid (Rn w w1 A B C gb n gc 0 0 0 ra rc oa oc [0,0,0,0] []):=R1;clear R1;go_wp2_with fail
 have HM2:Hid ((w1.alloc (.map #[] 0)).ownsMap Tryz.prog 3 RV w1.heap.size 0 (.map [])):=World.ownsMap_made _ _ _ _;have hz2:(w1.alloc (.map #[] 0)).heap.size=w1.heap.size+1:=by simp
 have HR2:Hid (Rn w (w1.alloc (.map #[] 0)) A B C gb n gc 0 0 0 ra rc oa oc [0,0,0,0] []):=HR1.out.below (zT _ _);generalize w1.alloc (.map #[] 0)=w2 at *;refine (qcl w2).mono ?_;rintro e w3 ⟨v3,rfl,o3,b3⟩;obtain ⟨ra3,rc3,oa3,oc3,rfl,-,-⟩:=o3.read;have HR3:Hid (Rn w w3 A B C gb n gc 0 0 0 ra rc oa oc [0,0,0,0] []):=HR2.out.below b3;have HM3:w3.ownsMap Tryz.prog 3 RV w1.heap.size 0 (.map []):=qhn HM2.out (b3.block _ (by omega));have HO3:Hid (qae w3 w2.heap.size (stV 0 ra3 4 rc3 oa3 0 oc3 0) 0 [0,0,0,0] [] 0):=o3;have z3:=b3.size;clear o3 b3 HM2 HR2;obtain ⟨w4,hup,hown4,hg4⟩:=HM3.update kInt Tryz.underlying45 (by decide) (keyOf_int_mk Tryz.underlying3 (a:=0) (by decide)) (val:=stV 0 ra3 4 rc3 oa3 0 oc3 0) rfl
 have HSR:Hid (Sr w w4 A B C w1.heap.size w2.heap.size gb n gc 0 g eh newS):=by
  have zA:A<w1.heap.size:=zJ w1 _ HR1.out.la;have zB:B<w1.heap.size:=HR1.out.tl.hi;have zC:C<w1.heap.size:=zJ w1 _ HR1.out.ck;have zw:w.heap.size<=w1.heap.size:=HR1.out.be.size
  have hnb:¬ qai (stV 0 ra 4 rc oa 0 oc 0) w1.heap.size:=fun e=>by
   have:=HR1.out.tl.up _ e;omega
  exact ⟨⟨ra,rc,oa,oc,HR3.out.keepX ⟨by omega,by omega,by omega,zw⟩ hnb hg4,hnb⟩,⟨_,_,Sto.new hown4 hg4 HO3.out (by omega)⟩,⟨by omega,by omega,by omega,zw⟩,⟨by omega,by omega,by omega⟩,zP z3 hg4.size⟩
 clear hown4 hg4 HM3 HR3 HO3 HR1 hmm;generalize w1.heap.size=b at *;generalize w2.heap.size=T at *;clear hz2 z3;go_wp2_with fail
 clear hup
 go_loopw [25] (fun i wr=>∃ k:Nat,k<=m/\i=.int .i64 k/\Hid (k<=200/\∃ S,rp g n eh k=some S/\OkS n S/\Sr w wr A B C b T gb n gc k g eh S)) (fun i _=>m - (intOf i).toNat)
 case atStart=>exact ⟨0,Nat.zero_le _,rfl,by omega,newS,rfl,qhk HP.out,HSR.out⟩
 case round=>
  clear HSR;obtain ⟨k,hk,rfl,HK⟩:=hrel;obtain ⟨hk2,S,hrp,hok,hsr⟩:=HK.out
  have hbe:Below w.heap.size w wr:=by
   obtain ⟨_,_,_,_,r,_⟩:=hsr.rn;exact r.be
  by_cases hlt:k<m
  ·have hlt':(k:Int)<(m:Int):=by omega
   obtain ⟨eb,eo,rfl,-,c0,c1,c2⟩:=(HE.out.below hbe).at hlt;have HRP:Hid (rp g n eh k=some S):=hrp;have HOK:Hid (OkS n S):=hok;have HK2:Hid (k<=200):=hk2;have hRq:Sr w (wr.alloc (oQ0 (eh k).k (eh k).q (eh k).v)) A B C b T gb n gc k g eh S:=hsr.below (zT _ _);have HRq:Hid (Sr w (wr.alloc (oQ0 (eh k).k (eh k).q (eh k).v)) A B C b T gb n gc k g eh S):=hRq;clear hrp hok hsr hk2 hbe HK hRq;go_wp2_with fail
   generalize wr.alloc (oQ0 (eh k).k (eh k).q (eh k).v)=wq at *;obtain ⟨qra,qrc,qoa,qoc,qrn,-⟩:=HRq.out.rn;have hlen:=OkS.len HOK.out;clear c0 c1 c2;refine (qin A B C gb n gc k g S.p S.c qra qrc qoa qoc S.rs S.os _ _ _ w wq qrn HL.out hg HI.out HP.out HK2.out (by omega) (by omega)).mono ?_;rintro e w5 ⟨kp,hd⟩
   rcases hd with ⟨tT,tk,ra7,rc7,oa7,oc7,rfl,R7,J7⟩ | ⟨tF,rfl,be7⟩
   ·have HS':Hid (rp g n eh (k+1)=some (doS g n S.p S.rs S.os S.c (eh k).k (eh k).q (eh k).v)):=qom HRP.out tT
    have HO':Hid (OkS n (doS g n S.p S.rs S.os S.c (eh k).k (eh k).q (eh k).v)):=qkv tT
    have HK3:Hid (k+1<=200):=by
     show k+1<=200;have:=HK2.out;omega
    generalize doS g n S.p S.rs S.os S.c (eh k).k (eh k).q (eh k).v=S' at *;obtain ⟨V,D,so⟩:=HRq.out.so;obtain ⟨nA,nB,nC,nw⟩:=HRq.out.ne;obtain ⟨lA,lB,lC⟩:=HRq.out.lt;have tw:=HRq.out.tw;have hbw:b<wq.heap.size:=so.own.lt;have so5:Sto w5 b T k g n eh V D:=so.keep fun i hi hl=>kp.2 i hl (by rcases hi with e | e <;> omega) (by rcases hi with e | e <;> omega);have bq:=zT w5 (oQ1 S'.p ra7 S'.rs.length rc7 oa7 S'.os.length oc7 S'.c);have so6:=so5.below bq
    have nb:¬ qai (stV S'.p ra7 S'.rs.length rc7 oa7 S'.os.length oc7 S'.c) b:=fun e=>by
     have:=J7 b e;omega
    obtain ⟨w7,hup,hown7,hg7⟩:=so6.own.update kInt Tryz.underlying45 (by unfold maxLen;omega) (keyOf_int_mk Tryz.underlying3 (a:=(k:Int)+1) (wf64 (by omega) (by omega))) (val:=stV S'.p ra7 S'.rs.length rc7 oa7 S'.os.length oc7 S'.c) rfl;have HN:Hid (Sr w w7 A B C b T gb n gc (k+1) g eh S'):=⟨⟨ra7,rc7,oa7,oc7,(R7.below bq).keepX ⟨nA,nB,nC,nw⟩ nb hg7,nb⟩,⟨_,_,so6.put hown7 hg7 HS'.out ((R7.tl.own.up fun j hj=>zP tw (J7 j hj)).below bq)⟩,⟨nA,nB,nC,nw⟩,⟨lA,lB,lC⟩,zP tw (zP kp.1 (zP bq.size hg7.size))⟩
    clear R7 J7 qrn kp tT tk so so5 so6 hown7 hg7 nb bq nA nB nC nw lA lB lC tw hbw hlen;go_wp2;go_roundw
    case rel=>exact ⟨k+1,by omega,by go_num,HK3.out,S',HS'.out,HO'.out,HN.out⟩
    case measure=>simp [intOf];omega
   ·have HON:Hid ((repO g n eh m).isSome=false):=by
     show (repO g n eh m).isSome=false
     have:repO g n eh m=none:=by
      rw [HO.out]
      rcases tF with tF | tF
      ·by_cases h2:m<=200
       ·rw [if_pos h2]
        exact qd0 (qru HRP.out tF) (by omega)
       ·rw [if_neg h2]
      ·rw [if_neg (by omega)]
     rw [this];rfl
    have B5:Hid (Below w.heap.size w w5):=be7;clear qrn kp tF be7 hlen;go_wp2;refine bodyPost_ret (v:=.tuple #[.map none,.bool false]) (by simp [results,Tryz.results15,go_sem]) rfl ⟨B5.out.trans ((zT _ _).mono B5.out.size),.inl ⟨HON.out,rfl⟩⟩
  ·have hkm:k=m:=by omega
   subst hkm
   have HOS:Hid ((repO g n eh k).isSome=true):=by
    show (repO g n eh k).isSome=true;rw [HO.out,if_pos hk2,hrp];rfl
   obtain ⟨V,D,so⟩:=hsr.so;have HSO:Hid (Sto wr b T k g n eh V D):=so;have HBE:Hid (Below w.heap.size w wr):=hbe;clear so hsr hbe hrp hok hk2 HK;go_wp2;exact bodyPost_ret (v:=.tuple #[.map (some b),.bool true]) (by simp [results,Tryz.results15,go_sem]) rfl ⟨HBE.out,.inr ⟨HOS.out,b,T,V,D,rfl,HSO.out⟩⟩
open Go.ChangeShapes Go.WideShapes Go.ChangeAt
theorem qvc (w:World):(zeroValue 51).run Tryz.prog w=.ok (stV 0 none 0 0 none 0 0 0) w:=by kernel_rfl
theorem Sto.look {w:World} {b T k n:Nat} {g:Nat->I5} {eh:Nat->E3} {V:Nat->Value} {D:DataW Value} (h:Sto w b T k g n eh V D) {j:Nat} (hj:j<=k) (hk:k<=1048576):(Instr.lookup 45 (.map (some b)) (.int .i64 (j:Int)) false).run Tryz.prog w=.ok (V j) w:=by
 obtain ⟨v,ps,hrun,hv⟩:=h.own.lookup kInt Tryz.underlying45 (qvc _) rfl (keyOf_int_mk Tryz.underlying3 (wf64 (a:=(j:Int)) (by omega) (by omega)));rw [h.val j hj] at hv;simp only [RV,Option.some.injEq,Prod.mk.injEq,DataW.held.injEq] at hv;rw [hrun,hv.1]
structure LsB (w:World) (x:SysIn) (J:Nat) (k v:Int) (N F b T:Nat) (V:Nat->Value) (D:DataW Value) (wx:World):Prop where
 hx:Hx w x J k v wx
 qs:QsC wx N (.int .i64 J) (.func (.func F) #[spV J k v] #[])
 st:Sto wx b T (x.hL J) (x.pH J) (x.pL J) (x.hH J) V D
theorem LsB.below {w:World} {x:SysIn} {J:Nat} {k v:Int} {N F b T:Nat} {V:Nat->Value} {D:DataW Value} {wx wy:World} (h:LsB w x J k v N F b T V D wx) (hb:Below wx.heap.size wx wy):LsB w x J k v N F b T V D wy:=⟨h.hx.below hb,h.qs.below hb,h.st.below hb⟩
theorem qk7 (x:SysIn) (p k v:Int) (w:World) (hG:SysG w x) (hL:x.Len) (hcap:∀ i,i<x.hn->x.hL i<=x.hC i) (hV:w.cell? ⟨0,0,none⟩=some (.iface 211 (.agg #[.pointer (some ⟨1,73,none⟩)]))):
  Calls Tryz.prog 6 #[x.v,spV p k v] w fun e w'=>e=.returned (.int .i64 (lsI x.y p k v))/\Below w.heap.size w w':=by
 have HV0:0<w.heap.size:=zJ w _ hV;have HS:Hid (∀ wx,Below w.heap.size w wx->Calls Tryz.prog 14 #[x.v,spV p k v] wx fun e w'=>e=.returned (.tuple #[qsO (spB x.y p k) p k v,.bool (spB x.y p k)])/\Below wx.heap.size wx w'):=fun wx hb=>qc6 x p k v wx (hG.below hb) hL ((hb.cell (p:=⟨0,0,none⟩) HV0).trans hV);have HX:Hid (Hx w x p k v ((w.alloc (oQ4 x.pa x.pn x.pc x.sa x.sn x.sc x.wa x.wn x.wc x.ha x.hn x.hc)).alloc (oQ5 p k v))):=Hx.new w x p k v _ _
 rcases zK (spB x.y p k) with hT | hT
 case inr=>
  have HN:Hid (lsI x.y p k v = -1):=qri hT;rw [hT] at HS;generalize lsI x.y p k v=R at *;clear hG hL hcap hT hV HV0
  go_enter Tryz.func6,Tryz.ntmps6
  go_wp2_with fail
  generalize (w.alloc (oQ4 x.pa x.pn x.pc x.sa x.sn x.sc x.wa x.wn x.wc x.ha x.hn x.hc)).alloc (oQ5 p k v)=W2 at *;refine (HS.out W2 HX.out.be).mono ?_;rintro e w1 ⟨rfl,b1⟩;have H1:Hid (Hx w x p k v w1):=HX.out.below b1;clear b1 HX HS;rw [show qsO false p k v=qsZ from rfl];go_wp2;go_ret;exact ⟨by rw [HN.out];rfl,qad H1.out.be (by go_grown) H1.out.be.size⟩
 obtain ⟨h1,h2,h3⟩:=qdd hT;have h4:0<=p/\p<(x.pn:Int):=of_decide_eq_true h2;obtain ⟨J,rfl⟩:∃ J:Nat,p=(J:Int):=⟨p.toNat,by omega⟩
 have c2:x.hn=x.pn:=h3.cn.2.2.1;have hp:J<x.pn:=by omega
 have hh:J<x.hn:=by omega
 have HN:Hid (lsI x.y (J:Int) k v=lsM (lsF (x.pH J) (x.pL J) (x.hH J) k v) (x.hL J+1)):=qm9 hT;generalize lsI x.y (J:Int) k v=A at *;rw [hT] at HS;have hp':(J:Int)<(x.pn:Int):=by omega
 have hh':(J:Int)<(x.hn:Int):=by omega
 have hl:x.hL J<=1048576:=hL.h.2 J hh;have hrp:repO (x.pH J) (x.pL J) (x.hH J) (x.hL J)=some (x.sS J):=h3.rp J hp;obtain ⟨r1,r2,r3⟩:=qbg hrp;obtain ⟨bp,op,ep,cp⟩:=hG.p.at hp;obtain ⟨b',eb',hbl,hI⟩:=hG.pi J hp;obtain ⟨bh,oh,eh,ch⟩:=hG.h.at hh;have HR:Hid (∀ wx,Below w.heap.size w wx->Calls Tryz.prog 15 #[.slice (some ⟨b',0,none⟩) (x.pL J) (x.pC J),.slice (x.hA J) (x.hL J) (x.hC J)] wx (StoR wx (x.pH J) (x.pL J) (x.hH J) (x.hL J))):=fun wx hb=>qns b' (x.pL J) _ (x.hA J) (x.hL J) _ (x.pH J) (x.hH J) wx (by have:=hL.p.2 J hp;unfold maxLen;omega) (zL hbl hb.size) (hI.below hb hbl) r1 ((hG.hi J hh).below hb) hl
 have HC:Hid (∀ wx j (q:St8),j<=x.hL J->Below w.heap.size w wx->rp (x.pH J) (x.pL J) (x.hH J) j=some q.s->Sl wx q.oa q.os->Calls Tryz.prog (qsF k) #[spV (J:Int) k v,moV q (x.hA J) j (x.hC J)] wx fun e w'=>e=.returned (.bool (lsF (x.pH J) (x.pL J) (x.hH J) k v j))/\Below wx.heap.size wx w'):=fun wx j q hj hb hq hs=>by
  have e1:resS (repO (x.pH J) (x.pL J) (x.hH J) j)=q.s:=by
   unfold repO;rw [if_pos ⟨r1,by omega⟩,hq];rfl
  have:=qn8 q (x.hA J) j (x.hC J) (x.hH J) J k v wx h1 hs (by have:=(qfp (x.pH J) (x.pL J) (x.hH J) j).2;rw [e1] at this;exact this) (((hG.hi J hh).below hb).take hj) (by omega);unfold lsF;rw [e1];exact this
 have HE:Hid (∀ args wx,(callFunc (qsF k) args).run Tryz.prog wx=.ok (.enter (qsF k) args) wx):=qkw k h1;have HCp:Hid (∀ wx,Below w.heap.size w wx->wx.cell? ⟨bp,op+J,none⟩=some (.slice (some ⟨b',0,none⟩) (x.pL J) (x.pC J))/\wx.cell? ⟨bh,oh+J,none⟩=some (.slice (x.hA J) (x.hL J) (x.hC J))):=fun wx hb=>⟨(hb.cell (zJ w _ cp)).trans (by rw [cp,eb']),(hb.cell (zJ w _ ch)).trans ch⟩
 have HA:Hid (x.pa=some ⟨bp,op,none⟩/\x.ha=some ⟨bh,oh,none⟩/\x.hL J<=x.hC J/\x.hL J<=1048576/\(repO (x.pH J) (x.pL J) (x.hH J) (x.hL J)).isSome=true):=⟨ep,eh,hcap J hh,hl,by rw [hrp];rfl⟩
 generalize lsF (x.pH J) (x.pL J) (x.hH J) k v=f at *;clear hG hL hcap hT h1 h2 h3 h4 c2 ep eh cp ch eb' hbl hI hl hp hh hrp r1 r2 r3 hV HV0
 go_enter Tryz.func6,Tryz.ntmps6
 go_wp2_with fail
 generalize (w.alloc (oQ4 x.pa x.pn x.pc x.sa x.sn x.sc x.wa x.wn x.wc x.ha x.hn x.hc)).alloc (oQ5 J k v)=W2 at *;refine (HS.out W2 HX.out.be).mono ?_;rintro e w1 ⟨rfl,b1⟩;rw [show qsO true (J:Int) k v=qsV (J:Int) k v from rfl];have H1:Hid (Hx w x J k v (w1.alloc (.cells #[.int .i64 J,.func (.func (qsF k)) #[spV J k v] #[]] 41))):=(HX.out.below b1).below (zT _ _);have Q1:Hid (QsC (w1.alloc (.cells #[.int .i64 J,.func (.func (qsF k)) #[spV J k v] #[]] 41)) w1.heap.size (.int .i64 J) (.func (.func (qsF k)) #[spV J k v] #[])):=QsC.new w1 _ _ _;clear b1 HX HS;unfold qsV;generalize qsF k=F at *;go_upto_region 4 with fail
 generalize w1.alloc (.cells #[.int .i64 J,.func (.func F) #[spV J k v] #[]] 41)=w2 at *;generalize w1.heap.size=N at *;clear w1;obtain ⟨be,⟨s0,s1,s2,s3⟩,⟨x0,x1,x2,xf⟩,lt⟩:=H1.out;obtain ⟨cp,ch⟩:=HCp.out w2 be;rw [HA.2.1] at s3;rw [HA.1] at s0;clear be;go_wp2_with fail
 clear s0 s1 s2 s3 x0 x1 x2 xf lt cp ch;refine (HR.out w2 H1.out.be).mono ?_;rintro e w3 ⟨b3,h⟩;obtain ⟨-,b,T,V,D,rfl,hst⟩:=h.resolve_left fun h=>by have:=HA.2.2.2.2;rw [h.1] at this;cases this
 have L3:Hid (LsB w x J k v N F b T V D w3):=⟨H1.out.below b3,Q1.out.below b3,hst⟩
 clear b3 hst h H1 Q1 HR;go_wp2_with fail
 go_loopw [10] (fun i wr=>∃ j:Nat,j<=x.hL J+1/\i=.int .i64 ((j:Int) - 1)/\Hid (A=lsM f j)/\Hid (LsB w x J k v N F b T V D wr)) (fun i _=>(intOf i+1).toNat)
 case atStart=>exact ⟨x.hL J+1,Nat.le_refl _,by simp,HN.out,L3.out⟩
 case round=>
  clear L3 HN;obtain ⟨j,hj,rfl,HQ,HW⟩:=hrel;cases j with
  | zero=>
   rw [show ((0:Nat):Int) - 1 = -1 by decide];go_wp2;go_ret;exact ⟨by rw [HQ.out];rfl,HW.out.hx.be⟩
  | succ j=>
   rw [show ((j+1:Nat):Int) - 1=(j:Int) by omega];have hjl:j<=x.hL J:=by omega
   have hge:(0:Int)<=(j:Int):=by omega
   have hj1:(j:Int)<=1048576:=by have:=HA.2.2.2.1;omega
   obtain ⟨S,hS,oS⟩:=HW.out.st.st j hjl;obtain ⟨ra,rc,oa,oc,eV,-,sO⟩:=oS.read
   have hlk:∀ d os,(Instr.lookup 45 (.map (some b)) (.int .i64 (j:Int)) false).run Tryz.prog (grow (redrawn wr d) os)=.ok (stV S.p ra S.rs.length rc oa S.os.length oc S.c) (grow (redrawn wr d) os):=fun d os=>by
    rw [<- eV];exact (HW.out.st.below (below_regrown wr d os)).look hjl HA.2.2.2.1
   have hsl:=qoo (x.hA J) (x.hL J) (x.hC J) j (zP hjl HA.2.2.1);have HC2:Hid (∀ wx,Below wr.heap.size wr wx->Calls Tryz.prog F #[spV (J:Int) k v,.agg #[.int .i64 S.p,.slice ra S.rs.length rc,.slice oa S.os.length oc,.int .i64 S.c,.slice (x.hA J) j (x.hC J)]] wx fun e w'=>e=.returned (.bool (f j))/\Below wx.heap.size wx w'):=fun wx hb=>HC.out wx j ⟨S.p,ra,rc,S.rs,oa,oc,S.os,S.c⟩ hjl (HW.out.hx.below hb).be hS (sO.below hb);have hx:=HE.out;have q1':=cell_regrown HW.out.qs.c1;clear hjl hS oS eV sO;go_wp2_with fail
   refine wp_region_quiet_below (by kernel_rfl) (by kernel_rfl) ?_
   repeat (quiet_step (first|(exact Calls.regrown_of (HC2.out _ (below_regrown wr _ _)))))
   refine wpQuiet_nil ?_;intro _ hw';obtain ⟨⟨dq,osq⟩,hw''⟩:=hw';subst hw'';have HW4:Hid (LsB w x J k v N F b T V D (grow (redrawn wr dq) osq)):=HW.out.below (below_regrown wr dq osq);generalize grow (redrawn wr dq) osq=w6 at *;clear hlk hsl q1' HC2 HW hx;have HQ2:Hid (A=if f j=true then (j:Int) else lsM f j):=HQ.out;clear HQ;generalize f j=Fj at *;cases Fj with
   | true=>
    go_wp2;go_ret;exact ⟨by rw [HQ2.out];rfl,HW4.out.hx.be⟩
   | false=>
    go_wp2;go_roundw
    case rel=>exact ⟨j,by omega,rfl,HQ2.out,HW4.out⟩
    case measure=>simp [intOf]
theorem EvAt.put {w:World} {g n:Nat} {E:Nat->E3} (h:EvAt w g 0 n E) (t:Nat) (z:Int):∃ E',EvAt (w.setCell ⟨g,t,none⟩ (.int .i64 z)) g 0 n E':=by
 have key:∀ (o:Nat) (x:Int),w.cell? ⟨g,o,none⟩=some (.int .i64 x)->(w.setCell ⟨g,t,none⟩ (.int .i64 z)).cell? ⟨g,o,none⟩=some (.int .i64 (if o=t then z else x)):=by
  intro o x hx;by_cases e:o=t
  ·subst e
   rw [if_pos rfl];exact World.cell?_setCell_same _ _ _ hx
  ·rw [if_neg e]
   exact (World.cell?_setCell_other _ _ _ _ fun e'=>e (by injection e' with _ e2;exact e2.symm)).trans hx
 refine ⟨fun i=>⟨if 0+i*3=t then z else (E i).k,if 0+i*3+1=t then z else (E i).q,if 0+i*3+2=t then z else (E i).v⟩,fun i hi=>?_⟩;obtain ⟨h0,h1,h2⟩:=h i hi;exact ⟨key _ _ h0,key _ _ h1,key _ _ h2⟩
def qgr (E:Nat->E3):Nat->List Value
 | 0=>[]
 | n+1=>qgr E n ++ [.int .i64 (E n).k,.int .i64 (E n).q,.int .i64 (E n).v]
theorem qdr (E:Nat->E3):∀ n,(qgr E n).length=n*3
 | 0=>rfl
 | n+1=>by
  rw [qgr,List.length_append,qdr E n];simp;omega
theorem qn0 (E:Nat->E3):∀ n i,i<n->(qgr E n)[i*3]? = some (.int .i64 (E i).k)/\(qgr E n)[i*3+1]? = some (.int .i64 (E i).q)/\(qgr E n)[i*3+2]? = some (.int .i64 (E i).v)
 | 0,i,hi=>by omega
 | n+1,i,hi=>by
  have hl:=qdr E n;by_cases e:i=n
  ·subst e
   rw [qgr,List.getElem?_append_right (by omega),List.getElem?_append_right (by omega),List.getElem?_append_right (by omega),hl];simp
  ·obtain ⟨h0,h1,h2⟩:=qn0 E n i (by omega)
   rw [qgr,List.getElem?_append_left (by omega),List.getElem?_append_left (by omega),List.getElem?_append_left (by omega)];exact ⟨h0,h1,h2⟩
theorem EvAt.cut {w:World} {g k j:Nat} {E:Nat->E3} (h:EvAt w g 0 k E) (hj:j<k):EvAt (w.setCells g (j*3) (qgr (fun i=>E (j+1+i)) (k - (j+1)))) g 0 (j+(k - (j+1))) (fun i=>if i<j then E i else E (i+1)):=by
 intro i hi;have hl:=qdr (fun i=>E (j+1+i)) (k - (j+1));by_cases e:i<j
 ·have hout:∀ t,t<j*3->(w.setCells g (j*3) (qgr (fun i=>E (j+1+i)) (k - (j+1)))).cell? ⟨g,t,none⟩=w.cell? ⟨g,t,none⟩:=fun t ht=>World.cell?_setCells_out g _ _ _ _ fun _ _=>.inl ht
  obtain ⟨h0,h1,h2⟩:=h i (by omega);simp only [if_pos e];exact ⟨(hout _ (by omega)).trans h0,(hout _ (by omega)).trans h1,(hout _ (by omega)).trans h2⟩
 ·simp only [if_neg e]
  have hall:∀ t,t<(qgr (fun i=>E (j+1+i)) (k - (j+1))).length->(w.cell? ⟨g,j*3+t,none⟩).isSome=true:=by
   intro t ht;rw [hl] at ht;obtain ⟨h0,h1,h2⟩:=h (j+t / 3) (by omega);have he:t=t / 3*3\/t=t / 3*3+1\/t=t / 3*3+2:=by omega
   rcases he with e | e | e
   ·rw [show j*3+t=0+(j+t / 3)*3 from by omega,h0];rfl
   ·rw [show j*3+t=0+(j+t / 3)*3+1 from by omega,h1];rfl
   ·rw [show j*3+t=0+(j+t / 3)*3+2 from by omega,h2];rfl
  have hin:=fun t ht=>World.cell?_setCells_in g (qgr (fun i=>E (j+1+i)) (k - (j+1))) (j*3) w hall t ht;obtain ⟨f0,f1,f2⟩:=qn0 (fun i=>E (j+1+i)) (k - (j+1)) (i - j) (by omega);have hE:E (j+1+(i - j))=E (i+1):=by rw [show j+1+(i - j)=i+1 from by omega]
  rw [hE] at f0 f1 f2;refine ⟨?_,?_,?_⟩
  ·rw [show 0+i*3=j*3+(i - j)*3 from by omega,hin _ (by omega),<- f0,List.getElem?_eq_getElem (by omega)]
  ·rw [show 0+i*3+1=j*3+((i - j)*3+1) from by omega,hin _ (by omega),<- f1,List.getElem?_eq_getElem (by omega)]
  ·rw [show 0+i*3+2=j*3+((i - j)*3+2) from by omega,hin _ (by omega),<- f2,List.getElem?_eq_getElem (by omega)]
theorem qqc (a0:Option Addr) (len cap:Nat) (w:World):
  Calls Tryz.prog 4 #[.slice a0 len cap] w fun e w'=>e=.returned (.bool (decide ((1048576:Int)<len)))/\w'=w:=by
 go_enter Tryz.func4,Tryz.ntmps4
 go_wp2;go_ret;exact ⟨rfl,rfl⟩
theorem qpt {H:Type} {enc:TypeId × Value->H} {w:World} {a0:Option Addr} {len cap:Nat} {d:DataW H} {p:List MemPlace}
  (h:DataW.Trod enc Tryz.prog w 0 (fun _=>true) true 22 (.slice a0 len cap) d p):len<=maxLen/\qb3 w w.heap.size a0 len:=by
 obtain ⟨fuel,hf⟩:=h
 rcases open_ints Tryz.underlying22 Tryz.underlying5 (by kernel_rfl) hf with ⟨hcs,_⟩ | ⟨x,l,c,zs,hcs,_,hl,hm,hz,_,hcell,hwz⟩
 ·simp [Value.cells] at hcs
  obtain ⟨_,rfl,_⟩:=hcs;exact ⟨Nat.zero_le _,.inl rfl⟩
 ·simp [Value.cells] at hcs
  obtain ⟨rfl,rfl,rfl⟩:=hcs;refine ⟨zP hl hm,?_⟩;by_cases h0:len=0
  ·exact .inl h0
  right;have hz':zs.length=cap:=by simpa using hz
  obtain ⟨b,off,rfl,hc⟩:=ints_at hcell (by omega);refine ⟨b,off,rfl,qul (hc 0 (by omega)),fun j hj=>⟨zs.getD j 0,hc j (by omega),?_⟩⟩
  have hmem:zs.getD j 0 ∈ zs:=by
   rw [List.getD_eq_getElem?_getD,List.getElem?_eq_getElem (by omega)];exact List.getElem_mem _
  exact bounds_u8 (hwz _ hmem)
