import Derived.Test.YtlpckaoldaijlaaGreatDoorSe0
import Derived.Test.YtlpckaoldaijlaaGreatDoorSe24
import Derived.Test.YtlpckaoldaijlaaGreatDoorSe23
import Derived.Test.YtlpckaoldaijlaaGreatDoorSe14
import Derived.Maps.OwnSet
import Derived.Test.YtlpckaoldaijlaaGreatDoorSe29
namespace Go.Proofs.YtlpckaoldaijlaaGreatDoor
set_option maxRecDepth 100000
set_option maxHeartbeats 4000000
open Go.RowKit Go.Sort
open Go.ChangeShapes Go.WideShapes Go.ChangeAt Go.Deep
open Go.Maps
abbrev RV:Value->Option (DataW Value × List MemPlace):=fun v=>some (.held v,[])
theorem kInt:Keyed Tryz.prog 3:=int_keyed Tryz.underlying3
theorem keyI (j:Int):WideAt.IsKeyLit (.int .i64 j):=trivial
theorem wf64 {a:Int} (h0:-9223372036854775808<=a) (h1:a<=9223372036854775807):(Lit.int .i64 a).wf=true:=WalkArith.wf_i64 (by omega)
theorem ownsMap_blk {H:Type} {P:Program} {k:TypeId} {R:Value->Option (DataW H × List MemPlace)} {w w':World} {b n:Nat} {D:DataW H} (h:w.ownsMap P k R b n D) (hb:w'.heap[b]? = w.heap[b]?):w'.ownsMap P k R b n D:=by
 obtain ⟨es,clock,h1,r⟩:=h
 exact ⟨es,clock,hb.trans h1,r⟩
structure Sto (w:World) (b T k:Nat) (g:Nat->I5) (n:Nat) (eh:Nat->E3) (V:Nat->Value) (D:DataW Value):Prop where
 own:w.ownsMap Tryz.prog 3 RV b (k+1) D
 key:∀ j:Int,Maps.has D (.int .i64 j)=decide (0<=j/\j<=k)
 val:∀ j:Nat,j<=k->∀ z,D.atKey (.int .i64 j) z=.held (V j)
 st:∀ j,j<=k->∃ S,rp g n eh j=some S/\StOwn w T (V j) S.p S.rs S.os S.c
 bT:b<T
theorem Sto.keep {w w':World} {b T k n:Nat} {g:Nat->I5} {eh:Nat->E3} {V:Nat->Value} {D:DataW Value} (h:Sto w b T k g n eh V D) (hb:∀ i,i=b\/T<=i->i<w.heap.size->w'.heap[i]? = w.heap[i]?):Sto w' b T k g n eh V D:=
 ⟨ownsMap_blk h.own (hb b (.inl rfl) h.own.lt), h.key, h.val, fun j hj => by
  obtain ⟨S,e,o⟩:=h.st j hj
  exact ⟨S,e,o.blk fun i hi=>hb i (.inr (o.lt hi).1) (o.lt hi).2⟩,h.bT⟩
theorem Sto.below {w w':World} {b T k n:Nat} {g:Nat->I5} {eh:Nat->E3} {V:Nat->Value} {D:DataW Value} (h:Sto w b T k g n eh V D) (hb:Below w.heap.size w w'):Sto w' b T k g n eh V D:=h.keep fun i _ hi=>hb.block i hi
theorem Sto.new {w w':World} {b T n:Nat} {g:Nat->I5} {eh:Nat->E3} {v:Value} (ho:w'.ownsMap Tryz.prog 3 RV b (0+1) ((DataW.map []).put (.int .i64 0) (.held v))) (hg:w.grownBy w' (some b)) (hv:StOwn w T v newS.p newS.rs newS.os newS.c) (hT:b<T):Sto w' b T 0 g n eh (fun _=>v) ((DataW.map []).put (.int .i64 0) (.held v)):=by
 refine ⟨ho,fun j=>?_,fun j hj z=>?_,fun j hj=>⟨newS,?_,hv.blk fun i hi=>hg.block i (hv.lt hi).2 fun e=>?_⟩,hT⟩
 ·by_cases e:j=0
  ·subst e
   rw [has_put_same isMap_empty (keyI _)]
   simp
  ·rw [has_put_other (fun h=>e (by injection h))]
   have:¬ (0<=j/\j<=((0:Nat):Int)):=by omega
   rw [decide_eq_false this]
   rfl
 ·obtain rfl:j=0:=by omega
  exact atKey_put_same isMap_empty (keyI _) _ _
 ·obtain rfl:j=0:=by omega
  rfl
 ·have:=(hv.lt hi).1
  injection e with e
  omega
theorem Sto.put {w w':World} {b T k n:Nat} {g:Nat->I5} {eh:Nat->E3} {V:Nat->Value} {D:DataW Value} (h:Sto w b T k g n eh V D) {v:Value} {S:S4} (ho:w'.ownsMap Tryz.prog 3 RV b (k+1+1) (D.put (.int .i64 ((k:Int)+1)) (.held v))) (hg:w.grownBy w' (some b)) (hS:rp g n eh (k+1)=some S) (hv:StOwn w T v S.p S.rs S.os S.c):Sto w' b T (k+1) g n eh (fun j=>if j=k+1 then v else V j) (D.put (.int .i64 ((k:Int)+1)) (.held v)):=by
 have hT:=h.bT
 have bl:∀ {u:Value} {S:S4},StOwn w T u S.p S.rs S.os S.c->StOwn w' T u S.p S.rs S.os S.c:=fun o=>o.blk fun i hi=>hg.block i (o.lt hi).2 fun e=>by
  have:=(o.lt hi).1
  injection e with e
  omega
 refine ⟨ho,fun j=>?_,fun j hj z=>?_,fun j hj=>?_,hT⟩
 ·by_cases e:j=(k:Int)+1
  ·subst e
   rw [has_put_same h.own.isMap (keyI _)]
   simp only [Int.natCast_add,Int.cast_ofNat_Int,Int.le_refl,and_true]
   rw [decide_eq_true (by omega)]
  ·rw [has_put_other (fun h=>e (by injection h)),h.key]
   refine decide_eq_decide.2 ⟨fun h=>⟨h.1,by omega⟩,fun h=>⟨h.1,by omega⟩⟩
 ·by_cases e:j=k+1
  ·subst e
   simp only [if_true]
   exact atKey_put_same h.own.isMap (keyI _) _ _
  ·simp only [if_neg e]
   rw [atKey_put_other (fun h=>e (by injection h;omega))]
   exact h.val j (by omega) z
 ·by_cases e:j=k+1
  ·subst e
   simp only [if_true]
   exact ⟨S,hS,bl hv⟩
  ·simp only [if_neg e]
   obtain ⟨S',e1,o⟩:=h.st j (by omega)
   exact ⟨S',e1,bl o⟩
theorem Rn.keepX {w wr w':World} {A B C gb n gc k X:Nat} {p code:Int} {ra:Option Addr} {rc:Nat} {oa:Option Addr} {oc:Nat} {rs os:List Int} (h:Rn w wr A B C gb n gc k p code ra rc oa oc rs os) (hX:X≠A/\X≠B/\X≠C/\w.heap.size<=X) (hn:¬ hasBlock (stV p ra rs.length rc oa os.length oc code) X) (hg:wr.grownBy w' (some X)):Rn w w' A B C gb n gc k p code ra rc oa oc rs os:=by
 have hb:∀ i,i<wr.heap.size->i≠X->w'.heap[i]? = wr.heap[i]?:=fun i hi hne=>hg.block i hi fun e=>hne (by injection e)
 have eA:=hb A (zJ wr _ h.la) (fun e=>hX.1 e.symm)
 have eB:=hb B h.tl.hi (fun e=>hX.2.1 e.symm)
 have eC:=hb C (zJ wr _ h.ck) (fun e=>hX.2.2.1 e.symm)
 obtain ⟨t0,t1,t2,t3⟩:=h.tl.box
 have o':StOwn w' w.heap.size (stV p ra rs.length rc oa os.length oc code) p rs os code:=h.tl.own.blk fun i hi=>hb i (h.tl.own.lt hi).2 fun e=>hn (e ▸ hi)
 exact ⟨(zH eA).trans h.la,⟨h.tl.lo,zL h.tl.hi hg.size,Nat.le_refl _,⟨(zH eB).trans t0,(zH eB).trans t1,(zH eB).trans t2,(zH eB).trans t3⟩,o',fun i hi=>(o'.lt hi).2,h.tl.ne⟩,fun j=>(zI eB).trans (h.fb j),(zH eC).trans h.ck,(zI eC).trans h.fc,h.ne,h.nh,Below.grown h.be hg h.be.size (fun j hj=>by cases hj;exact hX.2.2.2)⟩
theorem StOwn.up {w:World} {B T:Nat} {v:Value} {p code:Int} {rs os:List Int} (h:StOwn w B v p rs os code) (hj:∀ j,hasBlock v j->T<=j):StOwn w T v p rs os code:=by
 obtain ⟨vr,vo,rfl,h1,h2,h3⟩:=h
 have up:∀ {u:Value} {xs:List Int},OwnI w B u xs->(∀ j,u.ownBlock=some j->T<=j)->OwnI w T u xs:=by
  intro u xs hu hk
  obtain ⟨g0,g⟩:=hu
  refine ⟨g0,?_⟩
  rcases g with g | ⟨b,cap,cur,rfl,g1,g2⟩
  ·exact .inl g
  ·exact .inr ⟨b,cap,cur,rfl,hk b rfl,g2⟩
 exact ⟨vr,vo,rfl,up h1 fun j hk=>hj j ((hasBlock_iff _ _ _ _ _).2 (.inl hk)),up h2 fun j hk=>hj j ((hasBlock_iff _ _ _ _ _).2 (.inr hk)),h3⟩
def StoR (w:World) (g:Nat->I5) (n:Nat) (eh:Nat->E3) (m:Nat) (e:Ending) (w':World):Prop:=
 Below w.heap.size w w'/\(((repO g n eh m).isSome=false/\e=.returned (.tuple #[.map none,.bool false]))\/((repO g n eh m).isSome=true/\∃ b T V D,e=.returned (.tuple #[.map (some b),.bool true])/\Sto w' b T m g n eh V D))
structure Sr (w wr:World) (A B C b T gb n gc k:Nat) (g:Nat->I5) (eh:Nat->E3) (S:S4):Prop where
 rn:∃ ra rc oa oc,Rn w wr A B C gb n gc k S.p S.c ra rc oa oc S.rs S.os/\¬ hasBlock (stV S.p ra S.rs.length rc oa S.os.length oc S.c) b
 so:∃ V D,Sto wr b T k g n eh V D
 ne:b≠A/\b≠B/\b≠C/\w.heap.size<=b
 lt:A<T/\B<T/\C<T
 tw:T<=wr.heap.size
theorem Sr.below {w wr w':World} {A B C b T gb n gc k:Nat} {g:Nat->I5} {eh:Nat->E3} {S:S4} (h:Sr w wr A B C b T gb n gc k g eh S) (hb:Below wr.heap.size wr w'):Sr w w' A B C b T gb n gc k g eh S:=by
 obtain ⟨ra,rc,oa,oc,r,hh⟩:=h.rn
 obtain ⟨V,D,s⟩:=h.so
 exact ⟨⟨ra,rc,oa,oc,r.below hb,hh⟩,⟨V,D,s.below hb⟩,h.ne,h.lt,zP h.tw hb.size⟩
theorem storeOf_yes (gb n gc:Nat) (ea:Option Addr) (m ec:Nat) (g:Nat->I5) (eh:Nat->E3) (w:World) (hn:n<=maxLen) (hg:gb<w.heap.size) (hI:InsAt w gb 0 n g) (hp:progOkB g n 4=true) (hE:EvL w ea m eh) (hm:m<=1048576):
  Calls Tryz.prog 88 #[.slice (some ⟨gb,0,none⟩) n gc,.slice ea m ec] w (StoR w g n eh m):=by
 have HI:Hid (InsAt w gb 0 n g):=hI
 have HE:Hid (EvL w ea m eh):=hE
 have HP:Hid (progOkB g n 4=true):=hp
 have HL:Hid (n<=maxLen):=hn
 have hm':(m:Int)<=1048576:=by omega
 have HO:Hid (repO g n eh m=if m<=200 then rp g n eh m else none):=by
  show repO g n eh m=_
  unfold repO
  by_cases h2:m<=200
  ·rw [if_pos ⟨hp,h2⟩,if_pos h2]
  ·rw [if_neg (by omega),if_neg h2]
 clear hI hn hp hE
 have hmm:=@run_makeMap Tryz.prog
 go_enter Tryz.func88,Tryz.ntmps88
 go_wp2_with fail
 refine (runOf_any gb n gc g w HL.out hg HI.out HP.out).mono ?_
 rintro e w1 ⟨A,B,C,ra,rc,oa,oc,rfl,R1⟩
 have HR1:Hid (Rn w w1 A B C gb n gc 0 0 0 ra rc oa oc [0,0,0,0] []):=R1
 clear R1
 go_wp2_with fail
 have HM2:Hid ((w1.alloc (.map #[] 0)).ownsMap Tryz.prog 3 RV w1.heap.size 0 (.map [])):=World.ownsMap_made _ _ _ _
 have hz2:(w1.alloc (.map #[] 0)).heap.size=w1.heap.size+1:=by simp
 have HR2:Hid (Rn w (w1.alloc (.map #[] 0)) A B C gb n gc 0 0 0 ra rc oa oc [0,0,0,0] []):=HR1.out.below (zT _ _)
 generalize w1.alloc (.map #[] 0)=w2 at *
 refine (implStateNew_any w2).mono ?_
 rintro e w3 ⟨v3,rfl,o3,b3⟩
 obtain ⟨ra3,rc3,oa3,oc3,rfl,-,-⟩:=o3.read
 have HR3:Hid (Rn w w3 A B C gb n gc 0 0 0 ra rc oa oc [0,0,0,0] []):=HR2.out.below b3
 have HM3:w3.ownsMap Tryz.prog 3 RV w1.heap.size 0 (.map []):=ownsMap_blk HM2.out (b3.block _ (by omega))
 have HO3:Hid (StOwn w3 w2.heap.size (stV 0 ra3 4 rc3 oa3 0 oc3 0) 0 [0,0,0,0] [] 0):=o3
 have z3:=b3.size
 clear o3 b3 HM2 HR2
 obtain ⟨w4,hup,hown4,hg4⟩:=HM3.update kInt Tryz.underlying122 (by decide) (keyOf_int_mk Tryz.underlying3 (a:=0) (by decide)) (val:=stV 0 ra3 4 rc3 oa3 0 oc3 0) rfl
 have HSR:Hid (Sr w w4 A B C w1.heap.size w2.heap.size gb n gc 0 g eh newS):=by
  have zA:A<w1.heap.size:=zJ w1 _ HR1.out.la
  have zB:B<w1.heap.size:=HR1.out.tl.hi
  have zC:C<w1.heap.size:=zJ w1 _ HR1.out.ck
  have zw:w.heap.size<=w1.heap.size:=HR1.out.be.size
  have hnb:¬ hasBlock (stV 0 ra 4 rc oa 0 oc 0) w1.heap.size:=fun e=>by
   have:=HR1.out.tl.up _ e
   omega
  exact ⟨⟨ra,rc,oa,oc,HR3.out.keepX ⟨by omega,by omega,by omega,zw⟩ hnb hg4,hnb⟩,⟨_,_,Sto.new hown4 hg4 HO3.out (by omega)⟩,⟨by omega,by omega,by omega,zw⟩,⟨by omega,by omega,by omega⟩,zP z3 hg4.size⟩
 clear hown4 hg4 HM3 HR3 HO3 HR1 hmm
 generalize w1.heap.size=b at *
 generalize w2.heap.size=T at *
 clear hz2 z3
 go_wp2_with fail
 clear hup
 go_loopw [25] (fun i wr=>∃ k:Nat,k<=m/\i=.int .i64 k/\Hid (k<=200/\∃ S,rp g n eh k=some S/\OkS n S/\Sr w wr A B C b T gb n gc k g eh S)) (fun i _=>m - (intOf i).toNat)
 case atStart=>exact ⟨0,Nat.zero_le _,rfl,by omega,newS,rfl,newS_ok HP.out,HSR.out⟩
 case round=>
  clear HSR
  obtain ⟨k,hk,rfl,HK⟩:=hrel
  obtain ⟨hk2,S,hrp,hok,hsr⟩:=HK.out
  have hbe:Below w.heap.size w wr:=by
   obtain ⟨_,_,_,_,r,_⟩:=hsr.rn
   exact r.be
  by_cases hlt:k<m
  ·have hlt':(k:Int)<(m:Int):=by omega
   obtain ⟨eb,eo,rfl,-,c0,c1,c2⟩:=(HE.out.below hbe).at hlt
   have HRP:Hid (rp g n eh k=some S):=hrp
   have HOK:Hid (OkS n S):=hok
   have HK2:Hid (k<=200):=hk2
   have hRq:Sr w (wr.alloc (oQ0 (eh k).k (eh k).q (eh k).v)) A B C b T gb n gc k g eh S:=hsr.below (zT _ _)
   have HRq:Hid (Sr w (wr.alloc (oQ0 (eh k).k (eh k).q (eh k).v)) A B C b T gb n gc k g eh S):=hRq
   clear hrp hok hsr hk2 hbe HK hRq
   go_wp2_with fail
   generalize wr.alloc (oQ0 (eh k).k (eh k).q (eh k).v)=wq at *
   obtain ⟨qra,qrc,qoa,qoc,qrn,-⟩:=HRq.out.rn
   have hlen:=OkS.len HOK.out
   clear c0 c1 c2
   refine (runOf1_any A B C gb n gc k g S.p S.c qra qrc qoa qoc S.rs S.os _ _ _ w wq qrn HL.out hg HI.out HP.out HK2.out (by omega) (by omega)).mono ?_
   rintro e w5 ⟨kp,hd⟩
   rcases hd with ⟨tT,tk,ra7,rc7,oa7,oc7,rfl,R7,J7⟩ | ⟨tF,rfl,be7⟩
   ·have HS':Hid (rp g n eh (k+1)=some (doS g n S.p S.rs S.os S.c (eh k).k (eh k).q (eh k).v)):=rp_yes HRP.out tT
    have HO':Hid (OkS n (doS g n S.p S.rs S.os S.c (eh k).k (eh k).q (eh k).v)):=doS_ok tT
    have HK3:Hid (k+1<=200):=by
     show k+1<=200
     have:=HK2.out
     omega
    generalize doS g n S.p S.rs S.os S.c (eh k).k (eh k).q (eh k).v=S' at *
    obtain ⟨V,D,so⟩:=HRq.out.so
    obtain ⟨nA,nB,nC,nw⟩:=HRq.out.ne
    obtain ⟨lA,lB,lC⟩:=HRq.out.lt
    have tw:=HRq.out.tw
    have hbw:b<wq.heap.size:=so.own.lt
    have so5:Sto w5 b T k g n eh V D:=so.keep fun i hi hl=>kp.2 i hl (by rcases hi with e | e <;> omega) (by rcases hi with e | e <;> omega)
    have bq:=zT w5 (oQ1 S'.p ra7 S'.rs.length rc7 oa7 S'.os.length oc7 S'.c)
    have so6:=so5.below bq
    have nb:¬ hasBlock (stV S'.p ra7 S'.rs.length rc7 oa7 S'.os.length oc7 S'.c) b:=fun e=>by
     have:=J7 b e
     omega
    obtain ⟨w7,hup,hown7,hg7⟩:=so6.own.update kInt Tryz.underlying122 (by unfold maxLen;omega) (keyOf_int_mk Tryz.underlying3 (a:=(k:Int)+1) (wf64 (by omega) (by omega))) (val:=stV S'.p ra7 S'.rs.length rc7 oa7 S'.os.length oc7 S'.c) rfl
    have HN:Hid (Sr w w7 A B C b T gb n gc (k+1) g eh S'):=⟨⟨ra7,rc7,oa7,oc7,(R7.below bq).keepX ⟨nA,nB,nC,nw⟩ nb hg7,nb⟩,⟨_,_,so6.put hown7 hg7 HS'.out ((R7.tl.own.up fun j hj=>zP tw (J7 j hj)).below bq)⟩,⟨nA,nB,nC,nw⟩,⟨lA,lB,lC⟩,zP tw (zP kp.1 (zP bq.size hg7.size))⟩
    clear R7 J7 qrn kp tT tk so so5 so6 hown7 hg7 nb bq nA nB nC nw lA lB lC tw hbw hlen
    go_wp2
    go_roundw
    case rel=>exact ⟨k+1,by omega,by go_num,HK3.out,S',HS'.out,HO'.out,HN.out⟩
    case measure=>simp [intOf];omega
   ·have HON:Hid ((repO g n eh m).isSome=false):=by
     show (repO g n eh m).isSome=false
     have:repO g n eh m=none:=by
      rw [HO.out]
      rcases tF with tF | tF
      ·by_cases h2:m<=200
       ·rw [if_pos h2]
        exact rp_over (rp_no HRP.out tF) (by omega)
       ·rw [if_neg h2]
      ·rw [if_neg (by omega)]
     rw [this]
     rfl
    have B5:Hid (Below w.heap.size w w5):=be7
    clear qrn kp tF be7 hlen
    go_wp2
    refine bodyPost_ret (v:=.tuple #[.map none,.bool false]) (by simp [results,Tryz.results88,go_sem]) rfl ⟨B5.out.trans ((zT _ _).mono B5.out.size),.inl ⟨HON.out,rfl⟩⟩
  ·have hkm:k=m:=by omega
   subst hkm
   have HOS:Hid ((repO g n eh k).isSome=true):=by
    show (repO g n eh k).isSome=true
    rw [HO.out,if_pos hk2,hrp]
    rfl
   obtain ⟨V,D,so⟩:=hsr.so
   have HSO:Hid (Sto wr b T k g n eh V D):=so
   have HBE:Hid (Below w.heap.size w wr):=hbe
   clear so hsr hbe hrp hok hk2 HK
   go_wp2
   exact bodyPost_ret (v:=.tuple #[.map (some b),.bool true]) (by simp [results,Tryz.results88,go_sem]) rfl ⟨HBE.out,.inr ⟨HOS.out,b,T,V,D,rfl,HSO.out⟩⟩
