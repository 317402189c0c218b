import Derived.Test.YtegogmbfhddeoaaGreatDoorJk27
namespace Go.Proofs.YtegogmbfhddeoaaGreatDoor
set_option maxRecDepth 100000
set_option maxHeartbeats 4000000
open Go.RowKit Go.Sort
theorem qsr (gb n gc:Nat) (g:Nat->I5) (w:World) (hn:n<=maxLen) (hg:gb<w.heap.size) (hI:qan w gb 0 n g) (hp:qad g n 4=false):
  Calls Tryz.prog 187 #[.slice (some ⟨gb,0,none⟩) n gc] w fun e w'=>e=.returned (.tuple #[.nilFunc,.iface 175 (.agg #[.int .i64 (-1)])])/\Below w.heap.size w w':=by
 have HI:Hid (qan w gb 0 n g):=hI;have HL:Hid (n<=maxLen):=hn;have HP:Hid (qad g n 4=false):=hp;clear hI hn
 go_enter Tryz.func187,Tryz.ntmps187
 go_wp2_with fail
 refine (qc6 gb 0 n gc g 4 _ HL.out (by simp;omega) (HI.out.below (by go_grown) hg)).mono ?_;rintro e w1 ⟨rfl,b1⟩;have B1:Hid (Below w.heap.size w w1):=qai (by go_grown) b1 (by simp);clear b1;go_wp2;exact bodyPost_ret (v:=.tuple #[.nilFunc,.iface 175 (.agg #[.int .i64 (-1)])]) (by simp [results,Tryz.results187,go_sem]) rfl ⟨rfl,B1.out⟩
def AllR (w:World) (O:Option S4) (e:Ending) (w':World):Prop:=
 ∃ v err,e=.returned (.tuple #[v,err])/\Below w.heap.size w w'/\qah w' w.heap.size v (resS O).p (resS O).rs (resS O).os (resS O).c/\((O.isSome=true/\err=.nilIface)\/(O.isSome=false/\∃ x:Int,err=.iface 175 (.agg #[.int .i64 x])))
theorem qq0 (gb n gc:Nat) (ea:Option Addr) (m ec:Nat) (g:Nat->I5) (eh:Nat->E3) (w:World) (hn:n<=maxLen) (hg:gb<w.heap.size) (hI:qan w gb 0 n g) (hp:qad g n 4=false):
  Calls Tryz.prog 157 #[.slice (some ⟨gb,0,none⟩) n gc,.slice ea m ec] w (AllR w (repO g n eh m)):=by
 have HI:Hid (qan w gb 0 n g):=hI
 have HO:Hid (repO g n eh m=none):=by
  show repO g n eh m=none;unfold repO;rw [if_neg (by rw [hp];simp)]
 have HP:Hid (qad g n 4=false):=hp;have HL:Hid (n<=maxLen):=hn;clear hI hn hp;rw [HO.out];have bA:=zT w (zQ0);have BA:Hid (Below w.heap.size w (w.alloc (zQ0))):=bA;have NB:Hid (BoxC (w.alloc (zQ0)) w.heap.size (.int .i64 0) (.slice none 0 0) (.slice none 0 0) (.int .i64 0)/\∀ j,(w.alloc (zQ0)).frozen? ⟨w.heap.size,j,none⟩=false):=⟨BoxC.new w _ _ _ _ _,fun j=>yB _ _ _ j rfl⟩
 clear bA
 go_enter Tryz.func157,Tryz.ntmps157
 go_wp2_with fail
 have hz:(w.alloc (zQ0)).heap.size=w.heap.size+1:=by simp
 generalize w.alloc (zQ0)=wa at *;refine (qsr gb n gc g wa HL.out (zL hg BA.out.size) (HI.out.below BA.out hg) HP.out).mono ?_;rintro e w1 ⟨rfl,b1⟩;have N1:BoxC w1 w.heap.size (.int .i64 0) (.slice none 0 0) (.slice none 0 0) (.int .i64 0):=NB.1.below b1;have F1:∀ j,w1.frozen? ⟨w.heap.size,j,none⟩=false:=fun j=>(zI (b1.block w.heap.size (by omega))).trans (NB.2 j);have B1:Hid (Below w.heap.size w w1):=BA.out.trans (b1.mono BA.out.size);obtain ⟨r0,r1,r2,r3⟩:=N1;clear b1 BA NB hz;go_wp2;exact bodyPost_ret (v:=.tuple #[stV 0 none 0 0 none 0 0 0,.iface 175 (.agg #[.int .i64 (-1)])]) (by simp [results,Tryz.results157,go_sem,r0,r1,r2,r3]) rfl ⟨_,_,rfl,(((B1.out.setCell (Nat.le_refl _) _).setCell (Nat.le_refl _) _).setCell (Nat.le_refl _) _).setCell (Nat.le_refl _) _,qah.nil _ _,.inr ⟨rfl,_,rfl⟩⟩
structure Ra (wa wr:World) (A B C X gb n gc k:Nat) (S:S4):Prop where
 rn:∃ ra rc oa oc,Rn wa wr A B C gb n gc k S.p S.c ra rc oa oc S.rs S.os
 sb:∃ ra rc oa oc,BoxC wr X (.int .i64 S.p) (.slice ra S.rs.length rc) (.slice oa S.os.length oc) (.int .i64 S.c)/\qah wr wa.heap.size (stV S.p ra S.rs.length rc oa S.os.length oc S.c) S.p S.rs S.os S.c/\¬ qam (stV S.p ra S.rs.length rc oa S.os.length oc S.c) X
 fs:∀ j,wr.frozen? ⟨X,j,none⟩=false
 ne:X≠A/\X≠B/\X≠C/\wa.heap.size<=X
theorem qah.setOut {w:World} {B N:Nat} {v:Value} {p code:Int} {rs os:List Int} (h:qah w B v p rs os code) (hN:¬ qam v N) (j:Nat) (u:Value):qah (w.setCell ⟨N,j,none⟩ u) B v p rs os code:=by
 obtain ⟨vr,vo,rfl,h1,h2,h3⟩:=h
 have blk:∀ {v':Value} {xs:List Int},OwnI w B v' xs->(v'.ownBlock≠some N)->OwnI (w.setCell ⟨N,j,none⟩ u) B v' xs:=by
  intro v' xs hv hne;obtain ⟨g0,g⟩:=hv;refine ⟨g0,?_⟩
  rcases g with g | ⟨b,cap,cur,rfl,g1,g2,g3⟩
  ·exact .inl g
  ·refine .inr ⟨b,cap,cur,rfl,g1,(zO _ _ _ _ fun e=>hne ?_).trans g2,g3⟩
   show some b=some N;rw [e]
 exact ⟨vr,vo,rfl,blk h1 fun e=>hN ((qav _ _ _ _ _).2 (.inl e)),blk h2 fun e=>hN ((qav _ _ _ _ _).2 (.inr e)),h3⟩
theorem Rn.setX {w wr:World} {A B C gb n gc k X:Nat} {p code:Int} {ra:Option Addr} {rc:Nat} {oa:Option Addr} {oc:Nat} {rs os:List Int} (h:Rn w wr A B C gb n gc k p code ra rc oa oc rs os) (hX:X≠A/\X≠B/\X≠C/\w.heap.size<=X) (hb:¬ qam (stV p ra rs.length rc oa os.length oc code) X) (j:Nat) (u:Value):Rn w (wr.setCell ⟨X,j,none⟩ u) A B C gb n gc k p code ra rc oa oc rs os:=by
 have hc:∀ N i,X≠N->(wr.setCell ⟨X,j,none⟩ u).cell? ⟨N,i,none⟩=wr.cell? ⟨N,i,none⟩:=fun N i hne=>World.cell?_setCell_other _ _ _ _ fun e=>hne (by injection e);obtain ⟨t0,t1,t2,t3⟩:=h.tl.box;refine ⟨(hc A 0 hX.1).trans h.la,⟨h.tl.lo,by simp;exact h.tl.hi,by simp,⟨(hc B 0 hX.2.1).trans t0,(hc B 1 hX.2.1).trans t1,(hc B 2 hX.2.1).trans t2,(hc B 3 hX.2.1).trans t3⟩,h.tl.own.setOut hb j u,fun i hi=>by simp;exact h.tl.up i hi,h.tl.ne⟩,fun i=>by rw [World.frozen?_setCell];exact h.fb i,(hc C 0 hX.2.2.1).trans h.ck,by rw [World.frozen?_setCell];exact h.fc,h.ne,h.nh,h.be.setCell hX.2.2.2 _⟩
theorem Ra.below {wa wr w':World} {A B C X gb n gc k:Nat} {S:S4} (h:Ra wa wr A B C X gb n gc k S) (hb:Below wr.heap.size wr w'):Ra wa w' A B C X gb n gc k S:=by
 obtain ⟨ra,rc,oa,oc,b,o,nb⟩:=h.sb;obtain ⟨ra',rc',oa',oc',r⟩:=h.rn;exact ⟨⟨ra',rc',oa',oc',r.below hb⟩,⟨ra,rc,oa,oc,b.below hb,o.below hb,nb⟩,fun j=>(zI (hb.block X (zJ wr _ b.1))).trans (h.fs j),h.ne⟩
theorem Ra.next {wa wq w5:World} {A B C X gb n gc k:Nat} {S S':S4} (h:Ra wa wq A B C X gb n gc k S) (kp:qbc wq B C w5) {ra:Option Addr} {rc:Nat} {oa:Option Addr} {oc:Nat} (r:Rn wa w5 A B C gb n gc (k+1) S'.p S'.c ra rc oa oc S'.rs S'.os) (hj:∀ j,qam (stV S'.p ra S'.rs.length rc oa S'.os.length oc S'.c) j->wq.heap.size<=j):
  Ra wa ((((w5.setCell ⟨X,0,none⟩ (.int .i64 S'.p)).setCell ⟨X,1,none⟩ (.slice ra S'.rs.length rc)).setCell ⟨X,2,none⟩ (.slice oa S'.os.length oc)).setCell ⟨X,3,none⟩ (.int .i64 S'.c)) A B C X gb n gc (k+1) S':=by
 obtain ⟨ra0,rc0,oa0,oc0,b,-,-⟩:=h.sb;have zX:X<wq.heap.size:=zJ wq _ b.1
 have nX:¬ qam (stV S'.p ra S'.rs.length rc oa S'.os.length oc S'.c) X:=fun e=>by
  have:=hj X e;omega
 have hB5:w5.heap[X]? = wq.heap[X]?:=kp.2 X zX h.ne.2.1 h.ne.2.2.1;have b5:BoxC w5 X (.int .i64 S.p) (.slice ra0 S.rs.length rc0) (.slice oa0 S.os.length oc0) (.int .i64 S.c):=⟨(zH hB5).trans b.1,(zH hB5).trans b.2.1,(zH hB5).trans b.2.2.1,(zH hB5).trans b.2.2.2⟩
 refine ⟨⟨ra,rc,oa,oc,(((r.setX h.ne nX _ _).setX h.ne nX _ _).setX h.ne nX _ _).setX h.ne nX _ _⟩,⟨ra,rc,oa,oc,qnh b5 _ _ _ _,(((r.tl.own.setOut nX _ _).setOut nX _ _).setOut nX _ _).setOut nX _ _,nX⟩,fun j=>?_,h.ne⟩;simp only [World.frozen?_setCell];rw [zI hB5];exact h.fs j
theorem qo5 (gb n gc:Nat) (ea:Option Addr) (m ec:Nat) (g:Nat->I5) (eh:Nat->E3) (w:World) (hn:n<=maxLen) (hg:gb<w.heap.size) (hI:qan w gb 0 n g) (hp:qad g n 4=true) (hE:EvL w ea m eh) (hm:m<=1048576):
  Calls Tryz.prog 157 #[.slice (some ⟨gb,0,none⟩) n gc,.slice ea m ec] w (AllR w (repO g n eh m)):=by
 have HI:Hid (qan w gb 0 n g):=hI;have HE:Hid (EvL w ea m eh):=hE;have HP:Hid (qad g n 4=true):=hp;have HL:Hid (n<=maxLen):=hn;have hm':(m:Int)<=1048576:=by omega
 have HO:Hid (repO g n eh m=if m<=200 then rp g n eh m else none):=by
  show repO g n eh m=_;unfold repO;by_cases h2:m<=200
  ·rw [if_pos ⟨hp,h2⟩,if_pos h2]
  ·rw [if_neg (by omega),if_neg h2]
 clear hI hn hp hE;have bA:=zT w (zQ0);have BA:Hid (Below w.heap.size w (w.alloc (zQ0))):=bA;have NB:Hid (BoxC (w.alloc (zQ0)) w.heap.size (.int .i64 0) (.slice none 0 0) (.slice none 0 0) (.int .i64 0)/\∀ j,(w.alloc (zQ0)).frozen? ⟨w.heap.size,j,none⟩=false):=⟨BoxC.new w _ _ _ _ _,fun j=>yB _ _ _ j rfl⟩
 clear bA;generalize hRO:repO g n eh m=O at *
 go_enter Tryz.func157,Tryz.ntmps157
 go_wp2_with fail
 have hz:(w.alloc (zQ0)).heap.size=w.heap.size+1:=by simp
 generalize w.alloc (zQ0)=wa at *;refine (qq1 gb n gc g wa HL.out (zL hg BA.out.size) (HI.out.below BA.out hg) HP.out).mono ?_;rintro e w1 ⟨A,B,C,ra,rc,oa,oc,rfl,R1⟩;have HR1:Hid (Rn wa w1 A B C gb n gc 0 0 0 ra rc oa oc [0,0,0,0] []):=R1;clear R1;go_wp2_with fail
 refine (qcp _).mono ?_;rintro e w2 ⟨v2,rfl,o2,b2⟩;obtain ⟨ra2,rc2,oa2,oc2,rfl,-,-⟩:=o2.read;have HR2:Hid (Rn wa w2 A B C gb n gc 0 0 0 ra rc oa oc [0,0,0,0] []):=HR1.out.below b2;have O2:Hid (qah w2 w1.heap.size (stV 0 ra2 4 rc2 oa2 0 oc2 0) 0 [0,0,0,0] [] 0):=o2;have zX:=b2.size
 have HRA:Hid (Ra wa (w2.alloc (oQ1 0 ra2 4 rc2 oa2 0 oc2 0)) A B C w2.heap.size gb n gc 0 newS):=by
  have zA:A<w2.heap.size:=zJ w2 _ HR2.out.la;have zB:B<w2.heap.size:=HR2.out.tl.hi;have zC:C<w2.heap.size:=zJ w2 _ HR2.out.ck;have hbe:=HR2.out.be.size;have hbe1:=HR1.out.be.size;refine ⟨⟨_,_,_,_,HR2.out.below (zT _ _)⟩,⟨ra2,rc2,oa2,oc2,BoxC.new w2 _ _ _ _ _,(O2.out.below (zT _ _)).mono hbe1,fun e=>?_⟩,fun j=>yB _ _ _ j rfl,by omega,by omega,by omega,hbe⟩;have:=(O2.out.lt e).2;omega
 clear o2 b2 O2 HR1 HR2;go_wp2_with fail
 generalize w2.alloc (oQ1 0 ra2 4 rc2 oa2 0 oc2 0)=w3 at *
 have HZ:Hid (w.heap.size<wa.heap.size):=by
  show w.heap.size<wa.heap.size;omega
 generalize w2.heap.size=X at *;clear zX hz
 go_loopw [23] (fun i wr=>∃ k:Nat,k<=m/\i=.int .i64 k/\Hid (k<=200/\∃ S,rp g n eh k=some S/\OkS n S/\Ra wa wr A B C X gb n gc k S)) (fun i _=>m - (intOf i).toNat)
 case atStart=>exact ⟨0,Nat.zero_le _,rfl,by omega,newS,rfl,qi5 HP.out,HRA.out⟩
 case round=>
  clear HRA;obtain ⟨k,hk,rfl,HK⟩:=hrel;obtain ⟨hk2,S,hrp,hok,hra⟩:=HK.out;obtain ⟨sra,src,soa,soc,⟨s0,s1,s2,s3⟩,sown,snb⟩:=hra.sb
  have hbe:Below w.heap.size w wr:=by
   obtain ⟨_,_,_,_,r⟩:=hra.rn;exact BA.out.trans (r.be.mono BA.out.size)
  by_cases hlt:k<m
  ·have hlt':(k:Int)<(m:Int):=by omega
   obtain ⟨eb,eo,rfl,-,c0,c1,c2⟩:=(HE.out.below hbe).at hlt;have HRP:Hid (rp g n eh k=some S):=hrp;have HOK:Hid (OkS n S):=hok;have HRa:Hid (Ra wa wr A B C X gb n gc k S):=hra;have HK2:Hid (k<=200):=hk2;clear hrp hok hra hk2 sown snb HK s0 s1 s2 s3 hbe;go_wp2_with fail
   have hRq:Ra wa (wr.alloc (oQ0 (eh k).k (eh k).q (eh k).v)) A B C X gb n gc k S:=HRa.out.below (zT _ _);generalize wr.alloc (oQ0 (eh k).k (eh k).q (eh k).v)=wq at *;have HRq:Hid (Ra wa wq A B C X gb n gc k S):=hRq;obtain ⟨qra,qrc,qoa,qoc,qrn⟩:=hRq.rn;have hlen:=OkS.len HOK.out;refine (qo6 A B C gb n gc k g S.p S.c qra qrc qoa qoc S.rs S.os _ _ _ wa wq qrn HL.out (zL hg BA.out.size) (HI.out.below BA.out hg) HP.out HK2.out (by omega) (by omega)).mono ?_;rintro e w5 ⟨kp,hd⟩
   have n5:BoxC w5 w.heap.size (.int .i64 0) (.slice none 0 0) (.slice none 0 0) (.int .i64 0)/\(∀ j,w5.frozen? ⟨w.heap.size,j,none⟩=false)/\(∃ a b c d,BoxC w5 X a b c d)/\∀ j,w5.frozen? ⟨X,j,none⟩=false:=by
    have zR:w.heap.size<wq.heap.size:=zL HZ.out qrn.be.size;have lB:=qrn.tl.lo;have lC:=qrn.ne.2.2.2.2;have hz:=HZ.out;have eR:w5.heap[w.heap.size]? = wa.heap[w.heap.size]?:=(kp.2 _ zR (by omega) (by omega)).trans (qrn.be.block _ HZ.out);obtain ⟨xra,xrc,xoa,xoc,xb,-,-⟩:=hRq.sb;have eX:w5.heap[X]? = wq.heap[X]?:=kp.2 X (zJ wq _ xb.1) hRq.ne.2.1 hRq.ne.2.2.1;obtain ⟨a0,a1,a2,a3⟩:=NB.1;exact ⟨⟨(zH eR).trans a0,(zH eR).trans a1,(zH eR).trans a2,(zH eR).trans a3⟩,fun j=>(zI eR).trans (NB.2 j),⟨_,_,_,_,(zH eX).trans xb.1,(zH eX).trans xb.2.1,(zH eX).trans xb.2.2.1,(zH eX).trans xb.2.2.2⟩,fun j=>(zI eX).trans (hRq.fs j)⟩
   obtain ⟨⟨r0,r1,r2,r3⟩,rf,⟨xa,xb,xc,xd,x0,x1,x2,x3⟩,xf⟩:=n5
   have hRX:w.heap.size≠X:=by
    have:=hRq.ne.2.2.2;have:=HZ.out;omega
   have hXR:X≠w.heap.size:=fun e=>hRX e.symm
   rcases hd with ⟨tT,tk,ra7,rc7,oa7,oc7,rfl,R7,J7⟩ | ⟨tF,rfl,be7⟩
   ·have HN:Hid (Ra wa _ A B C X gb n gc (k+1) (doS g n S.p S.rs S.os S.c (eh k).k (eh k).q (eh k).v)):=hRq.next kp R7 J7
    have HS':Hid (rp g n eh (k+1)=some (doS g n S.p S.rs S.os S.c (eh k).k (eh k).q (eh k).v)):=qqz HRP.out tT;have HO':Hid (OkS n (doS g n S.p S.rs S.os S.c (eh k).k (eh k).q (eh k).v)):=qnl tT
    have HK3:Hid (k+1<=200):=by
     show k+1<=200;have:=HK2.out;omega
    generalize doS g n S.p S.rs S.os S.c (eh k).k (eh k).q (eh k).v=S' at *;clear R7 J7 qrn hRq kp tT tk r0 r1 r2 r3 rf;go_wp2;go_roundw
    case rel=>exact ⟨k+1,by omega,by go_num,HK3.out,S',HS'.out,HO'.out,HN.out⟩
    case measure=>simp [intOf];omega
   ·have HON:Hid (O=none):=by
     show O=none;rw [HO.out]
     rcases tF with tF | tF
     ·by_cases h2:m<=200
      ·rw [if_pos h2]
       exact qjf (qsq HRP.out tF) (by omega)
      ·rw [if_neg h2]
     ·rw [if_neg (by omega)]
    have B5:Hid (Below w.heap.size w w5):=BA.out.trans (be7.mono BA.out.size)
    have hwX:w.heap.size<=X:=by
     have:=hRq.ne.2.2.2;have:=HZ.out;omega
    have HW:Hid (w.heap.size<=X):=hwX;clear qrn hRq kp tF be7 hwX;go_wp2;refine bodyPost_ret (v:=.tuple #[stV 0 none 0 0 none 0 0 0,.iface 175 (.agg #[.int .i64 k])]) (by simp [results,Tryz.results157,go_sem,r0,r1,r2,r3]) rfl ?_;rw [HON.out];refine ⟨_,_,rfl,?_,qah.nil _ _,.inr ⟨rfl,_,rfl⟩⟩
    repeat (refine Below.setCell ?_ (by first | exact Nat.le_refl _ | exact HW.out) _)
    exact B5.out
  ·have hkm:k=m:=by omega
   subst hkm
   have HOS:Hid (O=some S):=by
    show O=some S;rw [HO.out,if_pos hk2];exact hrp
   obtain ⟨r0,r1,r2,r3⟩:BoxC wr w.heap.size (.int .i64 0) (.slice none 0 0) (.slice none 0 0) (.int .i64 0):=by
    obtain ⟨_,_,_,_,r⟩:=hra.rn;have eR:wr.heap[w.heap.size]? = wa.heap[w.heap.size]?:=r.be.block _ HZ.out;obtain ⟨a0,a1,a2,a3⟩:=NB.1;exact ⟨(zH eR).trans a0,(zH eR).trans a1,(zH eR).trans a2,(zH eR).trans a3⟩
   have rf:∀ j,wr.frozen? ⟨w.heap.size,j,none⟩=false:=by
    obtain ⟨_,_,_,_,r⟩:=hra.rn;exact fun j=>(zI (r.be.block _ HZ.out)).trans (NB.2 j)
   have HSO:Hid (qah wr wa.heap.size (stV S.p sra S.rs.length src soa S.os.length soc S.c) S.p S.rs S.os S.c):=sown;have HBE:Hid (Below w.heap.size w wr):=hbe;have hlt':¬ (k:Int)<(k:Int):=by omega
   clear hrp hok hra hk2 sown snb HK hbe;go_wp2;refine bodyPost_ret (v:=.tuple #[stV S.p sra S.rs.length src soa S.os.length soc S.c,.nilIface]) (by simp [results,Tryz.results157,go_sem,r0,r1,r2,r3]) rfl ?_;rw [HOS.out];refine ⟨_,_,rfl,?_,?_,.inl ⟨rfl,rfl⟩⟩
   ·exact (((HBE.out.setCell (Nat.le_refl _) _).setCell (Nat.le_refl _) _).setCell (Nat.le_refl _) _).setCell (Nat.le_refl _) _
   ·exact HSO.out.put4 HZ.out (Nat.le_of_lt HZ.out)
