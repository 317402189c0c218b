import Derived.Test.YtbgfjbgdiifghaaGreatDoorZn17
import Derived.Test.YtbgfjbgdiifghaaGreatDoorZn16
namespace Go.Proofs.YtbgfjbgdiifghaaGreatDoor
open Go.Proofs.Tryz
set_option maxRecDepth 100000
set_option maxHeartbeats 4000000
open Go.RowKit Go.Sort
theorem qvg (gb n gc:Nat) (g:Nat->I5) (w:World) (hn:n<=maxLen) (hg:gb<w.heap.size) (hI:qaq w gb 0 n g) (hp:qaa g n 4=false):
  Calls prog 116 #[.slice (some (aQ gb 0)) n gc] w (rB w (.tuple #[.nilFunc,.iface 146 (.agg #[iV (-1)])])):=by
 have HI:Hid (qaq w gb 0 n g):=hI;have HL:Hid (n<=maxLen):=hn;have HP:Hid (qaa g n 4=false):=hp;clear hI hn
 go_enter func116,ntmps116
 go_wp2_with fail
 refine (qdd gb 0 n gc g 4 _ HL.out (by simp;omega) (HI.bw (by go_grown) hg)).mono ?_;rintro e w1 ⟨rfl,b1⟩;have B1:Hid (Bw w w1):=qah (by go_grown) b1 (by simp);clear b1;go_wp2;exact bodyPost_ret (v:=.tuple #[.nilFunc,.iface 146 (.agg #[iV (-1)])]) (by simp [results,results116,go_sem]) rfl ⟨rfl,B1.out⟩
def AllR (w:World) (O:Option S4) (e:Ending) (w':World):Prop:=
 ∃ v err,e=.returned (.tuple #[v,err])/\Bw w w'/\qac w' w.heap.size v (resS O).p (resS O).rs (resS O).os (resS O).c/\((O.isSome=true/\err=.nilIface)\/(O.isSome=false/\∃ x:Int,err=.iface 146 (.agg #[iV x])))
theorem qto (gb n gc:Nat) (ea:Option Addr) (m ec:Nat) (g:Nat->I5) (eh:Nat->E3) (w:World) (hn:n<=maxLen) (hg:gb<w.heap.size) (hI:qaq w gb 0 n g) (hp:qaa g n 4=false):
  Calls prog 100 #[.slice (some (aQ gb 0)) n gc,.slice ea m ec] w (AllR w (repO g n eh m)):=by
 have HI:Hid (qaq w gb 0 n g):=hI
 have HO:Hid (repO g n eh m=none):=by
  show repO g n eh m=none;unfold repO;rw [nB (by rw [hp];simp)]
 have HP:Hid (qaa g n 4=false):=hp;have HL:Hid (n<=maxLen):=hn;clear hI hn hp;rw [HO.out];have bA:=zT w (zQ0);have BA:Hid (Bw w (w.alloc (zQ0))):=bA;have NB:Hid (BoxC (w.alloc (zQ0)) w.heap.size (iV 0) nS nS (iV 0)/\∀ j,(w.alloc (zQ0)).frozen? ⟨w.heap.size,j,none⟩=false):=⟨BoxC.new w _ _ _ _ _,fun j=>yB _ _ _ j rfl⟩
 clear bA
 go_enter func100,ntmps100
 go_wp2_with fail
 have hz:(w.alloc (zQ0)).heap.size=w.heap.size+1:=by simp
 generalize w.alloc (zQ0)=wa at *;refine (qvg gb n gc g wa HL.out (zL hg BA.size) (HI.bw BA.out hg) HP.out).mono ?_;rintro e w1 ⟨rfl,b1⟩;have N1:BoxC w1 w.heap.size (iV 0) nS nS (iV 0):=NB.1.bw b1;have F1:∀ j,w1.frozen? ⟨w.heap.size,j,none⟩=false:=fun j=>(zI (b1.block w.heap.size (by omega))).trans (NB.2 j);have B1:Hid (Bw w w1):=BA.trans (b1.mono BA.size);obtain ⟨r0,r1,r2,r3⟩:=N1;clear b1 BA NB hz;go_wp2;exact bodyPost_ret (v:=.tuple #[stV 0 none 0 0 none 0 0 0,.iface 146 (.agg #[iV (-1)])]) (by simp [results,results100,go_sem,r0,r1,r2,r3]) rfl ⟨_,_,rfl,(((B1.setCell (nA _) _).setCell (nA _) _).setCell (nA _) _).setCell (nA _) _,qac.nil _ _,.inr ⟨rfl,_,rfl⟩⟩
structure Ra (wa wr:World) (A B C X gb n gc k:Nat) (S:S4):Prop where
 rn:∃ ra rc oa oc,Rn wa wr A B C gb n gc k S.p S.c ra rc oa oc S.rs S.os
 sb:∃ ra rc oa oc,BoxC wr X (iV S.p) (.slice ra S.rs.length rc) (.slice oa S.os.length oc) (iV S.c)/\qac wr wa.heap.size (stV S.p ra S.rs.length rc oa S.os.length oc S.c) S.p S.rs S.os S.c/\¬ qak (stV S.p ra S.rs.length rc oa S.os.length oc S.c) X
 fs:∀ j,wr.frozen? ⟨X,j,none⟩=false
 ne:X≠A/\X≠B/\X≠C/\wa.heap.size<=X
theorem qac.setOut {w:World} {B N:Nat} {v:Value} {p code:Int} {rs os:List Int} (h:qac w B v p rs os code) (hN:¬ qak v N) (j:Nat) (u:Value):qac (w.setCell (aQ N j) u) B v p rs os code:=by
 obtain ⟨vr,vo,rfl,h1,h2,h3⟩:=h
 have blk:∀ {v':Value} {xs:List Int},OwnI w B v' xs->(v'.ownBlock≠some N)->OwnI (w.setCell ⟨N,j,none⟩ u) B v' xs:=by
  intro v' xs hv hne;obtain ⟨g0,g⟩:=hv;refine ⟨g0,?_⟩
  rcases g with g | ⟨b,cap,cur,rfl,g1,g2,g3⟩
  ·exact .inl g
  ·refine .inr ⟨b,cap,cur,rfl,g1,(zO _ _ _ _ fun e=>hne ?_).trans g2,g3⟩
   show some b=some N;rw [e]
 exact ⟨vr,vo,rfl,blk h1 fun e=>hN ((qav _ _ _ _ _).2 (.inl e)),blk h2 fun e=>hN ((qav _ _ _ _ _).2 (.inr e)),h3⟩
theorem Rn.setX {w wr:World} {A B C gb n gc k X:Nat} {p code:Int} {ra:Option Addr} {rc:Nat} {oa:Option Addr} {oc:Nat} {rs os:List Int} (h:Rn w wr A B C gb n gc k p code ra rc oa oc rs os) (hX:X≠A/\X≠B/\X≠C/\w.heap.size<=X) (hb:¬ qak (stV p ra rs.length rc oa os.length oc code) X) (j:Nat) (u:Value):Rn w (wr.setCell (aQ X j) u) A B C gb n gc k p code ra rc oa oc rs os:=by
 have hc:∀ N i,X≠N->(wr.setCell ⟨X,j,none⟩ u).cell? ⟨N,i,none⟩=wr.cell? ⟨N,i,none⟩:=fun N i hne=>World.cell?_setCell_other _ _ _ _ fun e=>hne (by injection e);obtain ⟨t0,t1,t2,t3⟩:=h.tl.box;refine ⟨(hc A 0 hX.1).trans h.la,⟨h.tl.lo,by simp;exact h.tl.hi,by simp,⟨(hc B 0 hX.2.1).trans t0,(hc B 1 hX.2.1).trans t1,(hc B 2 hX.2.1).trans t2,(hc B 3 hX.2.1).trans t3⟩,h.tl.own.setOut hb j u,fun i hi=>by simp;exact h.tl.up i hi,h.tl.ne⟩,fun i=>by rw [World.frozen?_setCell];exact h.fb i,(hc C 0 hX.2.2.1).trans h.ck,by rw [World.frozen?_setCell];exact h.fc,h.ne,h.nh,h.be.setCell hX.2.2.2 _⟩
theorem Ra.bw {wa wr w':World} {A B C X gb n gc k:Nat} {S:S4} (h:Ra wa wr A B C X gb n gc k S) (hb:Bw wr w'):Ra wa w' A B C X gb n gc k S:=by
 obtain ⟨ra,rc,oa,oc,b,o,nb⟩:=h.sb;obtain ⟨ra',rc',oa',oc',r⟩:=h.rn;exact ⟨⟨ra',rc',oa',oc',r.bw hb⟩,⟨ra,rc,oa,oc,b.bw hb,o.bw hb,nb⟩,fun j=>(zI (hb.block X (zJ wr _ b.1))).trans (h.fs j),h.ne⟩
theorem Ra.next {wa wq w5:World} {A B C X gb n gc k:Nat} {S S':S4} (h:Ra wa wq A B C X gb n gc k S) (kp:qba wq B C w5) {ra:Option Addr} {rc:Nat} {oa:Option Addr} {oc:Nat} (r:Rn wa w5 A B C gb n gc (k+1) S'.p S'.c ra rc oa oc S'.rs S'.os) (hj:∀ j,qak (stV S'.p ra S'.rs.length rc oa S'.os.length oc S'.c) j->wq.heap.size<=j):
  Ra wa ((((w5.setCell (aQ X 0) (iV S'.p)).setCell (aQ X 1) (.slice ra S'.rs.length rc)).setCell (aQ X 2) (.slice oa S'.os.length oc)).setCell (aQ X 3) (iV S'.c)) A B C X gb n gc (k+1) S':=by
 obtain ⟨ra0,rc0,oa0,oc0,b,-,-⟩:=h.sb;have zX:X<wq.heap.size:=zJ wq _ b.1
 have nX:¬ qak (stV S'.p ra S'.rs.length rc oa S'.os.length oc S'.c) X:=fun e=>by
  have:=hj X e;omega
 have hB5:w5.heap[X]? = wq.heap[X]?:=kp.2 X zX h.ne.2.1 h.ne.2.2.1;have b5:BoxC w5 X (iV S.p) (.slice ra0 S.rs.length rc0) (.slice oa0 S.os.length oc0) (iV S.c):=⟨(zH hB5).trans b.1,(zH hB5).trans b.2.1,(zH hB5).trans b.2.2.1,(zH hB5).trans b.2.2.2⟩
 refine ⟨⟨ra,rc,oa,oc,(((r.setX h.ne nX _ _).setX h.ne nX _ _).setX h.ne nX _ _).setX h.ne nX _ _⟩,⟨ra,rc,oa,oc,qoz b5 _ _ _ _,(((r.tl.own.setOut nX _ _).setOut nX _ _).setOut nX _ _).setOut nX _ _,nX⟩,fun j=>?_,h.ne⟩;simp only [World.frozen?_setCell];rw [zI hB5];exact h.fs j
theorem qq2 (gb n gc:Nat) (ea:Option Addr) (m ec:Nat) (g:Nat->I5) (eh:Nat->E3) (w:World) (hn:n<=maxLen) (hg:gb<w.heap.size) (hI:qaq w gb 0 n g) (hp:qaa g n 4=true) (hE:EvL w ea m eh) (hm:m<=1048576):
  Calls prog 100 #[.slice (some (aQ gb 0)) n gc,.slice ea m ec] w (AllR w (repO g n eh m)):=by
 have HI:Hid (qaq w gb 0 n g):=hI;have HE:Hid (EvL w ea m eh):=hE;have HP:Hid (qaa g n 4=true):=hp;have HL:Hid (n<=maxLen):=hn;have hm':(m:Int)<=1048576:=by omega
 have HO:Hid (repO g n eh m=if m<=200 then rp g n eh m else none):=by
  show repO g n eh m=_;unfold repO;by_cases h2:m<=200
  ·rw [nC ⟨hp,h2⟩,nC h2]
  ·rw [nB (by omega),nB h2]
 clear hI hn hp hE;have bA:=zT w (zQ0);have BA:Hid (Bw w (w.alloc (zQ0))):=bA;have NB:Hid (BoxC (w.alloc (zQ0)) w.heap.size (iV 0) nS nS (iV 0)/\∀ j,(w.alloc (zQ0)).frozen? ⟨w.heap.size,j,none⟩=false):=⟨BoxC.new w _ _ _ _ _,fun j=>yB _ _ _ j rfl⟩
 clear bA;generalize hRO:repO g n eh m=O at *
 go_enter func100,ntmps100
 go_wp2_with fail
 have hz:(w.alloc (zQ0)).heap.size=w.heap.size+1:=by simp
 generalize w.alloc (zQ0)=wa at *;refine (qtp gb n gc g wa HL.out (zL hg BA.size) (HI.bw BA.out hg) HP.out).mono ?_;rintro e w1 ⟨A,B,C,ra,rc,oa,oc,rfl,R1⟩;have HR1:Hid (Rn wa w1 A B C gb n gc 0 0 0 ra rc oa oc [0,0,0,0] []):=R1;clear R1;go_wp2_with fail
 refine (qdy _).mono ?_;rintro e w2 ⟨v2,rfl,o2,b2⟩;obtain ⟨ra2,rc2,oa2,oc2,rfl,-,-⟩:=o2.read;have HR2:Hid (Rn wa w2 A B C gb n gc 0 0 0 ra rc oa oc [0,0,0,0] []):=HR1.bw b2;have O2:Hid (qac w2 w1.heap.size (stV 0 ra2 4 rc2 oa2 0 oc2 0) 0 [0,0,0,0] [] 0):=o2;have zX:=b2.size
 have HRA:Hid (Ra wa (w2.alloc (oQ0 0 ra2 4 rc2 oa2 0 oc2 0)) A B C w2.heap.size gb n gc 0 newS):=by
  have zA:A<w2.heap.size:=zJ w2 _ HR2.la;have zB:B<w2.heap.size:=HR2.tl.hi;have zC:C<w2.heap.size:=zJ w2 _ HR2.ck;have hbe:=HR2.be.size;have hbe1:=HR1.be.size;refine ⟨⟨_,_,_,_,HR2.bw (zT _ _)⟩,⟨ra2,rc2,oa2,oc2,BoxC.new w2 _ _ _ _ _,(O2.bw (zT _ _)).mono hbe1,fun e=>?_⟩,fun j=>yB _ _ _ j rfl,by omega,by omega,by omega,hbe⟩;have:=(O2.lt e).2;omega
 clear o2 b2 O2 HR1 HR2;go_wp2_with fail
 generalize w2.alloc (oQ0 0 ra2 4 rc2 oa2 0 oc2 0)=w3 at *
 have HZ:Hid (w.heap.size<wa.heap.size):=by
  show w.heap.size<wa.heap.size;omega
 generalize w2.heap.size=X at *;clear zX hz
 go_loopw [23] (fun i wr=>∃ k:Nat,k<=m/\i=.int .i64 k/\Hid (k<=200/\∃ S,rp g n eh k=some S/\OkS n S/\Ra wa wr A B C X gb n gc k S)) (fun i _=>m - (intOf i).toNat)
 case atStart=>exact ⟨0,nD _,rfl,by omega,newS,rfl,qka HP.out,HRA.out⟩
 case round=>
  clear HRA;obtain ⟨k,hk,rfl,HK⟩:=hrel;obtain ⟨hk2,S,hrp,hok,hra⟩:=HK.out;obtain ⟨sra,src,soa,soc,⟨s0,s1,s2,s3⟩,sown,snb⟩:=hra.sb
  have hbe:Bw w wr:=by
   obtain ⟨_,_,_,_,r⟩:=hra.rn;exact BA.trans (r.be.mono BA.size)
  by_cases hlt:k<m
  ·have hlt':(k:Int)<(m:Int):=by omega
   obtain ⟨eb,eo,rfl,-,c0,c1,c2⟩:=(HE.bw hbe).at hlt;have HRP:Hid (rp g n eh k=some S):=hrp;have HOK:Hid (OkS n S):=hok;have HRa:Hid (Ra wa wr A B C X gb n gc k S):=hra;have HK2:Hid (k<=200):=hk2;clear hrp hok hra hk2 sown snb HK s0 s1 s2 s3 hbe;go_wp2_with fail
   have hRq:Ra wa (wr.alloc (oQ2 (eh k).k (eh k).q (eh k).v)) A B C X gb n gc k S:=HRa.bw (zT _ _);generalize wr.alloc (oQ2 (eh k).k (eh k).q (eh k).v)=wq at *;have HRq:Hid (Ra wa wq A B C X gb n gc k S):=hRq;obtain ⟨qra,qrc,qoa,qoc,qrn⟩:=hRq.rn;have hlen:=OkS.len HOK.out;refine (qq3 A B C gb n gc k g S.p S.c qra qrc qoa qoc S.rs S.os _ _ _ wa wq qrn HL.out (zL hg BA.size) (HI.bw BA.out hg) HP.out HK2.out (by omega) (by omega)).mono ?_;rintro e w5 ⟨kp,hd⟩
   have n5:BoxC w5 w.heap.size (iV 0) nS nS (iV 0)/\(∀ j,w5.frozen? ⟨w.heap.size,j,none⟩=false)/\(∃ a b c d,BoxC w5 X a b c d)/\∀ j,w5.frozen? ⟨X,j,none⟩=false:=by
    have zR:w.heap.size<wq.heap.size:=zL HZ.out qrn.be.size;have lB:=qrn.tl.lo;have lC:=qrn.ne.2.2.2.2;have hz:=HZ.out;have eR:w5.heap[w.heap.size]? = wa.heap[w.heap.size]?:=(kp.2 _ zR (by omega) (by omega)).trans (qrn.be.block _ HZ.out);obtain ⟨xra,xrc,xoa,xoc,xb,-,-⟩:=hRq.sb;have eX:w5.heap[X]? = wq.heap[X]?:=kp.2 X (zJ wq _ xb.1) hRq.ne.2.1 hRq.ne.2.2.1;obtain ⟨a0,a1,a2,a3⟩:=NB.1;exact ⟨⟨(zH eR).trans a0,(zH eR).trans a1,(zH eR).trans a2,(zH eR).trans a3⟩,fun j=>(zI eR).trans (NB.2 j),⟨_,_,_,_,(zH eX).trans xb.1,(zH eX).trans xb.2.1,(zH eX).trans xb.2.2.1,(zH eX).trans xb.2.2.2⟩,fun j=>(zI eX).trans (hRq.fs j)⟩
   obtain ⟨⟨r0,r1,r2,r3⟩,rf,⟨xa,xb,xc,xd,x0,x1,x2,x3⟩,xf⟩:=n5
   have hRX:w.heap.size≠X:=by
    have:=hRq.ne.2.2.2;have:=HZ.out;omega
   have hXR:X≠w.heap.size:=fun e=>hRX e.symm
   rcases hd with ⟨tT,tk,ra7,rc7,oa7,oc7,rfl,R7,J7⟩ | ⟨tF,rfl,be7⟩
   ·have HN:Hid (Ra wa _ A B C X gb n gc (k+1) (doS g n S.p S.rs S.os S.c (eh k).k (eh k).q (eh k).v)):=hRq.next kp R7 J7
    have HS':Hid (rp g n eh (k+1)=some (doS g n S.p S.rs S.os S.c (eh k).k (eh k).q (eh k).v)):=qtl HRP.out tT;have HO':Hid (OkS n (doS g n S.p S.rs S.os S.c (eh k).k (eh k).q (eh k).v)):=qo2 tT
    have HK3:Hid (k+1<=200):=by
     show k+1<=200;have:=HK2.out;omega
    generalize doS g n S.p S.rs S.os S.c (eh k).k (eh k).q (eh k).v=S' at *;clear R7 J7 qrn hRq kp tT tk r0 r1 r2 r3 rf;go_wp2;go_roundw
    case rel=>exact ⟨k+1,by omega,by go_num,HK3.out,S',HS'.out,HO'.out,HN.out⟩
    case measure=>simp [intOf];omega
   ·have HON:Hid (O=none):=by
     show O=none;rw [HO.out]
     rcases tF with tF | tF
     ·by_cases h2:m<=200
      ·rw [nC h2]
       exact qed (qtj HRP.out tF) (by omega)
      ·rw [nB h2]
     ·rw [nB (by omega)]
    have B5:Hid (Bw w w5):=BA.trans (be7.mono BA.size)
    have hwX:w.heap.size<=X:=by
     have:=hRq.ne.2.2.2;have:=HZ.out;omega
    have HW:Hid (w.heap.size<=X):=hwX;clear qrn hRq kp tF be7 hwX;go_wp2;refine bodyPost_ret (v:=.tuple #[stV 0 none 0 0 none 0 0 0,.iface 146 (.agg #[iV k])]) (by simp [results,results100,go_sem,r0,r1,r2,r3]) rfl ?_;rw [HON.out];refine ⟨_,_,rfl,?_,qac.nil _ _,.inr ⟨rfl,_,rfl⟩⟩
    repeat (refine Below.setCell ?_ (by first | exact nA _ | exact HW.out) _)
    exact B5.out
  ·have hkm:k=m:=by omega
   subst hkm
   have HOS:Hid (O=some S):=by
    show O=some S;rw [HO.out,nC hk2];exact hrp
   obtain ⟨r0,r1,r2,r3⟩:BoxC wr w.heap.size (iV 0) nS nS (iV 0):=by
    obtain ⟨_,_,_,_,r⟩:=hra.rn;have eR:wr.heap[w.heap.size]? = wa.heap[w.heap.size]?:=r.be.block _ HZ.out;obtain ⟨a0,a1,a2,a3⟩:=NB.1;exact ⟨(zH eR).trans a0,(zH eR).trans a1,(zH eR).trans a2,(zH eR).trans a3⟩
   have rf:∀ j,wr.frozen? ⟨w.heap.size,j,none⟩=false:=by
    obtain ⟨_,_,_,_,r⟩:=hra.rn;exact fun j=>(zI (r.be.block _ HZ.out)).trans (NB.2 j)
   have HSO:Hid (qac wr wa.heap.size (stV S.p sra S.rs.length src soa S.os.length soc S.c) S.p S.rs S.os S.c):=sown;have HBE:Hid (Bw w wr):=hbe;have hlt':¬ (k:Int)<(k:Int):=by omega
   clear hrp hok hra hk2 sown snb HK hbe;go_wp2;refine bodyPost_ret (v:=.tuple #[stV S.p sra S.rs.length src soa S.os.length soc S.c,.nilIface]) (by simp [results,results100,go_sem,r0,r1,r2,r3]) rfl ?_;rw [HOS.out];refine ⟨_,_,rfl,?_,?_,.inl ⟨rfl,rfl⟩⟩
   ·exact (((HBE.setCell (nA _) _).setCell (nA _) _).setCell (nA _) _).setCell (nA _) _
   ·exact HSO.put4 HZ.out (nJ HZ.out)
open Go.RowKit Go.Extern.Stop Go.Stop Go.Extern
theorem qx4 (x:Int) (t:Addr) (old:Value) (w:World) (hg:w.cell? ⟨0,0,none⟩=some vT) (ht0:w.cell? t=some old) (hf0:w.frozen? t=false):
  Calls prog 101 #[.iface 146 (.agg #[.int .i64 x]),.iface 148 (.pointer (some t))] w fun ev w'=>ev=.returned (.bool true)/\∃ o1 o2 o3 o4,w'=((((w.alloc o1).alloc o2).alloc o3).alloc o4).setCell t (.int .i64 x):=by
 have h6:=@run_callFunc_extern prog 118 _ (fun args=>ReflectliteValue.unpack (args.getD 0 (.tuple #[]))) func118 (by kernel_rfl) (by kernel_rfl) (by kernel_rfl) (by kernel_rfl);have h7 := @run_callFunc_extern prog 119 _ (ReflectliteValue.methodAny (ReflectliteValue.valueError "reflectlite.Value.Type" 0) (fun t _ _ _ => ReflectliteType.toType t)) func119 (by kernel_rfl) (by kernel_rfl) (by kernel_rfl) (by kernel_rfl)
 have h8 := @run_callFunc_extern prog 120 _ (ReflectliteValue.method (ReflectliteValue.valueError "reflectlite.Value.IsNil" 0) ReflectliteValue.isNil) func120 (by kernel_rfl) (by kernel_rfl) (by kernel_rfl) (by kernel_rfl)
 have h27:=@run_callFunc_extern prog 183 _ (ReflectliteType.abiMethod fun t=>do pure (.int .u8 (<- Rtype.kind t))) func183 (by kernel_rfl) (by kernel_rfl) (by kernel_rfl) (by kernel_rfl);have h37:=@run_callFunc_extern prog 193 _ (ReflectliteType.method ReflectliteType.elem) func193 (by kernel_rfl) (by kernel_rfl) (by kernel_rfl) (by kernel_rfl);have h38 := @run_callFunc_extern prog 194 _ (ReflectliteType.relation "Implements" ReflectliteType.implements_) func194 (by kernel_rfl) (by kernel_rfl) (by kernel_rfl) (by kernel_rfl)
 have h10:=@run_callFunc_extern prog 136 _ ReflectliteType.typeOf func136 (by kernel_rfl) (by kernel_rfl) (by kernel_rfl) (by kernel_rfl);have h35 := @run_callFunc_extern prog 191 _ (ReflectliteType.relation "AssignableTo" ReflectliteType.assignableTo) func191 (by kernel_rfl) (by kernel_rfl) (by kernel_rfl) (by kernel_rfl)
 have h11 := @run_callFunc_extern prog 137 _ (ReflectliteValue.method (ReflectliteValue.valueError "reflectlite.Value.Elem" 0) ReflectliteValue.elem) func137 (by kernel_rfl) (by kernel_rfl) (by kernel_rfl) (by kernel_rfl)
 have h12:=@run_callFunc_extern prog 138 _ ReflectliteValue.set func138 (by kernel_rfl) (by kernel_rfl) (by kernel_rfl) (by kernel_rfl);have tO:=qxz;have a25:=qnk;have v25:=qv0;have f6:=qv1;have f7:=qzt;have k27:=qzo;have k25:=qzn;have e27:=qzj;have i25:=qnx;have n8:=qyw ⟨w.heap.size,0,none⟩ t ((w.alloc (.cells #[.pointer (some t)] 148)).alloc (.cells #[.pointer (some ⟨1,148,none⟩),.pointer (some (aQ w.heap.size 0)),.int .u64 150] 171)) (by simp)
 have hlt:0<w.heap.size:=by
  rcases Nat.eq_zero_or_pos w.heap.size with h0 | h
  ·simp [World.cell?,h0] at hg
  ·exact h
 have hg2:((w.alloc (.cells #[.pointer (some t)] 148)).alloc (.cells #[.pointer (some ⟨1,148,none⟩),.pointer (some (aQ w.heap.size 0)),.int .u64 150] 171)).cell? ⟨0,0,none⟩=some vT:=by
  rw [World.cell?_alloc_lt _ _ ⟨0,0,none⟩ (by simp),World.cell?_alloc_lt _ _ ⟨0,0,none⟩ hlt];exact hg
 have htl:t.block<w.heap.size:=by
  rcases Nat.lt_or_ge t.block w.heap.size with h | h
  ·exact h
  ·simp [World.cell?,Array.getElem?_eq_none h] at ht0
 have el := qyf ⟨w.heap.size, 0, none⟩ t (((w.alloc (.cells #[.pointer (some t)] 148)).alloc (.cells #[.pointer (some ⟨1, 148, none⟩), .pointer (some ⟨w.heap.size, 0, none⟩), .int .u64 150] 171)).alloc (.cells #[.pointer (some ⟨1, 148, none⟩), .pointer (some ⟨w.heap.size, 0, none⟩), .int .u64 150] 171)) (by
  rw [World.cell?_alloc_lt _ _ _ (by simp;omega),World.cell?_alloc_lt _ _ _ (by simp),World.cell?_alloc_at _ _ _ _ rfl];rfl)
 have st:=setE t ⟨w.heap.size+1+1+1,0,none⟩ x old ((((w.alloc (.cells #[.pointer (some t)] 148)).alloc (.cells #[.pointer (some ⟨1,148,none⟩),.pointer (some (aQ w.heap.size 0)),.int .u64 150] 171)).alloc (.cells #[.pointer (some ⟨1,148,none⟩),.pointer (some (aQ w.heap.size 0)),.int .u64 150] 171)).alloc (.cells #[.int .i64 x] 146))
  (by rw [World.cell?_alloc_at _ _ _ _ (by simp)];rfl)
  (by rw [World.cell?_alloc_lt _ _ t (by simp;omega),World.cell?_alloc_lt _ _ t (by simp;omega),World.cell?_alloc_lt _ _ t (by simp;omega),World.cell?_alloc_lt _ _ t htl];exact ht0)
  (by rw [World.frozen?_alloc_old _ _ t (by simp;omega),World.frozen?_alloc_old _ _ t (by simp;omega),World.frozen?_alloc_old _ _ t (by simp;omega),World.frozen?_alloc_old _ _ t (Nat.ne_of_lt htl)];exact hf0)
 go_enter func101,ntmps101
 go_wp2;refine wp_loop_rounds 1 ?_;rw [rounds_succ];go_wp2;go_ret;exact ⟨rfl,_,_,_,_,rfl⟩
theorem qg7 (gb n gc:Nat) (ea:Option Addr) (m ec:Nat) (g:Nat->I5) (eh:Nat->E3) (w:World) (hn:n<=maxLen) (hg:gb<w.heap.size) (hI:qaq w gb 0 n g) (hE:EvL w ea m eh) (hm:m<=1048576) (hV:w.cell? (aQ 0 0)=some vT):
  Calls prog 62 #[.slice (some (aQ gb 0)) n gc,.slice ea m ec] w (qc2 w (resS (repO g n eh m)) (repO g n eh m).isSome):=by
 have HI:Hid (qaq w gb 0 n g):=hI;have HE:Hid (EvL w ea m eh):=hE;have HL:Hid (n<=maxLen):=hn;have HV:Hid (w.cell? (aQ 0 0)=some vT):=hV;have hV0:0<w.heap.size:=zJ w _ hV;clear hI hE hn hV;have bA:=zT w (zQ0);have BA:Hid (Bw w (w.alloc (zQ0))):=bA;have NB:Hid (BoxC (w.alloc (zQ0)) w.heap.size (iV 0) nS nS (iV 0)/\∀ j,(w.alloc (zQ0)).frozen? ⟨w.heap.size,j,none⟩=false):=⟨BoxC.new w _ _ _ _ _,fun j=>yB _ _ _ j rfl⟩
 clear bA
 have hrun:∀ wx:World,Bw w wx->Calls prog 100 #[.slice (some ⟨gb,0,none⟩) n gc,.slice ea m ec] wx (AllR wx (repO g n eh m)):=by
  intro wx hb
  rcases zK (qaa g n 4) with tp | tp
  ·exact qq2 gb n gc ea m ec g eh wx HL.out (zL hg hb.size) (HI.bw hb hg) tp (HE.bw hb) hm
  ·exact qto gb n gc ea m ec g eh wx HL.out (zL hg hb.size) (HI.bw hb hg) tp
 have HRn:Hid (∀ wx:World,Bw w wx->Calls prog 100 #[.slice (some ⟨gb,0,none⟩) n gc,.slice ea m ec] wx (AllR wx (repO g n eh m))):=hrun;clear hrun;generalize repO g n eh m=O at *
 go_enter func62,ntmps62
 go_wp2_with fail
 have hz:(w.alloc (zQ0)).heap.size=w.heap.size+1:=by simp
 generalize w.alloc (zQ0)=wa at *;refine (HRn.out wa BA.out).mono ?_;rintro e w1 ⟨v1,err,rfl,b1,o1,hO⟩;obtain ⟨ra1,rc1,oa1,oc1,rfl,-,-⟩:=o1.read;have B1:Hid (Bw w w1):=BA.trans (b1.mono BA.size);have N1:Hid (BoxC w1 w.heap.size (iV 0) nS nS (iV 0)/\∀ j,w1.frozen? ⟨w.heap.size,j,none⟩=false):=⟨NB.1.bw b1,fun j=>(zI (b1.block w.heap.size (by omega))).trans (NB.2 j)⟩
 have O1:Hid (qac w1 wa.heap.size (stV (resS O).p ra1 (resS O).rs.length rc1 oa1 (resS O).os.length oc1 (resS O).c) (resS O).p (resS O).rs (resS O).os (resS O).c):=o1;have z1:=b1.size;have zw:w.heap.size<w1.heap.size:=by omega
 clear o1 b1 BA NB;have bq0:=zT w1 (oQ0 (resS O).p ra1 (resS O).rs.length rc1 oa1 (resS O).os.length oc1 (resS O).c);have bq1:=zT (w1.alloc (oQ0 (resS O).p ra1 (resS O).rs.length rc1 oa1 (resS O).os.length oc1 (resS O).c)) (.cells #[iV 0] 146);have bq:Bw w1 ((w1.alloc (oQ0 (resS O).p ra1 (resS O).rs.length rc1 oa1 (resS O).os.length oc1 (resS O).c)).alloc (.cells #[iV 0] 146)):=bq0.trans (bq1.mono bq0.size);have BQ:Hid (Bw w ((w1.alloc (oQ0 (resS O).p ra1 (resS O).rs.length rc1 oa1 (resS O).os.length oc1 (resS O).c)).alloc (.cells #[iV 0] 146))):=B1.trans (bq.mono B1.size);have NQ:Hid (BoxC ((w1.alloc (oQ0 (resS O).p ra1 (resS O).rs.length rc1 oa1 (resS O).os.length oc1 (resS O).c)).alloc (.cells #[iV 0] 146)) w.heap.size (iV 0) nS nS (iV 0)/\∀ j,((w1.alloc (oQ0 (resS O).p ra1 (resS O).rs.length rc1 oa1 (resS O).os.length oc1 (resS O).c)).alloc (.cells #[iV 0] 146)).frozen? ⟨w.heap.size,j,none⟩=false):=⟨N1.1.bw bq,fun j=>(zI (bq.block w.heap.size zw)).trans (N1.2 j)⟩
 have OQ:Hid (qac ((w1.alloc (oQ0 (resS O).p ra1 (resS O).rs.length rc1 oa1 (resS O).os.length oc1 (resS O).c)).alloc (.cells #[iV 0] 146)) wa.heap.size (stV (resS O).p ra1 (resS O).rs.length rc1 oa1 (resS O).os.length oc1 (resS O).c) (resS O).p (resS O).rs (resS O).os (resS O).c):=O1.bw bq;have SQ:Hid (BoxC ((w1.alloc (oQ0 (resS O).p ra1 (resS O).rs.length rc1 oa1 (resS O).os.length oc1 (resS O).c)).alloc (.cells #[iV 0] 146)) w1.heap.size (iV (resS O).p) (.slice ra1 (resS O).rs.length rc1) (.slice oa1 (resS O).os.length oc1) (iV (resS O).c)):=(BoxC.new w1 _ _ _ _ _).bw bq1
 have TQ:Hid (((w1.alloc (oQ0 (resS O).p ra1 (resS O).rs.length rc1 oa1 (resS O).os.length oc1 (resS O).c)).alloc (.cells #[iV 0] 146)).cell? ⟨w1.heap.size+1,0,none⟩=some (iV 0)/\((w1.alloc (oQ0 (resS O).p ra1 (resS O).rs.length rc1 oa1 (resS O).os.length oc1 (resS O).c)).alloc (.cells #[iV 0] 146)).frozen? ⟨w1.heap.size+1,0,none⟩=false/\w1.heap.size+2=((w1.alloc (oQ0 (resS O).p ra1 (resS O).rs.length rc1 oa1 (resS O).os.length oc1 (resS O).c)).alloc (.cells #[iV 0] 146)).heap.size):=by
  have h1:=zW (w1.alloc (oQ0 (resS O).p ra1 (resS O).rs.length rc1 oa1 (resS O).os.length oc1 (resS O).c)) #[iV 0] 146 0 rfl;have h2:=yB (w1.alloc (oQ0 (resS O).p ra1 (resS O).rs.length rc1 oa1 (resS O).os.length oc1 (resS O).c)) #[iV 0] 146 0 rfl
  (try dsimp only [aW] at h1 h2);rw [World.size_alloc] at h1 h2
  exact ⟨h1,h2,by simp⟩
 clear bq0 bq1 bq N1 O1 B1
 rcases hO with ⟨tO,rfl⟩ | ⟨tO,x,rfl⟩
 ·have HT:Hid (O.isSome=true):=tO
  clear tO;go_wp2_with fail
  generalize (w1.alloc (oQ0 (resS O).p ra1 (resS O).rs.length rc1 oa1 (resS O).os.length oc1 (resS O).c)).alloc (.cells #[iV 0] 146)=wq at *;refine (qx5 _ wq).mono ?_;rintro e w2 ⟨rfl,rfl⟩;obtain ⟨⟨r0,r1,r2,r3⟩,rf⟩:=NQ.out;obtain ⟨s0,s1,s2,s3⟩:=SQ.out;have hne:w1.heap.size≠w.heap.size:=by omega
  go_wp2;refine bodyPost_ret (v:=.tuple #[stV (resS O).p ra1 (resS O).rs.length rc1 oa1 (resS O).os.length oc1 (resS O).c,.bool true]) (by simp [results,results62,go_sem,r0,r1,r2,r3]) rfl ?_;rw [HT.out];refine ⟨_,rfl,?_,?_⟩
  ·exact OQ.put4 (by omega) (by omega)
  ·exact (((BQ.setCell (nA _) _).setCell (nA _) _).setCell (nA _) _).setCell (nA _) _
 ·have HT:Hid (O=none):=by
   cases O with
   | none=>rfl
   | some S=>cases tO
  clear tO;go_wp2_with fail
  generalize (w1.alloc (oQ0 (resS O).p ra1 (resS O).rs.length rc1 oa1 (resS O).os.length oc1 (resS O).c)).alloc (.cells #[iV 0] 146)=wq at *;refine (qx4 x ⟨w1.heap.size+1,0,none⟩ (iV 0) wq ((BQ.cell (p:=(aQ 0 0)) hV0).trans HV.out) TQ.1 TQ.2.1).mono ?_;rintro e w2 ⟨rfl,o1,o2,o3,o4,rfl⟩
  have b2:Below (w1.heap.size+1) wq (((((wq.alloc o1).alloc o2).alloc o3).alloc o4).setCell ⟨w1.heap.size+1,0,none⟩ (iV x)):=by
   have hq:=TQ.2.2;exact (((((nE (w1.heap.size+1) wq).alloc (by omega) o1).alloc (by simp;omega) o2).alloc (by simp;omega) o3).alloc (by simp;omega) o4).setCell (nA _) _
  have eR:=b2.block w.heap.size (by omega);have B2:Hid (Bw w (((((wq.alloc o1).alloc o2).alloc o3).alloc o4).setCell ⟨w1.heap.size+1,0,none⟩ (iV x))):=BQ.trans (b2.mono (by omega))
  have N2:Hid (BoxC (((((wq.alloc o1).alloc o2).alloc o3).alloc o4).setCell ⟨w1.heap.size+1,0,none⟩ (iV x)) w.heap.size (iV 0) nS nS (iV 0)/\∀ j,(((((wq.alloc o1).alloc o2).alloc o3).alloc o4).setCell ⟨w1.heap.size+1,0,none⟩ (iV x)).frozen? ⟨w.heap.size,j,none⟩=false):=by
   obtain ⟨⟨a0,a1,a2,a3⟩,af⟩:=NQ.out;exact ⟨⟨(zH eR).trans a0,(zH eR).trans a1,(zH eR).trans a2,(zH eR).trans a3⟩,fun j=>(zI eR).trans (af j)⟩
  clear b2 eR NQ SQ OQ TQ BQ;generalize ((((wq.alloc o1).alloc o2).alloc o3).alloc o4).setCell ⟨w1.heap.size+1,0,none⟩ (iV x)=w3 at *;obtain ⟨⟨r0,r1,r2,r3⟩,rf⟩:=N2.out;go_wp2;refine bodyPost_ret (v:=.tuple #[stV 0 none 0 0 none 0 0 0,.bool false]) (by simp [results,results62,go_sem,r0,r1,r2,r3]) rfl ?_;rw [HT.out];exact ⟨_,rfl,qac.nil _ _,(((B2.setCell (nA _) _).setCell (nA _) _).setCell (nA _) _).setCell (nA _) _⟩
open Go.ChangeShapes Go.WideShapes Go.ChangeAt Go.Deep
structure SysB (w:World) (X:Nat) (x:SysIn):Prop where
 c0:w.cell? (aQ X 0)=some (.slice x.pa x.pn x.pc)
 c1:w.cell? (aQ X 1)=some (.slice x.sa x.sn x.sc)
 c2:w.cell? (aQ X 2)=some (.slice x.wa x.wn x.wc)
 c3:w.cell? (aQ X 3)=some (.slice x.ha x.hn x.hc)
 c4:w.cell? (aQ X 4)=some (.slice x.ha x.hn x.hc)
theorem SysB.lt {w:World} {X:Nat} {x:SysIn} (h:SysB w X x):X<w.heap.size:=zJ w _ h.c0
theorem SysB.blk {w w':World} {X:Nat} {x:SysIn} (h:SysB w X x) (hb:w'.heap[X]? = w.heap[X]?):SysB w' X x:=
 ⟨(zH hb).trans h.c0,(zH hb).trans h.c1,(zH hb).trans h.c2,(zH hb).trans h.c3,(zH hb).trans h.c4⟩
theorem SysB.bw {w w':World} {X:Nat} {x:SysIn} (h:SysB w X x) (hb:Bw w w'):SysB w' X x:=h.blk (hb.block X h.lt)
theorem qok (X:Nat) (x:SysIn) (w:World) (hB:SysB w X x) (hG:SysG w x) (hL:x.Len):
  Calls prog 40 #[.pointer (some ⟨X,0,none⟩)] w (rB w (.bool (qB (∀ p,p<x.pn->qaa (x.pH p) (x.pL p) x.pn=true)))):=by
 have HB:Hid (SysB w X x):=hB;have HG:Hid (SysG w x):=hG;have HL:Hid x.Len:=hL;have hpn:(x.pn:Int)<=1048576:=by have:=hL.p.1;omega
 obtain ⟨b0,-,-,-,-⟩:=hB;clear hG hL
 go_enter func40,ntmps40
 go_wp2_with fail
 clear b0
 go_loopw [11] (fun i wr=>∃ k:Nat,k<=x.pn/\i=.int .i64 k/\Bw w wr/\Hid (∀ j,j<k->qaa (x.pH j) (x.pL j) x.pn=true)) (fun i _=>x.pn - (intOf i).toNat)
 case atStart=>exact ⟨0,nD _,rfl,nE _ _,fun j hj=>by omega⟩
 case round=>
  obtain ⟨k,hk,rfl,hbw,HZ⟩:=hrel;obtain ⟨b0,-,-,-,-⟩:=HB.bw hbw;by_cases hlt:k<x.pn
  ·have hlt':(k:Int)<(x.pn:Int):=by omega
   obtain ⟨bp,op,ep,ck⟩:=(HG.bw hbw).p.at hlt;obtain ⟨b,eb,hbl,hI⟩:=(HG.bw hbw).pi k hlt;rw [eb] at ck;rw [ep] at b0;rw [ep];have HI:Hid (qaq wr b 0 (x.pL k) (x.pH k)):=hI
   have hml:x.pL k<=maxLen:=by
    have:=HL.p.2 k hlt;unfold maxLen;omega
   have HM:Hid (x.pL k<=maxLen):=hml;clear hI hml;go_wp2_with fail
   refine (qdd b 0 (x.pL k) _ (x.pH k) x.pn wr HM.out hbl HI.out).mono ?_;rintro e w1 ⟨rfl,b1⟩;have B1:Hid (Bw w w1):=hbw.trans (b1.mono hbw.size);clear b1 b0 ck
   rcases zK (qaa (x.pH k) (x.pL k) x.pn) with t | t
   ·have HZ':Hid (∀ j,j<k+1->qaa (x.pH j) (x.pL j) x.pn=true):=fun j hj=>by
     by_cases e:j=k
     ·subst e
      exact t
     ·exact HZ.out j (by omega)
    rw [t];clear HZ t;go_wp2;go_roundw
    case rel=>exact ⟨k+1,by omega,by go_num,B1.out,HZ'.out⟩
    case measure=>simp [intOf];omega
   ·have HN:Hid (qB (∀ p,p<x.pn->qaa (x.pH p) (x.pL p) x.pn=true)=false):=qax fun h=>by
     have:=h k hlt;rw [t] at this;cases this
    rw [t];clear HZ t;go_wp2;go_ret;rw [HN.out];exact ⟨rfl,B1.out⟩
  ·have HN:Hid (qB (∀ p,p<x.pn->qaa (x.pH p) (x.pL p) x.pn=true)=true):=qa5 fun j hj=>HZ.out j (by omega)
   clear HZ;go_wp2;go_ret;rw [HN.out];exact ⟨rfl,hbw⟩
def SysIn.StP (x:SysIn) (p:Nat):Prop:=repO (x.pH p) (x.pL p) (x.hH p) (x.hL p)=some (x.sS p)
theorem qmt (X:Nat) (x:SysIn) (w:World) (hB:SysB w X x) (hG:SysG w x) (hL:x.Len) (hs:x.sn=x.pn) (hh:x.hn=x.pn) (hV:w.cell? (aQ 0 0)=some vT):
  Calls prog 41 #[.pointer (some ⟨X,0,none⟩)] w (rB w (.bool (qB (∀ p,p<x.pn->x.StP p)))):=by
 have HB:Hid (SysB w X x):=hB;have HG:Hid (SysG w x):=hG;have HL:Hid x.Len:=hL;have HV:Hid (w.cell? (aQ 0 0)=some vT):=hV;have HV0:Hid (0<w.heap.size):=zJ w _ hV;have HS:Hid (x.sn=x.pn/\x.hn=x.pn):=⟨hs,hh⟩
 have hpn:(x.pn:Int)<=1048576:=by have:=hL.p.1;omega
 obtain ⟨b0,-,-,-,-⟩:=hB;clear hG hL hV hs hh
 go_enter func41,ntmps41
 go_wp2_with fail
 clear b0
 go_loopw [13] (fun i wr=>∃ k:Nat,k<=x.pn/\i=.int .i64 k/\Bw w wr/\Hid (∀ j,j<k->x.StP j)) (fun i _=>x.pn - (intOf i).toNat)
 case atStart=>exact ⟨0,nD _,rfl,nE _ _,fun j hj=>by omega⟩
 case round=>
  obtain ⟨k,hk,rfl,hbw,HZ⟩:=hrel;obtain ⟨-,-,-,-,b4⟩:=HB.bw hbw;by_cases hlt:k<x.pn
  ·have hlt':(k:Int)<(x.pn:Int):=by omega
   have hkh:k<x.hn:=by have:=HS.out;omega
   have hks:k<x.sn:=by have:=HS.out;omega
   have hkh':(k:Int)<(x.hn:Int):=by omega
   have hks':(k:Int)<(x.sn:Int):=by omega
   obtain ⟨bp,op,ep,ck⟩:=(HG.bw hbw).p.at hlt;obtain ⟨b,eb,hbl,hI⟩:=(HG.bw hbw).pi k hlt;obtain ⟨bh,oh,eh,ch⟩:=(HG.bw hbw).h.at hkh;rw [eb] at ck;rw [eh] at b4;rw [ep];have EH:Hid (x.ha=some (aQ bh oh)):=eh;have HI:Hid (qaq wr b 0 (x.pL k) (x.pH k)):=hI
   have hml:x.pL k<=maxLen:=by
    have:=HL.p.2 k hlt;unfold maxLen;omega
   have HM:Hid (x.pL k<=maxLen):=hml;have HE:Hid (EvL wr (x.hA k) (x.hL k) (x.hH k)):=(HG.bw hbw).hi k hkh;have HLk:Hid (x.hL k<=1048576):=HL.h.2 k hkh;clear hI hml ep eh eb;go_wp2_with fail
   refine (qg7 b (x.pL k) _ (x.hA k) (x.hL k) _ (x.pH k) (x.hH k) wr HM.out hbl HI.out HE.out HLk.out ((hbw.cell (p:=(aQ 0 0)) HV0.out).trans HV.out)).mono ?_;rintro e w1 ⟨v1,rfl,o1,b1⟩;obtain ⟨ra,rc,oa,oc,rfl,s1,s2⟩:=o1.read;generalize hR:resS (repO (x.pH k) (x.pL k) (x.hH k) (x.hL k))=R at *;generalize hT:(repO (x.pH k) (x.pL k) (x.hH k) (x.hL k)).isSome=T at *;have HO:Hid (resS (repO (x.pH k) (x.pL k) (x.hH k) (x.hL k))=R/\(repO (x.pH k) (x.pL k) (x.hH k) (x.hL k)).isSome=T):=⟨hR,hT⟩
   have hRl:=qpp (x.pH k) (x.pL k) (x.hH k) (x.hL k);rw [hR] at hRl;have HRL:Hid (R.rs.length<=1048576/\R.os.length<=1048576):=hRl;have B1:Hid (Bw w w1):=hbw.trans (b1.mono hbw.size);have N2:Hid (BoxC (w1.alloc (oQ0 R.p ra R.rs.length rc oa R.os.length oc R.c)) w1.heap.size (iV R.p) (.slice ra R.rs.length rc) (.slice oa R.os.length oc) (iV R.c)):=BoxC.new w1 _ _ _ _ _;have B2:Hid (Bw w (w1.alloc (oQ0 R.p ra R.rs.length rc oa R.os.length oc R.c))):=B1.trans ((zT _ _).mono B1.size);have S2:Hid (Sl (w1.alloc (oQ0 R.p ra R.rs.length rc oa R.os.length oc R.c)) ra R.rs/\Sl (w1.alloc (oQ0 R.p ra R.rs.length rc oa R.os.length oc R.c)) oa R.os):=⟨s1.bw (zT _ _),s2.bw (zT _ _)⟩
   clear o1 b1 s1 s2 ck ch b4 HI HE hbw hR hT hRl B1
   rcases zK T with rfl | rfl
   ·have HP:Hid (eqS R (x.sS k)=true ↔ x.StP k):=by
     show eqS R (x.sS k)=true ↔ x.StP k;rw [qrv];unfold SysIn.StP;cases hr:repO (x.pH k) (x.pL k) (x.hH k) (x.hL k) with
     | none=>have:=HO.2;rw [hr] at this;cases this
     | some S0=>
      have:=HO.1;rw [hr] at this;rw [show S0=R from this];exact ⟨fun e=>by rw [e],fun e=>Option.some.inj e⟩
    go_wp2_with fail
    generalize w1.alloc (oQ0 R.p ra R.rs.length rc oa R.os.length oc R.c)=w2 at *;generalize w1.heap.size=Y at *;obtain ⟨k0,k1,k2,k3⟩:=N2.out;obtain ⟨-,x1,-,-,-⟩:=HB.bw B2.out;obtain ⟨bs,os,es,s0,s1,s2,s3⟩:=(HG.bw B2.out).s.at hks;rw [es] at x1;have HST:Hid (Sl w2 (x.sQ k).ra (x.sQ k).rs/\Sl w2 (x.sQ k).oa (x.sQ k).os):=(HG.bw B2.out).s.lst k hks;have HSL:Hid ((x.sQ k).rs.length<=1048576/\(x.sQ k).os.length<=1048576):=HL.s.2 k hks;have k0':=cell_regrown k0;have k1':=cell_regrown k1;have k2':=cell_regrown k2;have k3':=cell_regrown k3;have x1':=cell_regrown x1;have s0':=cell_regrown s0;have s1':=cell_regrown s1;have s2':=cell_regrown s2;have s3':=cell_regrown s3;clear es
    have HC:Hid (∀ d os',Calls prog 75 #[stV R.p ra R.rs.length rc oa R.os.length oc R.c,stV (x.sQ k).p (x.sQ k).ra (x.sQ k).rs.length (x.sQ k).rc (x.sQ k).oa (x.sQ k).os.length (x.sQ k).oc (x.sQ k).c] (grow (redrawn w2 d) os') fun e w'=>e=.returned (.bool (eqS R (x.sS k)))/\Below (grow (redrawn w2 d) os').heap.size (grow (redrawn w2 d) os') w'):=fun d os'=>
     qgj R (x.sS k) _ _ _ _ _ _ _ _ _ HRL.1 HRL.2 HSL.1 HSL.2 (S2.1.bw (below_regrown w2 d os')) (S2.2.bw (below_regrown w2 d os')) (HST.1.bw (below_regrown w2 d os')) (HST.2.bw (below_regrown w2 d os'))
    refine wp_region_quiet_below (by kernel_rfl) (by kernel_rfl) ?_
    repeat (quiet_step (first|(go_at_call 75;exact Calls.regrown_of (HC.out _ _))))
    refine wpQuiet_nil ?_;intro _ hw';obtain ⟨⟨dq,osq⟩,hw''⟩:=hw';subst hw'';have B3:Hid (Bw w (grow (redrawn w2 dq) osq)):=B2.trans ((below_regrown w2 dq osq).mono B2.size);generalize grow (redrawn w2 dq) osq=w3 at *;clear k0' k1' k2' k3' x1' s0' s1' s2' s3' k0 k1 k2 k3 x1 s0 s1 s2 s3 HC
    rcases zK (eqS R (x.sS k)) with t | t
    ·have HZ':Hid (∀ j,j<k+1->x.StP j):=fun j hj=>by
      by_cases e:j=k
      ·subst e
       exact HP.1 t
      ·exact HZ.out j (by omega)
     rw [t];clear HZ t;go_wp2;go_roundw
     case rel=>exact ⟨k+1,by omega,by go_num,B3.out,HZ'.out⟩
     case measure=>simp [intOf];omega
    ·have HN:Hid (qB (∀ p,p<x.pn->x.StP p)=false):=qax fun h=>by
      have:=HP.2 (h k hlt);rw [t] at this;cases this
     rw [t];clear HZ t;go_wp2;go_ret;rw [HN.out];exact ⟨rfl,B3.out⟩
   ·have HN:Hid (qB (∀ p,p<x.pn->x.StP p)=false):=qax fun h=>by
     have h1:repO (x.pH k) (x.pL k) (x.hH k) (x.hL k)=some (x.sS k):=h k hlt;have h2:=HO.2;rw [h1] at h2;cases h2
    clear HZ;go_wp2_with fail
    generalize w1.alloc (oQ0 R.p ra R.rs.length rc oa R.os.length oc R.c)=w2 at *
    go_quiet (fail)
    go_wp2;go_ret;rw [HN.out];exact ⟨rfl,yC B2.out _⟩
  ·have HN:Hid (qB (∀ p,p<x.pn->x.StP p)=true):=qa5 fun j hj=>HZ.out j (by omega)
   clear HZ;go_wp2;go_ret;rw [HN.out];exact ⟨rfl,hbw⟩
theorem qof (X:Nat) (x:SysIn) (w:World) (hB:SysB w X x) (hG:SysG w x) (hL:x.Len):
  Calls prog 42 #[.pointer (some ⟨X,4,none⟩)] w (rB w (.bool (qB (∀ p,p<x.hn->∀ i,i<x.hL p->belB (x.hH p i).q x.hn=true)))):=by
 have HB:Hid (SysB w X x):=hB;have HG:Hid (SysG w x):=hG;have HL:Hid x.Len:=hL;have hhn:(x.hn:Int)<=1048576:=by have:=hL.h.1;omega
 obtain ⟨-,-,-,-,b4⟩:=hB;clear hG hL
 go_enter func42,ntmps42
 go_wp2_with fail
 clear b4
 go_loopw [12] (fun i wr=>∃ k:Nat,k<=x.hn/\i=.int .i64 k/\Bw w wr/\Hid (∀ j,j<k->∀ i,i<x.hL j->belB (x.hH j i).q x.hn=true)) (fun i _=>x.hn - (intOf i).toNat)
 case atStart=>exact ⟨0,nD _,rfl,nE _ _,fun j hj=>by omega⟩
 case round=>
  obtain ⟨k,hk,rfl,hbw,HZ⟩:=hrel;by_cases hlt:k<x.hn
  ·have hlt':(k:Int)<(x.hn:Int):=by omega
   obtain ⟨bh,oh,eh,ch⟩:=(HG.bw hbw).h.at hlt;have hll:(x.hL k:Int)<=1048576:=by have:=HL.h.2 k hlt;omega
   rw [eh];go_wp2_with fail
   clear ch
   go_loopw [18] (fun i wr=>∃ j:Nat,j<=x.hL k/\i=.int .i64 j/\Bw w wr/\Hid (∀ i,i<j->belB (x.hH k i).q x.hn=true)) (fun i _=>x.hL k - (intOf i).toNat)
   case atStart=>exact ⟨0,nD _,rfl,hbw,fun j hj=>by omega⟩
   case round=>
    clear hbw;obtain ⟨j,hj,rfl,hbw,HY⟩:=hrel;by_cases hjl:j<x.hL k
    ·have hjl':(j:Int)<(x.hL k:Int):=by omega
     obtain ⟨-,-,-,-,b4⟩:=HB.bw hbw;obtain ⟨b,off,ea,-,c0,c1,c2⟩:=((HG.bw hbw).hi k hlt).at hjl;rw [ea];rw [eh] at b4;go_wp2_with fail
     have B2:Hid (Bw w (wr.alloc (oQ2 (x.hH k j).k (x.hH k j).q (x.hH k j).v))):=hbw.trans ((zT _ _).mono hbw.size);have x4:(wr.alloc (oQ2 (x.hH k j).k (x.hH k j).q (x.hH k j).v)).cell? (aQ X 4)=some (.slice (some (aQ bh oh)) x.hn x.hc):=((zT _ _).cell (p:=(aQ X 4)) (zJ wr _ b4)).trans b4;have xe:(wr.alloc (oQ2 (x.hH k j).k (x.hH k j).q (x.hH k j).v)).cell? (aQ wr.heap.size 1)=some (iV (x.hH k j).q):=zW _ _ _ 1 rfl;clear c0 c1 c2 b4;generalize wr.alloc (oQ2 (x.hH k j).k (x.hH k j).q (x.hH k j).v)=w2 at *;have x4':=cell_regrown x4;have xe':=cell_regrown xe;refine wp_region_quiet_below (by kernel_rfl) (by kernel_rfl) ?_
     repeat (quiet_step (first|(go_at_call 76;exact Calls.regrown_same (isBelow_any _ _ _))))
     refine wpQuiet_nil ?_;intro _ hw';obtain ⟨⟨dq,osq⟩,hw''⟩:=hw';subst hw'';have B3:Hid (Bw w (grow (redrawn w2 dq) osq)):=B2.trans ((below_regrown w2 dq osq).mono B2.size);generalize grow (redrawn w2 dq) osq=w3 at *;clear x4' xe' x4 xe
     rcases zK (belB (x.hH k j).q x.hn) with t | t
     ·have HY':Hid (∀ i,i<j+1->belB (x.hH k i).q x.hn=true):=fun i hi=>by
       by_cases e:i=j
       ·subst e
        exact t
       ·exact HY.out i (by omega)
      rw [t];clear HY t;go_wp2;go_roundw
      case rel=>exact ⟨j+1,by omega,by go_num,B3.out,HY'.out⟩
      case measure=>simp [intOf];omega
     ·have HN:Hid (qB (∀ p,p<x.hn->∀ i,i<x.hL p->belB (x.hH p i).q x.hn=true)=false):=qax fun h=>by
       have:=h k hlt j hjl;rw [t] at this;cases this
      rw [t];clear HY t;go_wp2;go_ret;rw [HN.out];exact ⟨rfl,B3.out⟩
    ·have HZ':Hid (∀ p,p<k+1->∀ i,i<x.hL p->belB (x.hH p i).q x.hn=true):=fun p hp i hi=>by
      by_cases e:p=k
      ·subst e
       exact HY.out i (by omega)
      ·exact HZ.out p (by omega) i hi
     clear HZ HY;go_wp2;go_roundw
     case rel=>exact ⟨k+1,by omega,by go_num,hbw,HZ'.out⟩
     case measure=>simp [intOf];omega
  ·have HN:Hid (qB (∀ p,p<x.hn->∀ i,i<x.hL p->belB (x.hH p i).q x.hn=true)=true):=qa5 fun j hj=>HZ.out j (by omega)
   clear HZ;go_wp2;go_ret;rw [HN.out];exact ⟨rfl,hbw⟩
theorem qhp {ops:Array Oper} {o:Oper} {a:Act} {w:World} {K:Act->World->Prop} {Q:Exit->Act->World->Prop} {E:Prop} (hg:o.guard=none) (s x:Operand)
  (ho:o.op=.call { callee:=.builtin .append,args:=#[s,x],argTypes:=#[41,41] })
  (B c:Nat) (v:Value) (a0:Option Addr) (xs ys:List Int) (hs:a.eval s=v) (hx:a.eval x=.slice a0 ys.length c) (hv:OwnI w B v xs) (hy:Sl w a0 ys) (hn:xs.length+ys.length<=4000000) (hB:B<=w.heap.size)
  (h:∀ v' w',OwnI w' B v' (xs ++ ys)->w.grownBy w' v.ownBlock->K (a.put o.dst v') w'):
  if Region.wanted o (yielded ops a.tmps)=true then Oper.wp prog o a w K Q else E:=by
 obtain ⟨v',w',h1,h2,h3,-⟩:=qee w o.type B c v a0 xs ys hv hy hn hB;have hw:Region.wanted o (yielded ops a.tmps)=true:=by simp [Region.wanted,hg]
 rw [nC hw];unfold Oper.wp execOp;simp only [ho,resolve,invoke,builtin,Sem.run_bind,Sem.run_pure,Result.andThen_ok,List.map_toArray,List.map_cons,List.map_nil,hs,hx,h1];exact h v' w' h2 h3
theorem qdl {ops:Array Oper} {o:Oper} {a:Act} {w:World} {K:Act->World->Prop} {Q:Exit->Act->World->Prop} {E:Prop} (hg:o.guard=none) (f:FuncId) (args:Array Operand) (ts:Array TypeId)
  (ho:o.op=.call { callee:=.value (.func f),args:=args,argTypes:=ts }) (vals:Array Value) (hv:args.map a.eval=vals) (hen:∀ vs wx,(callFunc f vs).run prog wx=.ok (.enter f vs) wx) {post:Ending->World->Prop} (hc:Calls prog f vals w post)
  (h:∀ e w',post e w'->∃ v,e=.returned v/\K (a.put o.dst v) w'):
  if Region.wanted o (yielded ops a.tmps)=true then Oper.wp prog o a w K Q else E:=by
 have hw:Region.wanted o (yielded ops a.tmps)=true:=by simp [Region.wanted,hg]
 rw [nC hw]
 have hr:(execOp a.eval o).run prog w=.ok (.enter f vals) w:=by
  unfold execOp;simp [ho,resolve,invoke,hv,hen,Act.eval,Deferred.ofValue]
 unfold Oper.wp;rw [hr,Oper.upon_enter];refine hc.mono fun e w' hp=>?_;obtain ⟨v,rfl,hk⟩:=h e w' hp;exact hk
theorem qt4 (X:Nat) (x:SysIn) (a b:Nat) (w:World) (hB:SysB w X x) (hG:SysG w x) (hL:x.Len) (hb:b<x.hn):
  Calls prog 79 #[.pointer (some (aQ X 4)),iV a,iV b] w fun e w'=>∃ v,e=.returned v/\OwnI w' w.heap.size v (valL (x.hH b) 3 a (x.hL b))/\Bw w w':=by
 have HE:Hid (EvL w (x.hA b) (x.hL b) (x.hH b)):=hG.hi b hb;have HLb:Hid (x.hL b<=1048576):=hL.h.2 b hb;have hb':(b:Int)<(x.hn:Int):=by omega
 obtain ⟨bh,oh,eh,ch⟩:=hG.h.at hb;obtain ⟨-,-,-,-,c4⟩:=hB;rw [eh] at c4;clear hG hL eh
 go_enter func79,ntmps79
 go_wp2_with fail
 refine (qda (x.hA b) (x.hL b) _ (x.hH b) 3 a w HLb.out HE.out).mono ?_;rintro e w1 ⟨v,rfl,o1,b1⟩;have O1:Hid (OwnI w1 w.heap.size v (valL (x.hH b) 3 a (x.hL b))/\Bw w w1):=⟨o1,b1⟩
 clear o1 b1 c4 ch;go_wp2;go_ret;exact ⟨_,rfl,O1.1,O1.2⟩
theorem qvj (X:Nat) (x:SysIn) (a b:Nat) (w:World) (hB:SysB w X x) (hG:SysG w x) (hL:x.Len) (ha:a<x.hn):
  Calls prog 81 #[.pointer (some (aQ X 4)),iV a,iV b] w fun e w'=>∃ v,e=.returned v/\OwnI w' w.heap.size v (valL (x.hH a) 2 b (x.hL a))/\Bw w w':=by
 have HE:Hid (EvL w (x.hA a) (x.hL a) (x.hH a)):=hG.hi a ha;have HLb:Hid (x.hL a<=1048576):=hL.h.2 a ha;have ha':(a:Int)<(x.hn:Int):=by omega
 obtain ⟨bh,oh,eh,ch⟩:=hG.h.at ha;obtain ⟨-,-,-,-,c4⟩:=hB;rw [eh] at c4;clear hG hL eh
 go_enter func81,ntmps81
 go_wp2_with fail
 refine (qda (x.hA a) (x.hL a) _ (x.hH a) 2 b w HLb.out HE.out).mono ?_;rintro e w1 ⟨v,rfl,o1,b1⟩;have O1:Hid (OwnI w1 w.heap.size v (valL (x.hH a) 2 b (x.hL a))/\Bw w w1):=⟨o1,b1⟩
 clear o1 b1 c4 ch;go_wp2;go_ret;exact ⟨_,rfl,O1.1,O1.2⟩
structure SysIn.WyP (x:SysIn) (i:Nat):Prop where
 ok:(decide (x.wL i<=12) && qco (x.wH i) (x.wL i))=true
 eq:valL (x.hH (i % x.pn)) 3 ((i / x.pn:Nat):Int) (x.hL (i % x.pn)) ++ numL (x.wH i) (x.wL i)=valL (x.hH (i / x.pn)) 2 ((i % x.pn:Nat):Int) (x.hL (i / x.pn))
theorem qrj (X:Nat) (x:SysIn) (w:World) (hB:SysB w X x) (hG:SysG w x) (hL:x.Len) (hh:x.hn=x.pn) (hw:x.wn=x.pn*x.pn) (h1:1<=x.pn) (h4:x.pn<=4) (h200:∀ p,p<x.hn->x.hL p<=200):
  Calls prog 43 #[.pointer (some ⟨X,0,none⟩)] w (rB w (.bool (qB (∀ i,i<x.wn->x.WyP i)))):=by
 have HB:Hid (SysB w X x):=hB;have HG:Hid (SysG w x):=hG;have HL:Hid x.Len:=hL;have hwn:(x.wn:Int)<=1048576:=by have:=hL.w.1;omega
 have hp1:(1:Int)<=(x.pn:Int):=by omega
 have hp4:(x.pn:Int)<=4:=by omega
 have hp0:¬ (x.pn:Int)=0:=by omega
 have HS:Hid (x.hn=x.pn/\x.wn=x.pn*x.pn/\1<=x.pn/\x.pn<=4):=⟨hh,hw,h1,h4⟩
 have H2:Hid (∀ p,p<x.hn->x.hL p<=200):=h200;obtain ⟨b0,-,b2,-,-⟩:=hB;clear hG hL hh hw h1 h4 h200
 go_enter func43,ntmps43
 go_wp2_with fail
 clear b0 b2
 go_loopw [20] (fun i wr=>∃ k:Nat,k<=x.wn/\i=.int .i64 k/\Bw w wr/\Hid (∀ j,j<k->x.WyP j)) (fun i _=>x.wn - (intOf i).toNat)
 case atStart=>exact ⟨0,nD _,rfl,nE _ _,fun j hj=>by omega⟩
 case round=>
  obtain ⟨k,hk,rfl,hbw,HZ⟩:=hrel;by_cases hlt:k<x.wn
  ·have hlt':(k:Int)<(x.wn:Int):=by omega
   obtain ⟨bp,op,ep,ck⟩:=(HG.bw hbw).w.at hlt;have HI:Hid (ItL wr (x.wA k) (x.wL k) (x.wH k)):=(HG.bw hbw).wi k hlt;have HLk:Hid (x.wL k<=1048576):=HL.w.2 k hlt;rw [ep];clear ep;go_wp2_with fail
   refine (qt8 (x.wA k) (x.wL k) _ (x.wH k) wr HLk.out HI.out).mono ?_;rintro e w1 ⟨rfl,b1⟩;have B1:Hid (Bw w w1):=hbw.trans (b1.mono hbw.size);have HI1:Hid (ItL w1 (x.wA k) (x.wL k) (x.wH k)):=HI.bw b1;clear b1 ck HI hbw
   rcases zK (decide (x.wL k<=12) && qco (x.wH k) (x.wL k)) with t | t
   case inr=>
    have HN:Hid (qB (∀ i,i<x.wn->x.WyP i)=false):=qax fun h=>by
     have:=(h k hlt).ok;rw [t] at this;cases this
    rw [t];clear HZ t;go_wp2;go_ret;rw [HN.out];exact ⟨rfl,B1.out⟩
   have HT:Hid ((decide (x.wL k<=12) && qco (x.wH k) (x.wL k))=true):=t;have HH:Hid (x.wL k<=12/\∀ p,p<x.hn->x.hL p<=200):=⟨by simp at t;exact t.1,H2.out⟩
   rw [t];clear t
   have hqa:k / x.pn<x.pn:=by
    have h:=HS.out;exact Nat.div_lt_of_lt_mul (by rw [<- h.2.1];exact hlt)
   have hqb:k % x.pn<x.pn:=Nat.mod_lt _ (by have:=HS.out;omega);have eq1:Int.tdiv (k:Int) (x.pn:Int)=((k / x.pn:Nat):Int):=(Int.ofNat_tdiv k x.pn).symm;have eq2:Int.tmod (k:Int) (x.pn:Int)=((k % x.pn:Nat):Int):=(Int.ofNat_tmod k x.pn).symm;have HW:Hid (x.WyP k ↔ valL (x.hH (k % x.pn)) 3 ((k / x.pn:Nat):Int) (x.hL (k % x.pn)) ++ numL (x.wH k) (x.wL k)=valL (x.hH (k / x.pn)) 2 ((k % x.pn:Nat):Int) (x.hL (k / x.pn))):=⟨fun h=>h.eq,fun h=>⟨HT.out,h⟩⟩
   generalize k / x.pn=a at *;generalize k % x.pn=b at *;have ha':(a:Int)<4:=by omega
   have hb':(b:Int)<4:=by omega
   have HAB:Hid (a<x.hn/\b<x.hn):=by have:=HS.out;exact ⟨by omega,by omega⟩
   clear hqa hqb;go_wp2_with fail
   go_quiet (fail)
   have B2:Hid (Bw w (w1.drewN nq)):=yC B1.out _;have HI2:Hid (ItL (w1.drewN nq) (x.wA k) (x.wL k) (x.wH k)):=HI1.out;generalize w1.drewN nq=w2 at *;clear B1 HI1
   have HLs:Hid ((valL (x.hH b) 3 a (x.hL b)).length+(numL (x.wH k) (x.wL k)).length<=4000000):=by
    have h1:=qgs (x.hH b) 3 a (x.hL b);have h2:=qfg (x.wH k) (x.wL k);have h3:=HL.h.2 b HAB.2;have h4:=HLk.out;show _<=_;omega
   have HLs2:Hid ((valL (x.hH b) 3 a (x.hL b) ++ numL (x.wH k) (x.wL k)).length<=1048576/\(valL (x.hH a) 2 b (x.hL a)).length<=1048576):=by
    have h1:=qgs (x.hH b) 3 a (x.hL b);have h2:=qfg (x.wH k) (x.wL k);have h3:=HH.2 b HAB.2;have h4:=HH.1;have h5:=qgs (x.hH a) 2 b (x.hL a);have h6:=HL.h.2 a HAB.1;refine ⟨?_,by omega⟩;rw [List.length_append];omega
   go_wp2_with fail
   go_region_law (first
    | (refine qdl rfl 79 _ _ rfl #[.pointer (some (aQ X 4)),.int .i64 a,.int .i64 b] (by simp [Act.eval,Act.put]) (yA func79) (qt4 X x a b w2.drew (HB.bw B2.drew) (HG.bw B2.drew) HL.out HAB.2) ?_;rintro e w3 ⟨v3,rfl,o3,b3⟩;refine ⟨_,rfl,?_⟩;have O3:Hid (OwnI w3 w2.heap.size v3 (valL (x.hH b) 3 a (x.hL b))):=o3;have B3:Hid (Bw w w3/\w2.heap.size<=w3.heap.size):=⟨B2.drew.trans (b3.mono B2.size),b3.size⟩;clear o3 b3)
    | (refine qdl rfl 80 _ _ rfl #[.slice (x.wA k) (x.wL k) (x.wC k)] (by simp [Act.eval]) (yA func80) (qjy (x.wA k) (x.wL k) _ (x.wH k) w3 HLk.out ((HG.bw B3.1).wi k hlt)) ?_;rintro e w4 ⟨v4,rfl,o4,b4⟩;refine ⟨_,rfl,?_⟩;obtain ⟨na,nc,rfl,s4⟩:=o4.form;have S4:Hid (Sl w4 na (numL (x.wH k) (x.wL k))):=s4;have O4:Hid (OwnI w4 w2.heap.size v3 (valL (x.hH b) 3 a (x.hL b))):=O3.bw b4;have B4:Hid (Bw w w4/\w2.heap.size<=w4.heap.size):=⟨B3.1.trans (b4.mono B3.1.size),zP B3.2 b4.size⟩;clear o4 b4 s4)
    | (refine qhp rfl _ _ rfl w2.heap.size nc v3 na (valL (x.hH b) 3 a (x.hL b)) (numL (x.wH k) (x.wL k)) (by simp [Act.eval]) (by simp [Act.eval]) O4.out S4.out HLs.out B4.2 ?_;intro v5 w5 o5 g5;obtain ⟨a5,c5,rfl,-⟩:=o5.form;have O5:Hid (OwnI w5 w2.heap.size (.slice a5 (valL (x.hH b) 3 a (x.hL b) ++ numL (x.wH k) (x.wL k)).length c5) (valL (x.hH b) 3 a (x.hL b) ++ numL (x.wH k) (x.wL k))):=o5;have B5:Hid (Bw w w5):=Below.grown B4.1 g5 (zP B2.size B4.2) (fun q hq=>zP B2.size (O4.lt q hq).1);clear o5 g5)
    | (refine qdl rfl 81 _ _ rfl #[.pointer (some (aQ X 4)),.int .i64 a,.int .i64 b] (by simp [Act.eval]) (yA func81) (qvj X x a b w5 (HB.bw B5.out) (HG.bw B5.out) HL.out HAB.1) ?_;rintro e w6 ⟨v6,rfl,o6,b6⟩;refine ⟨_,rfl,?_⟩;obtain ⟨a6,c6,rfl,s6⟩:=o6.form;have S6:Hid (Sl w6 a6 (valL (x.hH a) 2 b (x.hL a))/\Sl w6 a5 (valL (x.hH b) 3 a (x.hL b) ++ numL (x.wH k) (x.wL k))):=⟨s6,O5.slOf.bw b6⟩;have B6:Hid (Bw w w6):=B5.trans (b6.mono B5.size);clear o6 b6 s6)
    | (refine qdl rfl 78 _ _ rfl #[.slice a5 (valL (x.hH b) 3 a (x.hL b) ++ numL (x.wH k) (x.wL k)).length c5,.slice a6 (valL (x.hH a) 2 b (x.hL a)).length c6] (by simp [Act.eval]) (yA func78) (qfs a5 a6 c5 c6 _ _ w6 HLs2.1 HLs2.2 S6.2 S6.1) ?_;rintro e w7 ⟨rfl,b7⟩;refine ⟨_,rfl,?_⟩;have B7:Hid (Bw w w7):=B6.trans (b7.mono B6.size);clear b7))
   clear O3 O4 O5 B3 B4 B5 B6 S4 S6 HLs HLs2
   have HE:Hid (x.WyP k ↔ (valL (x.hH b) 3 a (x.hL b) ++ numL (x.wH k) (x.wL k) == valL (x.hH a) 2 b (x.hL a))=true):=by
    show x.WyP k ↔ (valL (x.hH b) 3 a (x.hL b) ++ numL (x.wH k) (x.wL k) == valL (x.hH a) 2 b (x.hL a))=true;rw [beq_iff_eq];exact HW.out
   generalize (valL (x.hH b) 3 a (x.hL b) ++ numL (x.wH k) (x.wL k) == valL (x.hH a) 2 b (x.hL a))=T at *
   rcases zK T with rfl | rfl
   ·have HZ':Hid (∀ j,j<k+1->x.WyP j):=fun j hj=>by
     by_cases e:j=k
     ·subst e
      exact HE.2 rfl
     ·exact HZ.out j (by omega)
    clear HZ HW;go_wp2;go_roundw
    case rel=>exact ⟨k+1,by omega,by go_num,B7.out,HZ'.out⟩
    case measure=>simp [intOf];omega
   ·have HN:Hid (qB (∀ i,i<x.wn->x.WyP i)=false):=qax fun h=>by
     have:=HE.1 (h k hlt);cases this
    clear HZ HW;go_wp2;go_ret;rw [HN.out];exact ⟨rfl,B7.out⟩
  ·have HN:Hid (qB (∀ i,i<x.wn->x.WyP i)=true):=qa5 fun j hj=>HZ.out j (by omega)
   clear HZ;go_wp2;go_ret;rw [HN.out];exact ⟨rfl,hbw⟩
def sysL (pa:Option Addr) (pn pc:Nat) (sa:Option Addr) (sn sc:Nat) (wa:Option Addr) (wn wc:Nat) (ha:Option Addr) (hn hc:Nat):List Value:=
 [.slice pa pn pc,.slice sa sn sc,.slice wa wn wc,.slice ha hn hc,.slice ha hn hc,iV 0,iV 0,iV 0,iV 0,iV 0,iV 0,iV 0,iV 0,iV 0,iV 0,iV 0,iV 0,iV 0,iV 0,iV 0,iV 0,iV 0,iV 0,iV 0,iV 0]
theorem qhw (pa:Option Addr) (pn pc:Nat) (sa:Option Addr) (sn sc:Nat) (wa:Option Addr) (wn wc:Nat) (ha:Option Addr) (hn hc:Nat):(sysL pa pn pc sa sn sc wa wn wc ha hn hc).length=25:=rfl
theorem qhx (pa:Option Addr) (pn pc:Nat) (sa:Option Addr) (sn sc:Nat) (wa:Option Addr) (wn wc:Nat) (ha:Option Addr) (hn hc:Nat):∀ v ∈ sysL pa pn pc sa sn sc wa wn wc ha hn hc,v.oneCell'=true:=by
 intro v hv;simp only [sysL,List.mem_cons,List.not_mem_nil,or_false] at hv
 rcases hv with rfl | rfl | rfl | rfl | rfl | rfl | rfl | rfl | rfl | rfl | rfl | rfl | rfl | rfl | rfl | rfl | rfl | rfl | rfl | rfl | rfl | rfl | rfl | rfl | rfl <;> rfl
theorem qes:(prog.info? 83).map (·.size)=some 25:=by kernel_rfl
theorem qf7 {fn:Func} {ra rb:Nat} {ty:TypeId} (h:fn.results=#[.cell ra ty,.tmp rb]) (tmps:Array Value) (w:World) (N:Nat) (cs:List Value) (d:TypeDesc) (ha:tmps.getD ra undef=.pointer (some (aQ N 0))) (hc:w.rangeAt N 0 cs) (hu:prog.underlying ty=some d) (hd:d.isRow=true) (hi:(prog.info? ty).map (·.size)=some cs.length):
  (results fn tmps).run prog w=.ok (.tuple #[.agg cs.toArray,tmps.getD rb undef]) w:=by
 have hl:=run_loadVar_mid (P:=prog) w N 0 ty cs d hc hu hd hi;rw [Array.getD_eq_getD_getElem?] at ha;simp [results,h,ha,asAddr,hl]
theorem qel (w:World) (zs:Array Value) (t:TypeId) (n N:Nat) (hn:zs.size=n) (hN:N=w.heap.size):(w.alloc (.cells zs t)).there N 0 n:=fun j hj=>by
 subst hN;refine ⟨?_,yB _ _ _ _ rfl⟩;rw [nL,zW _ _ _ j rfl,Array.getElem?_eq_getElem (by omega)];rfl
theorem qck (pa:Option Addr) (pn pc:Nat) (sa:Option Addr) (sn sc:Nat) (wa:Option Addr) (wn wc:Nat) (ha:Option Addr) (hn hc:Nat) (w:World) (hh:(pn:Int)<1\/(¬ (pn:Int)<1/\(4:Int)<(pn:Int))\/(¬ (pn:Int)<1/\¬ (4:Int)<(pn:Int)/\((sn:Int) != (pn:Int))=true)\/(¬ (pn:Int)<1/\¬ (4:Int)<(pn:Int)/\((sn:Int) != (pn:Int))=false/\((hn:Int) != (pn:Int))=true)\/(¬ (pn:Int)<1/\¬ (4:Int)<(pn:Int)/\((sn:Int) != (pn:Int))=false/\((hn:Int) != (pn:Int))=false/\0<=(pn:Int)*(pn:Int)/\(pn:Int)*(pn:Int)<=16/\((wn:Int) != (pn:Int)*(pn:Int))=true)):
  Calls prog 39 #[sysV pa pn pc sa sn sc wa wn wc ha hn hc] w (rB w (.tuple #[.agg (sysL none 0 0 none 0 0 none 0 0 none 0 0).toArray,.bool false])):=by
 have hl:=qhw none 0 0 none 0 0 none 0 0 none 0 0;have ho:=qhx none 0 0 none 0 0 none 0 0 none 0 0;generalize hcs:sysL none 0 0 none 0 0 none 0 0 none 0 0=cs at *;have HC:Hid (sysL none 0 0 none 0 0 none 0 0 none 0 0=cs):=hcs;have hs:cs.toArray.size=25:=by simpa using hl
 have HT:Hid (((w.alloc (oQ4 pa pn pc sa sn sc wa wn wc ha hn hc)).alloc (zQ5)).there (w.heap.size+1) 0 cs.toArray.size):=qel _ _ _ _ _ (by rw [hs];rfl) (by simp);have HI:Hid ((prog.info? 83).map (·.size)=some cs.length):=by rw [hl];exact qes
 have HO:Hid (cs.toArray.all (·.oneCell')=true):=all_oneCell_toArray ho;have BW:Hid (Bw w ((w.alloc (oQ4 pa pn pc sa sn sc wa wn wc ha hn hc)).alloc (zQ5))):=(zT _ _).trans ((zT _ _).mono (by simp));have BX:Hid (BoxC ((w.alloc (oQ4 pa pn pc sa sn sc wa wn wc ha hn hc)).alloc (zQ5)) w.heap.size (.slice pa pn pc) (.slice sa sn sc) (.slice wa wn wc) (.slice ha hn hc)):=(BoxC.new w _ _ _ _ _).bw (zT _ _);clear hcs hl ho hs
 rcases hh with h1 | ⟨h1,h4⟩ | ⟨h1,h4,h5⟩ | ⟨h1,h4,h5,h6⟩ | ⟨h1,h4,h5,h6,h8,h9,h7⟩
 all_goals
  go_enter func39,ntmps39
  go_upto_region 1 with fail
  generalize ((w.alloc (oQ4 pa pn pc sa sn sc wa wn wc ha hn hc)).alloc (zQ5))=W0 at *;obtain ⟨k0,k1,k2,k3⟩:=BX.out;go_upto_region 3 with fail
  go_wp2_with (refine wpList_store_mid rfl 83 (.tmp 2) (.tmp 37) rfl (w.heap.size+1) 0 cs.toArray rfl (by rw [<- HC.out];rfl) HT.out (by simpa using HI.out) HO.out ?_)
  have HR:Hid ((W0.setCells (w.heap.size+1) 0 cs).rangeAt (w.heap.size+1) 0 cs):=World.rangeAt_setCells_same _ _ _ _ (by simpa using HT.out);have BE:Hid (Bw w (W0.setCells (w.heap.size+1) 0 cs)):=BW.trans ((qaw.sets (P:=fun b=>b=w.heap.size+1) rfl _ _ (qaw.refl _ _)).bw BW.size fun b e=>by omega);clear HT HC BW BX;generalize W0.setCells (w.heap.size+1) 0 cs=W1 at *;exact bodyPost_ret (qf7 results39 _ _ (w.heap.size+1) cs _ rfl HR.out Tryz.underlying83 rfl HI.out) rfl ⟨rfl,BE.out⟩
theorem qmz (pa:Option Addr) (pn pc:Nat) (sa:Option Addr) (sn sc:Nat) (wa:Option Addr) (wn wc:Nat) (ha:Option Addr) (hn hc:Nat) (w:World) (h1:¬ (pn:Int)<1) (h4:¬ (4:Int)<(pn:Int)) (h5:((sn:Int) != (pn:Int))=false) (h6:((hn:Int) != (pn:Int))=false) (h8:0<=(pn:Int)*(pn:Int)) (h9:(pn:Int)*(pn:Int)<=16) (h7:((wn:Int) != (pn:Int)*(pn:Int))=false):
  Calls prog 39 #[sysV pa pn pc sa sn sc wa wn wc ha hn hc] w (rB w (.tuple #[.agg (sysL pa pn pc sa sn sc wa wn wc ha hn hc).toArray,.bool true])):=by
 have hl:=qhw pa pn pc sa sn sc wa wn wc ha hn hc;have ho:=qhx pa pn pc sa sn sc wa wn wc ha hn hc;generalize hcs:sysL pa pn pc sa sn sc wa wn wc ha hn hc=cs at *;have HC:Hid (sysL pa pn pc sa sn sc wa wn wc ha hn hc=cs):=hcs;have hs:cs.toArray.size=25:=by simpa using hl
 have HT:Hid (((w.alloc (oQ4 pa pn pc sa sn sc wa wn wc ha hn hc)).alloc (zQ5)).there (w.heap.size+1) 0 cs.toArray.size):=qel _ _ _ _ _ (by rw [hs];rfl) (by simp);have HI:Hid ((prog.info? 83).map (·.size)=some cs.length):=by rw [hl];exact qes
 have HO:Hid (cs.toArray.all (·.oneCell')=true):=all_oneCell_toArray ho;have BW:Hid (Bw w ((w.alloc (oQ4 pa pn pc sa sn sc wa wn wc ha hn hc)).alloc (zQ5))):=(zT _ _).trans ((zT _ _).mono (by simp));have BX:Hid (BoxC ((w.alloc (oQ4 pa pn pc sa sn sc wa wn wc ha hn hc)).alloc (zQ5)) w.heap.size (.slice pa pn pc) (.slice sa sn sc) (.slice wa wn wc) (.slice ha hn hc)):=(BoxC.new w _ _ _ _ _).bw (zT _ _);clear hcs hl ho hs
 go_enter func39,ntmps39
 go_upto_region 1 with fail
 generalize ((w.alloc (oQ4 pa pn pc sa sn sc wa wn wc ha hn hc)).alloc (zQ5))=W0 at *;obtain ⟨k0,k1,k2,k3⟩:=BX.out;go_upto_region 4 with fail
 go_wp2_with (refine wpList_store_mid rfl 83 (.tmp 2) (.tmp 42) rfl (w.heap.size+1) 0 cs.toArray rfl (by rw [<- HC.out];rfl) HT.out (by simpa using HI.out) HO.out ?_)
 have HR:Hid ((W0.setCells (w.heap.size+1) 0 cs).rangeAt (w.heap.size+1) 0 cs):=World.rangeAt_setCells_same _ _ _ _ (by simpa using HT.out);have BE:Hid (Bw w (W0.setCells (w.heap.size+1) 0 cs)):=BW.trans ((qaw.sets (P:=fun b=>b=w.heap.size+1) rfl _ _ (qaw.refl _ _)).bw BW.size fun b e=>by omega);clear HT HC BW BX;generalize W0.setCells (w.heap.size+1) 0 cs=W1 at *;exact bodyPost_ret (qf7 results39 _ _ (w.heap.size+1) cs _ rfl HR.out Tryz.underlying83 rfl HI.out) rfl ⟨rfl,BE.out⟩
theorem qot (pa:Option Addr) (pn pc:Nat) (sa:Option Addr) (sn sc:Nat) (wa:Option Addr) (wn wc:Nat) (ha:Option Addr) (hn hc:Nat) (w:World) (h:¬ ((1<=pn/\pn<=4)/\sn=pn/\hn=pn/\wn=pn*pn)):
  Calls prog 39 #[sysV pa pn pc sa sn sc wa wn wc ha hn hc] w (rB w (.tuple #[.agg (sysL none 0 0 none 0 0 none 0 0 none 0 0).toArray,.bool false])):=by
 by_cases h1:(pn:Int)<1
 ·exact qck pa pn pc sa sn sc wa wn wc ha hn hc w (.inl h1)
 by_cases h4:(4:Int)<(pn:Int)
 ·exact qck pa pn pc sa sn sc wa wn wc ha hn hc w (.inr (.inl ⟨h1,h4⟩))
 rcases zK ((sn:Int) != (pn:Int)) with h5 | h5
 ·exact qck pa pn pc sa sn sc wa wn wc ha hn hc w (.inr (.inr (.inl ⟨h1,h4,h5⟩)))
 rcases zK ((hn:Int) != (pn:Int)) with h6 | h6
 ·exact qck pa pn pc sa sn sc wa wn wc ha hn hc w (.inr (.inr (.inr (.inl ⟨h1,h4,h5,h6⟩))))
 have h8:0<=(pn:Int)*(pn:Int):=Int.mul_nonneg (by omega) (by omega)
 have h9:(pn:Int)*(pn:Int)<=16:=by
  have:=Int.mul_le_mul (show (pn:Int)<=4 by omega) (show (pn:Int)<=4 by omega) (by omega) (by omega);omega
 rcases zK ((wn:Int) != (pn:Int)*(pn:Int)) with h7 | h7
 ·exact qck pa pn pc sa sn sc wa wn wc ha hn hc w (.inr (.inr (.inr (.inr ⟨h1,h4,h5,h6,h8,h9,h7⟩))))
 ·exfalso
  refine h ⟨⟨by omega,by omega⟩,?_,?_,?_⟩
  ·simp at h5
   omega
  ·simp at h6
   omega
  ·have h7':(wn:Int)=(pn:Int)*(pn:Int):=by simpa using h7
   have:((wn:Nat):Int)=((pn*pn:Nat):Int):=by rw [h7',Int.natCast_mul]
   omega
theorem qou (pa:Option Addr) (pn pc:Nat) (sa:Option Addr) (sn sc:Nat) (wa:Option Addr) (wn wc:Nat) (ha:Option Addr) (hn hc:Nat) (w:World) (h:(1<=pn/\pn<=4)/\sn=pn/\hn=pn/\wn=pn*pn):
  Calls prog 39 #[sysV pa pn pc sa sn sc wa wn wc ha hn hc] w (rB w (.tuple #[.agg (sysL pa pn pc sa sn sc wa wn wc ha hn hc).toArray,.bool true])):=by
 obtain ⟨⟨h1,h4⟩,h5,h6,h7⟩:=h;have h8:0<=(pn:Int)*(pn:Int):=Int.mul_nonneg (by omega) (by omega)
 have h9:(pn:Int)*(pn:Int)<=16:=by
  have:=Int.mul_le_mul (show (pn:Int)<=4 by omega) (show (pn:Int)<=4 by omega) (by omega) (by omega);omega
 exact qmz pa pn pc sa sn sc wa wn wc ha hn hc w (by omega) (by omega) (by simp [h5]) (by simp [h6]) h8 h9 (by rw [h7,Int.natCast_mul];simp)
theorem qy6 {x:SysIn} (hc:(1<=x.pn/\x.pn<=4)/\x.sn=x.pn/\x.hn=x.pn/\x.wn=x.pn*x.pn):
  ((∀ p,p<x.pn->qaa (x.pH p) (x.pL p) x.pn=true)/\(∀ p,p<x.pn->x.StP p)/\(∀ p,p<x.hn->∀ i,i<x.hL p->belB (x.hH p i).q x.hn=true)/\(∀ i,i<x.wn->x.WyP i)/\x.y.hs.Row) ↔ x.y.Ok:=by
 obtain ⟨⟨c1,c4⟩,c5,c6,c7⟩:=hc;refine ⟨fun ⟨a,b,c,d,e⟩=>⟨⟨⟨c1,c4⟩,c5,c6,c7⟩,a,b,fun p hp i hi=>?_,fun p hp q hq=>?_,e⟩,fun h=>⟨h.pr,h.rp,fun p hp i hi=>?_,fun i hi=>?_,h.ro⟩⟩
 ·have hp':p<x.pn:=hp
  have hi':i<x.hL p:=hi;have:=c p (by omega) i hi';simp only [belB,nI] at this;show (x.hH p i).q<(x.pn:Int);omega
 ·have hp':p<x.pn:=hp
  have hq':q<x.pn:=hq
  have hlt:p*x.pn+q<x.wn:=by
   rw [c7];have:(p+1)*x.pn<=x.pn*x.pn:=Nat.mul_le_mul_right _ (by omega);rw [Nat.add_mul] at this;omega
  have h1:(p*x.pn+q) / x.pn=p:=by
   rw [Nat.add_comm,Nat.add_mul_div_right _ _ (by omega),Nat.div_eq_of_lt hq'];omega
  have h2:(p*x.pn+q) % x.pn=q:=by
   rw [Nat.add_comm,Nat.add_mul_mod_self_right,Nat.mod_eq_of_lt hq']
  obtain ⟨ok,eq⟩:=d _ hlt;rw [h1,h2] at eq;simp only [nH,nI] at ok;exact ⟨qeu.1 ok.2,ok.1,eq⟩
 ·have h1:=h.pe p (show p<x.pn by omega) i hi
  have h2:=qko (qbh (h.rp p (show p<x.pn by omega))).2.2 i hi;have h3:(x.hH p i).q<(x.pn:Int):=h1;have h4:0<=(x.hH p i).q:=h2;simp only [belB,nI];omega
 ·have hlt:i<x.pn*x.pn:=by rw [<- c7];exact hi
  have ha:i / x.pn<x.pn:=Nat.div_lt_of_lt_mul hlt;have hb:i % x.pn<x.pn:=Nat.mod_lt _ (by omega);have e:i / x.pn*x.pn+i % x.pn=i:=by rw [Nat.mul_comm];exact Nat.div_add_mod i x.pn
  have h1:WayP (x.wH (i / x.pn*x.pn+i % x.pn)) (x.wL (i / x.pn*x.pn+i % x.pn)) (valL (x.hH (i % x.pn)) 3 ((i / x.pn:Nat):Int) (x.hL (i % x.pn))) (valL (x.hH (i / x.pn)) 2 ((i % x.pn:Nat):Int) (x.hL (i / x.pn))):=h.wa _ ha _ hb;rw [e] at h1;refine ⟨?_,h1.eq⟩;simp only [nH,nI];exact ⟨h1.le,qeu.2 h1.it⟩
theorem SysG.his {w:World} {x:SysIn} (h:SysG w x) (hn:x.hn=x.pn):HisE w x.ha x.hA x.hC x.y.hs:=by
 refine ⟨?_,fun i hi=>h.hi i (by rw [hn];exact hi)⟩;show RowS w x.ha x.pn fun i=>.slice (x.hA i) (x.hL i) (x.hC i);rw [<- hn];exact h.h
theorem SysB.of_range {w:World} {X:Nat} {x:SysIn} (h:w.rangeAt X 0 (sysL x.pa x.pn x.pc x.sa x.sn x.sc x.wa x.wn x.wc x.ha x.hn x.hc)):SysB w X x:=
 ⟨h 0 _ rfl,h 1 _ rfl,h 2 _ rfl,h 3 _ rfl,h 4 _ rfl⟩
theorem HisP.of_range {w:World} {X:Nat} {x:SysIn} (h:w.rangeAt X 0 (sysL x.pa x.pn x.pc x.sa x.sn x.sc x.wa x.wn x.wc x.ha x.hn x.hc)) (hn:x.hn=x.pn) (hf:∀ j,w.frozen? ⟨X,j,none⟩=false):HisP w X x.ha x.hc x.y.hs (fun _=>0):=by
 have hz:∀ j,j<20->w.cell? ⟨X,5+j,none⟩=some (iV 0):=fun j hj=>by
  have h1:(sysL x.pa x.pn x.pc x.sa x.sn x.sc x.wa x.wn x.wc x.ha x.hn x.hc)[5+j]? = some (iV 0):=by
   match j,hj with
   | 0,_=>rfl
   | 1,_=>rfl
   | 2,_=>rfl
   | 3,_=>rfl
   | 4,_=>rfl
   | 5,_=>rfl
   | 6,_=>rfl
   | 7,_=>rfl
   | 8,_=>rfl
   | 9,_=>rfl
   | 10,_=>rfl
   | 11,_=>rfl
   | 12,_=>rfl
   | 13,_=>rfl
   | 14,_=>rfl
   | 15,_=>rfl
   | 16,_=>rfl
   | 17,_=>rfl
   | 18,_=>rfl
   | 19,_=>rfl
   | n+20,h=>exact absurd h (by omega)
  have:=h (5+j) _ h1
  rwa [nL] at this
 refine ⟨?_,fun i hi=>hz i (by omega),fun a b ha hb=>?_,hf⟩
 ·have:=h 4 _ rfl
  show w.cell? (aQ X 4)=some (.slice x.ha x.pn x.hc);rw [<- hn];exact this
 ·rw [Hs.opn_start,show 9+a*4+b=5+(4+a*4+b) by omega]
  exact hz _ (by omega)
theorem qfv (x:SysIn) (w:World) (hG:SysG w x) (hL:x.Len) (hV:w.cell? (aQ 0 0)=some vT):
  Calls prog 15 #[x.v] w (rB w (.bool x.y.okB)):=by
 have HG:Hid (SysG w x):=hG;have HL:Hid x.Len:=hL;have HV:Hid (w.cell? (aQ 0 0)=some vT):=hV;have HV0:Hid (0<w.heap.size):=zJ w _ hV;have bA:=zT w (x.oX);have BA:Hid (Bw w (w.alloc (x.oX))):=bA;clear hG hL hV bA;by_cases hc:(1<=x.pn/\x.pn<=4)/\x.sn=x.pn/\x.hn=x.pn/\x.wn=x.pn*x.pn
 case neg=>
  have HN:Hid (x.y.okB=false):=Sy.okB_false fun h=>hc h.cn;have HC:Hid (¬ ((1<=x.pn/\x.pn<=4)/\x.sn=x.pn/\x.hn=x.pn/\x.wn=x.pn*x.pn)):=hc;clear hc
  go_enter func15,ntmps15
  go_wp2_with fail
  generalize w.alloc (x.oX)=wa at *;refine (qot _ _ _ _ _ _ _ _ _ _ _ _ wa HC.out).mono ?_;rintro e w1 ⟨rfl,b1⟩;have B1:Hid (Bw w w1):=BA.trans (b1.mono BA.size);have hl:=qhw none 0 0 none 0 0 none 0 0 none 0 0;have ho:=qhx none 0 0 none 0 0 none 0 0 none 0 0;generalize sysL none 0 0 none 0 0 none 0 0 none 0 0=cs at *;have hs:cs.toArray.size=25:=by simpa using hl
  have HI:Hid ((prog.info? 83).map (·.size)=some cs.toArray.size):=by rw [hs];exact qes
  have HO:Hid (cs.toArray.all (·.oneCell')=true):=all_oneCell_toArray ho;have HT:Hid ((w1.alloc (zQ5)).there w1.heap.size 0 cs.toArray.size):=qel _ _ _ _ _ (by rw [hs];rfl) rfl;have BE:Hid (Bw w ((w1.alloc (zQ5)).setCells w1.heap.size 0 cs)):=B1.trans ((qaw.sets (P:=fun b=>b=w1.heap.size) rfl _ _ (qaw.of_below (zT _ _))).bw B1.size fun b e=>by have:=B1.size;omega);clear b1 hl ho hs B1;go_upto_region 2 with (refine wpList_store_mid rfl 83 (.tmp 3) (.tmp 8) rfl w1.heap.size 0 cs.toArray rfl rfl HT.out HI.out HO.out ?_)
  clear HT HI HO;generalize (w1.alloc (zQ5)).setCells w1.heap.size 0 cs=w2 at *;go_wp2;go_ret;rw [HN.out];exact ⟨rfl,BE.out⟩
 have HC:Hid ((1<=x.pn/\x.pn<=4)/\x.sn=x.pn/\x.hn=x.pn/\x.wn=x.pn*x.pn):=hc;have HIf:=qy6 hc;have HIF:Hid (((∀ p,p<x.pn->qaa (x.pH p) (x.pL p) x.pn=true)/\(∀ p,p<x.pn->x.StP p)/\(∀ p,p<x.hn->∀ i,i<x.hL p->belB (x.hH p i).q x.hn=true)/\(∀ i,i<x.wn->x.WyP i)/\x.y.hs.Row) ↔ x.y.Ok):=HIf;clear hc HIf
 go_enter func15,ntmps15
 go_wp2_with fail
 generalize w.alloc (x.oX)=wa at *;refine (qou _ _ _ _ _ _ _ _ _ _ _ _ wa HC.out).mono ?_;rintro e w1 ⟨rfl,b1⟩;have B1:Hid (Bw w w1):=BA.trans (b1.mono BA.size);have hl:=qhw x.pa x.pn x.pc x.sa x.sn x.sc x.wa x.wn x.wc x.ha x.hn x.hc;have ho:=qhx x.pa x.pn x.pc x.sa x.sn x.sc x.wa x.wn x.wc x.ha x.hn x.hc;generalize hcs:sysL x.pa x.pn x.pc x.sa x.sn x.sc x.wa x.wn x.wc x.ha x.hn x.hc=cs at *;have hs:cs.toArray.size=25:=by simpa using hl
 have HI:Hid ((prog.info? 83).map (·.size)=some cs.toArray.size):=by rw [hs];exact qes
 have HO:Hid (cs.toArray.all (·.oneCell')=true):=all_oneCell_toArray ho;have HT:Hid ((w1.alloc (zQ5)).there w1.heap.size 0 cs.toArray.size):=qel _ _ _ _ _ (by rw [hs];rfl) rfl;have BE:Hid (Bw w ((w1.alloc (zQ5)).setCells w1.heap.size 0 cs)/\w.heap.size<=w1.heap.size):=⟨B1.trans ((qaw.sets (P:=fun b=>b=w1.heap.size) rfl _ _ (qaw.of_below (zT _ _))).bw B1.size fun b e=>by have:=B1.size;omega),B1.size⟩
 have HR:(((w1.alloc (zQ5)).setCells w1.heap.size 0 cs).rangeAt w1.heap.size 0 cs):=World.rangeAt_setCells_same _ _ _ _ (by simpa using HT.out)
 have HF:∀ j,((w1.alloc (zQ5)).setCells w1.heap.size 0 cs).frozen? ⟨w1.heap.size,j,none⟩=false:=fun j=>by
  rw [World.frozen?_setCells];exact yB _ _ _ _ rfl
 rw [<- hcs] at HR HF
 have SB2:Hid (SysB ((w1.alloc (zQ5)).setCells w1.heap.size 0 cs) w1.heap.size x/\HisP ((w1.alloc (zQ5)).setCells w1.heap.size 0 cs) w1.heap.size x.ha x.hc x.y.hs (fun _=>0)):=by
  rw [<- hcs];exact ⟨SysB.of_range HR,HisP.of_range HR HC.2.2.1 HF⟩
 clear b1 hl ho hs B1 hcs HR HF;go_upto_region 2 with (refine wpList_store_mid rfl 83 (.tmp 3) (.tmp 8) rfl w1.heap.size 0 cs.toArray rfl rfl HT.out HI.out HO.out ?_)
 clear HT HI HO;generalize (w1.alloc (zQ5)).setCells w1.heap.size 0 cs=w2 at *;generalize w1.heap.size=X at *;go_wp2_with fail
 refine (qok X x w2 SB2.1 (HG.bw BE.1) HL.out).mono ?_;rintro e w3 ⟨rfl,b3⟩;have B3:Hid (Bw w w3):=BE.1.trans (b3.mono BE.1.size);have SB3:Hid (SysB w3 X x/\HisP w3 X x.ha x.hc x.y.hs (fun _=>0)):=⟨SB2.1.bw b3,SB2.2.bw b3⟩
 clear b3 SB2;by_cases q1:∀ p,p<x.pn->qaa (x.pH p) (x.pL p) x.pn=true
 case neg=>
  have HN:Hid (x.y.okB=false):=Sy.okB_false fun h=>q1 (HIF.2 h).1;rw [qax q1];clear q1;go_wp2;go_ret;rw [HN.out];exact ⟨rfl,B3.out⟩
 have Q1:Hid (∀ p,p<x.pn->qaa (x.pH p) (x.pL p) x.pn=true):=q1;rw [qa5 q1];clear q1;go_wp2_with fail
 refine (qmt X x w3 SB3.1 (HG.bw B3.out) HL.out HC.2.1 HC.2.2.1 ((B3.cell (p:=(aQ 0 0)) HV0.out).trans HV.out)).mono ?_;rintro e w4 ⟨rfl,b4⟩;have B4:Hid (Bw w w4):=B3.trans (b4.mono B3.size);have SB4:Hid (SysB w4 X x/\HisP w4 X x.ha x.hc x.y.hs (fun _=>0)):=⟨SB3.1.bw b4,SB3.2.bw b4⟩
 clear b4 SB3;by_cases q2:∀ p,p<x.pn->x.StP p
 case neg=>
  have HN:Hid (x.y.okB=false):=Sy.okB_false fun h=>q2 (HIF.2 h).2.1;rw [qax q2];clear q2;go_wp2;go_ret;rw [HN.out];exact ⟨rfl,B4.out⟩
 have Q2:Hid (∀ p,p<x.pn->x.StP p):=q2;have H2:Hid (∀ p,p<x.hn->x.hL p<=200):=fun p hp=>(qbh (Q2.out p (by have:=HC.out;omega))).2.1;rw [qa5 q2];clear q2;go_wp2_with fail
 refine (qof X x w4 SB4.1 (HG.bw B4.out) HL.out).mono ?_;rintro e w5 ⟨rfl,b5⟩;have B5:Hid (Bw w w5):=B4.trans (b5.mono B4.size);have SB5:Hid (SysB w5 X x/\HisP w5 X x.ha x.hc x.y.hs (fun _=>0)):=⟨SB4.1.bw b5,SB4.2.bw b5⟩
 clear b5 SB4;by_cases q3:∀ p,p<x.hn->∀ i,i<x.hL p->belB (x.hH p i).q x.hn=true
 case neg=>
  have HN:Hid (x.y.okB=false):=Sy.okB_false fun h=>q3 (HIF.2 h).2.2.1;rw [qax q3];clear q3;go_wp2;go_ret;rw [HN.out];exact ⟨rfl,B5.out⟩
 have Q3:Hid (∀ p,p<x.hn->∀ i,i<x.hL p->belB (x.hH p i).q x.hn=true):=q3;rw [qa5 q3];clear q3;go_wp2_with fail
 refine (qrj X x w5 SB5.1 (HG.bw B5.out) HL.out HC.2.2.1 HC.2.2.2 HC.1.1 HC.1.2 H2.out).mono ?_;rintro e w6 ⟨rfl,b6⟩;have B6:Hid (Bw w w6):=B5.trans (b6.mono B5.size);have SB6:Hid (SysB w6 X x/\HisP w6 X x.ha x.hc x.y.hs (fun _=>0)):=⟨SB5.1.bw b6,SB5.2.bw b6⟩
 clear b6 SB5;by_cases q4:∀ i,i<x.wn->x.WyP i
 case neg=>
  have HN:Hid (x.y.okB=false):=Sy.okB_false fun h=>q4 (HIF.2 h).2.2.2.1;rw [qax q4];clear q4;go_wp2;go_ret;rw [HN.out];exact ⟨rfl,B6.out⟩
 have Q4:Hid (∀ i,i<x.wn->x.WyP i):=q4;rw [qa5 q4];clear q4
 have HP:Hid x.y.hs.Peers:=fun p hp i hi=>by
  have h1:=Q3.out p (by have:=HC.out;have:p<x.pn:=hp;omega) i hi;simp only [belB,nI] at h1;rw [HC.2.2.1] at h1;exact h1
 go_wp2_with fail
 refine (qp9 X x.ha x.hc x.hA x.hC x.y.hs w w6 (HG.his HC.2.2.1) B6.out BE.2 SB6.2 HC.1.2 HP.out (fun i hi=>H2.out i (by have:=HC.out;have:i<x.pn:=hi;omega))).mono ?_;rintro e w7 ⟨rfl,b7⟩;have B7:Hid (Bw w w7):=b7
 have HN:Hid (qB x.y.hs.Row=x.y.okB):=by
  show qB x.y.hs.Row=x.y.okB;by_cases hr:x.y.hs.Row
  ·rw [qa5 hr,Sy.okB_true (HIF.1 ⟨Q1.out,Q2.out,Q3.out,Q4.out,hr⟩)]
  ·rw [qax hr,Sy.okB_false fun h=>hr (HIF.2 h).2.2.2.2]
 rw [HN.out];clear b7 HN;go_wp2;go_ret;exact ⟨rfl,B7.out⟩
def SlB (w:World) (a0:Option Addr) (xs:List Int):Prop:=
 xs=[]\/∃ b off,a0=some ⟨b,off,none⟩/\b<w.heap.size/\∀ i,i<xs.length->w.cell? ⟨b,off+i,none⟩=some (.int .u8 (zi xs i))
theorem SlB.bw {w w':World} {a0:Option Addr} {xs:List Int} (h:SlB w a0 xs) (hb:Bw w w'):SlB w' a0 xs:=by
 rcases h with h | ⟨b,off,e,hlt,hc⟩
 ·exact .inl h
 ·exact .inr ⟨b,off,e,zL hlt hb.size,fun i hi=>(hb.cell (p:=⟨b,off+i,none⟩) hlt).trans (hc i hi)⟩
theorem SlB.at {w:World} {a0:Option Addr} {xs:List Int} (h:SlB w a0 xs) {k:Nat} (hk:k<xs.length):∃ b off,a0=some (aQ b off)/\b<w.heap.size/\w.cell? ⟨b,off+k,none⟩=some (.int .u8 (zi xs k)):=by
 rcases h with rfl | ⟨b,off,e,hlt,hc⟩
 ·simp at hk
 ·exact ⟨b,off,e,hlt,hc k hk⟩
def OwnB (w:World) (B:Nat) (v:Value) (xs:List Int):Prop:=w.ownsRow B 5 1 v xs.length (xs.map (Value.int .u8))
theorem OwnB.mono {w:World} {B B':Nat} {v:Value} {xs:List Int} (h:OwnB w B v xs) (hb:B'<=B):OwnB w B' v xs:=World.ownsRow.mono h hb
theorem OwnB.kept {w w':World} {B:Nat} {v:Value} {xs:List Int} {row:Option Nat} (h:OwnB w B v xs) (hg:w.grownBy w' row) (hne:v.ownBlock=none\/v.ownBlock≠row):OwnB w' B v xs:=World.ownsRow.kept h hg hne
theorem OwnB.lt {w:World} {B:Nat} {v:Value} {xs:List Int} (h:OwnB w B v xs):∀ k,v.ownBlock=some k->B<=k/\k<w.heap.size:=World.ownsRow.lt h
theorem OwnB.bw {w w':World} {B:Nat} {v:Value} {xs:List Int} (h:OwnB w B v xs) (hb:Bw w w'):OwnB w' B v xs:=by
 refine h.kept (zZ hb) ?_;cases hv:v.ownBlock with
 | none=>exact .inl rfl
 | some k=>exact .inr (by simp)
theorem qdq (xs:List Int) (j:Nat) (hj:j<xs.length):(xs.map (Value.int .u8))[j]? = some (.int .u8 (zi xs j)):=by
 unfold zi;rw [List.getElem?_map,List.getElem?_eq_getElem hj,List.getD_eq_getElem?_getD,List.getElem?_eq_getElem hj];rfl
theorem OwnB.form {w:World} {B:Nat} {v:Value} {xs:List Int} (h:OwnB w B v xs):∃ a0 cap,v=.slice a0 xs.length cap/\SlB w a0 xs:=by
 rcases h.2 with ⟨rfl,h0⟩ | ⟨g,cap,cur,rfl,hb,_⟩
 ·exact ⟨none,0,by rw [h0],.inl (List.eq_nil_of_length_eq_zero h0)⟩
 ·refine ⟨_,cap,rfl,.inr ⟨g,0,rfl,(h.lt g rfl).2,fun i hi=>?_⟩⟩
  rw [nL,World.ownsRow.cellAt h i (by omega)];exact qdq xs i hi
theorem OwnB.block {w:World} {B:Nat} {v:Value} {xs:List Int} (h:OwnB w B v xs) (hn:0<xs.length):∃ g cap,v=.slice (some (aQ g 0)) xs.length cap/\B<=g/\g<w.heap.size:=by
 rcases h.2 with ⟨_,h0⟩ | ⟨g,cap,cur,rfl,hb,_⟩
 ·omega
 ·exact ⟨g,cap,rfl,hb,(h.lt g rfl).2⟩
theorem OwnB.cell {w:World} {B g cap:Nat} {xs:List Int} (h:OwnB w B (sG g xs.length cap) xs) {j:Nat} (hj:j<xs.length):w.cell? (aQ g j)=some (.int .u8 (zi xs j)):=by
 rw [World.ownsRow.cellAt h j (by omega)];exact qdq xs j hj
theorem OwnB.frozen {w:World} {B g cap:Nat} {xs:List Int} (h:OwnB w B (sG g xs.length cap) xs) (j:Nat):w.frozen? (aQ g j)=false:=World.ownsRow.frozenAt h j
theorem OwnB.set {w:World} {B g cap n:Nat} {xs:List Int} (h:OwnB w B (sG g n cap) xs) (hn:n=xs.length) (j:Nat) (x:Int):OwnB (w.setCell (aQ g j) (.int .u8 x)) B (sG g n cap) (xs.set j x)/\w.grownBy (w.setCell (aQ g j) (.int .u8 x)) (some g):=by
 subst hn;have:=World.ownsRow.stored h j (.int .u8 x);unfold OwnB;rw [List.length_set,List.map_set];exact this
theorem quy:(prog.info? 5).map (fun i=>(i.zero,i.size,i.bytes))=some (some (.int .u8 0),1,1):=by kernel_rfl
theorem qrd {w w':World} {b off:Nat} {xs:List Int} (h:SlB w (some ⟨b,off,none⟩) xs) (hb:Bw w w'):∀ j v,(xs.map (Value.int .u8))[j]? = some v->w'.cell? (Addr.add ⟨b,off,none⟩ j)=some v:=by
 intro j v hj
 have hl:j<xs.length:=by
  apply Classical.byContradiction;intro hn;rw [List.getElem?_eq_none (by simp;omega)] at hj;cases hj
 rw [qdq xs j hl] at hj;rw [qox,<- hj];obtain ⟨b',off',e,hlt,hc⟩:=(h.bw hb).at hl;simp only [nG,Addr.mk.injEq,and_true] at e;obtain ⟨rfl,rfl⟩:=e;exact hc
theorem qsw (xs:List Int):∀ v ∈ xs.map (Value.int .u8),v.oneCell'=true:=by
 intro v hv;obtain ⟨x,_,rfl⟩:=List.mem_map.1 hv;rfl
theorem ql3:∃ i,prog.info? 5=some i/\i.zero=some (.int .u8 0)/\i.size=1/\i.bytes=1:=by
 have hinfo:=quy;cases hi:prog.info? 5 with
 | none=>rw [hi] at hinfo;cases hinfo
 | some i=>
  rw [hi] at hinfo;simp only [Option.map_some,nG,Prod.mk.injEq] at hinfo;exact ⟨i,rfl,hinfo⟩
theorem qhn (w:World) (ty:TypeId) (B c:Nat) (v:Value) (xs:List Int) (h:OwnB w B v xs):
  (Builtin.append_ #[22,22] ty #[v,.slice none 0 c]).run prog w=.ok v w:=by
 obtain ⟨i,hi,_⟩:=ql3
 rcases h.2 with ⟨rfl,_⟩ | ⟨g,cap,cur,rfl,_,_,hnc,_⟩
 ·simp [Builtin.append_,run_underlying Tryz.underlying22,sizeOf,typeInfo,hi,Builtin.lenOf,Builtin.firstCells]
 ·simp [Builtin.append_,run_underlying Tryz.underlying22,sizeOf,typeInfo,hi,Builtin.lenOf,Builtin.firstCells,hnc,storeCells]
theorem qho (w:World) (ty:TypeId) (B c:Nat) (v:Value) (a0:Option Addr) (xs ys:List Int) (h:OwnB w B v xs) (hy:SlB w a0 ys) (hn:xs.length+ys.length<=4000000) (hB:B<=w.heap.size):
  ∃ v' w',(Builtin.append_ #[22,22] ty #[v,.slice a0 ys.length c]).run prog w=.ok v' w'/\OwnB w' B v' (xs ++ ys)/\w.grownBy w' v.ownBlock/\(v'.ownBlock=v.ownBlock\/v'.ownBlock=some w.heap.size):=by
 obtain ⟨i,hi,hz,hs,hb⟩:=ql3;cases a0 with
 | none=>
  have hy0:ys=[]:=by
   rcases hy with h0 | ⟨b,off,e,_⟩
   ·exact h0
   ·cases e
  subst hy0;exact ⟨v,w,qhn w ty B c v xs h,by simpa using h,World.grownBy.refl _ _,.inl rfl⟩
 | some a=>
  have hnews:∀ j u,(ys.map (Value.int .u8))[j]? = some u->w.cell? (a.add j)=some u:=by
   rcases hy with h0 | ⟨b,off,e,hlt,hc⟩
   ·subst h0;intro j u hj;simp at hj
   ·cases e
    exact qrd (.inr ⟨b,off,rfl,hlt,hc⟩) (nE _ _)
  obtain ⟨v',w',h1,h2,h3,_,h5⟩:=run_append_own_at (P:=prog) w B 22 ty 5 i (.int .u8 0) 1 1 Tryz.underlying22 hi hz hs hb rfl (by decide) v xs.length (xs.map (Value.int .u8)) h a ys.length c (ys.map (Value.int .u8)) (by simp) hnews (qsw ys) (by unfold maxLen;omega) (by omega) hB;refine ⟨v',w',h1,?_,h3,h5⟩;unfold OwnB;rw [List.length_append,List.map_append];exact h2
theorem qbe {ops:Array Oper} {rest:List Oper} {op:Oper} {act:Act} {Q:Exit->Act->World->Prop} (w:World) (hgd:op.guard=none) (s x:Operand)
  (ho:op.op=.call { callee:=.builtin .append,args:=#[s,x],argTypes:=#[22,22] })
  (B c:Nat) (v:Value) (a0:Option Addr) (xs ys:List Int) (hs:act.eval s=v) (hx:act.eval x=.slice a0 ys.length c) (hv:OwnB w B v xs) (hy:SlB w a0 ys) (hn:xs.length+ys.length<=4000000) (hB:B<=w.heap.size)
  (h:∀ v' w',OwnB w' B v' (xs ++ ys)->w.grownBy w' v.ownBlock->(v'.ownBlock=v.ownBlock\/v'.ownBlock=some w.heap.size)->wpList prog ops Q rest (act.put op.dst v') w'):
  wpList prog ops Q (op :: rest) act w:=by
 obtain ⟨v',w',h1,h2,h3,h4⟩:=qho w op.type B c v a0 xs ys hv hy hn hB;refine wpList_plain hgd fun K hK=>?_;unfold Oper.wp execOp;simp only [ho,resolve,invoke,builtin,Sem.run_bind,Sem.run_pure,Result.andThen_ok,List.map_toArray,List.map_cons,List.map_nil,hs,hx,h1];exact hK _ _ (h v' w' h2 h3 h4)
theorem qcv (w:World):OwnB (w.alloc (.cells #[] 5)) w.heap.size (sG w.heap.size 0 0) []:=
 World.ownsRow_made (base:=w.heap.size) (e:=5) (size:=1) w #[] 0 (nA _) (by unfold maxLen;omega) rfl
theorem qob (w:World) {N:Nat} (h:N=w.heap.size):OwnB (w.alloc (.cells #[] 5)) N (sG N 0 0) []:=by
 subst h;exact qcv w
theorem qbs {ops:Array Oper} {rest:List Oper} {op:Oper} {act:Act} {Q:Exit->Act->World->Prop} (w:World) (hgd:op.guard=none) (s x:Operand)
  (ho:op.op=.call { callee:=.builtin .append,args:=#[s,x],argTypes:=#[22,22] })
  (B:Nat) (v:Value) (xs:List Int) (hs:act.eval s=v) (hv:OwnB w B v xs) (y:Int) (hx:act.eval x=.slice (some (aQ w.heap.size 0)) 1 1) (hn:xs.length<=1048576) (hB:B<=w.heap.size)
  (h:∀ v' w',OwnB w' B v' (xs ++ [y])->Below B w w'->wpList prog ops Q rest (act.put op.dst v') w'):
  wpList prog ops Q (op :: rest) act (w.alloc (.cells #[.int .u8 y] 5)):=by
 have hb:Bw w (w.alloc (.cells #[.int .u8 y] 5)):=(nE _ _).alloc (nA _) _;refine qbe _ hgd s x ho B 1 v (some (aQ w.heap.size 0)) xs [y] hs hx (hv.bw hb) (.inr ⟨w.heap.size,0,rfl,by simp,fun i hi=>?_⟩) (by simp;omega) (by simp;omega) ?_
 ·have:i=0:=by simp at hi;omega
  subst this;exact zW _ _ _ 0 rfl
 ·intro v' w' o g _
  refine h v' w' o (Below.grown (hb.mono hB) g (by simp;omega) (fun k hk=>(hv.lt k hk).1))
theorem OwnB.to {w:World} {B:Nat} {v:Value} {xs ys:List Int} (h:OwnB w B v xs) (e:ys=xs):OwnB w B v ys:=e ▸ h
def fd (x:Int):Nat:=if x<0 then (-2*x - 1).toNat else (2*x).toNat
def fmN:Nat->Nat->List Int
 | 0,n=>[(n:Int)]
 | k+1,n=>if n<128 then [(n:Int)] else ((n % 128+128:Nat):Int) :: fmN k (n / 128)
def puB (x:Int):Bool:=decide (-2000000000<=x/\x<=2000000000)
def puL (x:Int):List Int:=if puB x=true then fmN 4 (fd x) else []
theorem qfd (k n:Nat) (h:n<128):fmN k n=[(n:Int)]:=by
 cases k with
 | zero=>rfl
 | succ k=>rw [fmN,nC h]
theorem qnu (k n:Nat) (h:128<=n) (hk:n<128 ^ (k+1)):∃ j,k=j+1/\n / 128<128 ^ (j+1)/\fmN k n=((n % 128+128:Nat):Int) :: fmN j (n / 128):=by
 cases k with
 | zero=>simp at hk;omega
 | succ k=>
  refine ⟨k,rfl,?_,?_⟩
  ·rw [Nat.pow_succ] at hk
   exact Nat.div_lt_of_lt_mul (by rw [Nat.mul_comm];exact hk)
  ·rw [fmN,nB (by omega)]
theorem qwb:∀ k n,(fmN k n).length<=k+1
 | 0,n=>by simp [fmN]
 | k+1,n=>by
  rw [fmN]
  split
  ·simp
  ·have:=qwb k (n / 128)
   simp;omega
theorem qwc (k n:Nat):0<(fmN k n).length:=by
 cases k with
 | zero=>simp [fmN]
 | succ k=>rw [fmN];split <;> simp
theorem qus (x:Int) (h:puB x=true):fd x<=4000000000:=by
 unfold puB at h;have:=of_decide_eq_true h;unfold fd
 split <;> omega
theorem qil (x:Int):(puL x).length<=5:=by
 unfold puL
 split
 ·exact qwb 4 _
 ·simp
structure PuR (n k r:Nat) (f:List Int):Prop where
 eq:f ++ fmN k r=fmN 4 n
 ln:f.length+k=4
 lt:r<128 ^ (k+1)
 le:r<=4000000000
theorem PuR.new (n:Nat) (h:n<=4000000000):PuR n 4 n []:=⟨rfl,rfl,by omega,h⟩
theorem PuR.step {n k r:Nat} {f:List Int} (h:PuR n k r f) (hr:128<=r):∃ j,PuR n j (r / 128) (f ++ [((r % 128+128:Nat):Int)]):=by
 obtain ⟨j,rfl,hj,e⟩:=qnu k r hr h.lt;refine ⟨j,?_,?_,hj,zP (Nat.div_le_self _ _) h.le⟩
 ·rw [List.append_assoc,List.singleton_append,<- e,h.eq]
 ·have:=h.ln
  simp;omega
theorem PuR.last {n k r:Nat} {f:List Int} (h:PuR n k r f) (hr:r<128):f ++ [(r:Int)]=fmN 4 n:=by
 rw [<- h.eq,qfd k r hr]
theorem qv9 (x:Int):((fd x:Nat):Int)=if x<0 then -2*x - 1 else 2*x:=by
 unfold fd
 split <;> omega
theorem qi5 (x:Int) (w:World) (h1:-2000000000<=x) (h2:x<=2000000000):
  Calls prog 47 #[iV x] w fun e w'=>e=.returned (iV (if x<0 then -2*x - 1 else 2*x))/\w'=w:=by
 by_cases hc:x<0
 ·go_enter func47,ntmps47
  go_wp2;go_ret;exact ⟨by simp,rfl⟩
 ·go_enter func47,ntmps47
  go_wp2;go_ret;exact ⟨by simp,rfl⟩
theorem qbi (x:Int) (w:World):
  Calls prog 24 #[iV x] w fun e w'=>∃ v,e=.returned v/\OwnB w' w.heap.size v (puL x)/\Bw w w':=by
 have H0:Hid (OwnB (w.alloc (.cells #[] 5)) w.heap.size (sG w.heap.size 0 0) []):=qcv w;have B0:Bw w (w.alloc (.cells #[] 5)):=(nE _ _).alloc (nA _) _;by_cases hx:puB x=true
 ·have hx1:=of_decide_eq_true hx
  have hin:inB x (-2000000000) 2000000000=true:=decide_eq_true hx1;obtain ⟨h1,h2⟩:=hx1;have HN:Hid (puL x=fmN 4 (fd x)):=by show puL x=fmN 4 (fd x);rw [puL,nC hx]
  have hle:=qus x hx;have EF:Hid (((fd x:Nat):Int)=if x<0 then -2*x - 1 else 2*x):=qv9 x;generalize fd x=n at hle HN EF;clear hx;by_cases hc:x<0
  ·have EN:Hid (-2*x - 1=(n:Int)):=by have e:=EF.out;rw [nC hc] at e;exact e.symm
   clear EF
   go_enter func24,ntmps24
   go_wp2_with fail
   generalize w.alloc (.cells #[] 5)=w0 at *;refine (l1In_any x (-2000000000) 2000000000 w0).mono ?_;rintro e w1 ⟨rfl,rfl⟩;rw [hin];clear hin;go_wp2_with fail
   go_loopw [3,4] (fun o q wr=>∃ (k r:Nat) (f:List Int),q=.int .i64 (r:Int)/\Hid (OwnB wr w.heap.size o f/\PuR n k r f)/\Bw w wr) (fun _ q _=>(intOf q).toNat)
   case atStart=>exact ⟨4,n,[],by rw [EN.out],⟨H0.out,PuR.new n hle⟩,B0⟩
   case round=>
    clear H0 B0 EN;obtain ⟨k,r,f,rfl,HR,hbw⟩:=hrel;have hr4:(r:Int)<=4000000000:=by have:=HR.2.le;omega
    by_cases hr:128<=r
    ·have hr1:(127:Int)<(r:Int):=by omega
     have hr2:(128:Int)<=(r:Int):=by omega
     have hw1:IntKind.u8.wrap ((r:Int) % 128+128)=(r:Int) % 128+128:=by rw [IntKind.wrap_u8];omega
     have hs:w.heap.size<=wr.heap.size:=hbw.size;have hf:f.length<=1048576:=by have:=HR.2.ln;omega
     go_wp2_with (at_builtin;refine qbs wr rfl _ _ rfl w.heap.size u3 f rfl HR.1 ((r:Int) % 128+128) rfl hf hs ?_;intro v' w4 o4 b4;have H4:Hid (OwnB w4 w.heap.size v' (f ++ [((r % 128+128:Nat):Int)])):=o4.to (by rw [Int.natCast_add,Int.natCast_emod];rfl);clear o4)
     go_roundw
     case rel=>
      obtain ⟨j,hj⟩:=HR.2.step hr;exact ⟨j,r / 128,_,by go_num,⟨H4.out,hj⟩,hbw.trans b4⟩
     case measure=>simp [intOf];omega
    ·have hr1:¬ (127:Int)<(r:Int):=by omega
     have hr2:¬ (128:Int)<=(r:Int):=by omega
     have hw1:IntKind.u8.wrap (r:Int)=(r:Int):=by rw [IntKind.wrap_u8];omega
     have hs:w.heap.size<=wr.heap.size:=hbw.size;have hf:f.length<=1048576:=by have:=HR.2.ln;omega
     go_wp2_with (at_builtin;refine qbs wr rfl _ _ rfl w.heap.size u3 f rfl HR.1 (r:Int) rfl hf hs ?_;intro v' w4 o4 b4;have H4:Hid (OwnB w4 w.heap.size v' (puL x)):=o4.to (by rw [HN.out];exact (HR.2.last (by omega)).symm);clear o4)
     go_ret;exact ⟨_,rfl,H4.out,hbw.trans b4⟩
  ·have EN:Hid (2*x=(n:Int)):=by have e:=EF.out;rw [nB hc] at e;exact e.symm
   clear EF
   go_enter func24,ntmps24
   go_wp2_with fail
   generalize w.alloc (.cells #[] 5)=w0 at *;refine (l1In_any x (-2000000000) 2000000000 w0).mono ?_;rintro e w1 ⟨rfl,rfl⟩;rw [hin];clear hin;go_wp2_with fail
   go_loopw [3,4] (fun o q wr=>∃ (k r:Nat) (f:List Int),q=.int .i64 (r:Int)/\Hid (OwnB wr w.heap.size o f/\PuR n k r f)/\Bw w wr) (fun _ q _=>(intOf q).toNat)
   case atStart=>exact ⟨4,n,[],by rw [EN.out],⟨H0.out,PuR.new n hle⟩,B0⟩
   case round=>
    clear H0 B0 EN;obtain ⟨k,r,f,rfl,HR,hbw⟩:=hrel;have hr4:(r:Int)<=4000000000:=by have:=HR.2.le;omega
    by_cases hr:128<=r
    ·have hr1:(127:Int)<(r:Int):=by omega
     have hr2:(128:Int)<=(r:Int):=by omega
     have hw1:IntKind.u8.wrap ((r:Int) % 128+128)=(r:Int) % 128+128:=by rw [IntKind.wrap_u8];omega
     have hs:w.heap.size<=wr.heap.size:=hbw.size;have hf:f.length<=1048576:=by have:=HR.2.ln;omega
     go_wp2_with (at_builtin;refine qbs wr rfl _ _ rfl w.heap.size u3 f rfl HR.1 ((r:Int) % 128+128) rfl hf hs ?_;intro v' w4 o4 b4;have H4:Hid (OwnB w4 w.heap.size v' (f ++ [((r % 128+128:Nat):Int)])):=o4.to (by rw [Int.natCast_add,Int.natCast_emod];rfl);clear o4)
     go_roundw
     case rel=>
      obtain ⟨j,hj⟩:=HR.2.step hr;exact ⟨j,r / 128,_,by go_num,⟨H4.out,hj⟩,hbw.trans b4⟩
     case measure=>simp [intOf];omega
    ·have hr1:¬ (127:Int)<(r:Int):=by omega
     have hr2:¬ (128:Int)<=(r:Int):=by omega
     have hw1:IntKind.u8.wrap (r:Int)=(r:Int):=by rw [IntKind.wrap_u8];omega
     have hs:w.heap.size<=wr.heap.size:=hbw.size;have hf:f.length<=1048576:=by have:=HR.2.ln;omega
     go_wp2_with (at_builtin;refine qbs wr rfl _ _ rfl w.heap.size u3 f rfl HR.1 (r:Int) rfl hf hs ?_;intro v' w4 o4 b4;have H4:Hid (OwnB w4 w.heap.size v' (puL x)):=o4.to (by rw [HN.out];exact (HR.2.last (by omega)).symm);clear o4)
     go_ret;exact ⟨_,rfl,H4.out,hbw.trans b4⟩
 ·have HN:Hid (puL x=[]):=by show puL x=[];rw [puL,nB hx]
  have hin:inB x (-2000000000) 2000000000=false:=by
   cases hv:inB x (-2000000000) 2000000000 with
   | false=>rfl
   | true=>exact absurd hv hx
  clear hx
  go_enter func24,ntmps24
  go_wp2_with fail
  generalize w.alloc (.cells #[] 5)=w0 at *;refine (l1In_any x (-2000000000) 2000000000 w0).mono ?_;rintro e w1 ⟨rfl,rfl⟩;rw [hin];clear hin;go_wp2;go_ret;exact ⟨_,rfl,by rw [HN.out];exact H0.out,B0⟩
theorem qe5 (x:Int) (w:World):
  Calls prog 21 #[iV x] w fun e w'=>∃ v,e=.returned v/\OwnB w' w.heap.size v (puL x)/\Bw w w':=by
 have H0:Hid (OwnB (w.alloc (.cells #[] 5)) w.heap.size (sG w.heap.size 0 0) []):=qcv w;have B0:Bw w (w.alloc (.cells #[] 5)):=(nE _ _).alloc (nA _) _;by_cases hx:puB x=true
 ·have hx1:=of_decide_eq_true hx
  obtain ⟨h1,h2⟩:=hx1;have HN:Hid (puL x=fmN 4 (fd x)):=by show puL x=fmN 4 (fd x);rw [puL,nC hx]
  have hle:=qus x hx;have EF:Hid (((fd x:Nat):Int)=if x<0 then -2*x - 1 else 2*x):=qv9 x;generalize fd x=n at hle HN EF;clear hx;have hn1:¬ x < -2000000000:=by omega
  have hn2:¬ 2000000000<x:=by omega
  by_cases hc:x<0
  ·have EN:Hid (-2*x - 1=(n:Int)):=by have e:=EF.out;rw [nC hc] at e;exact e.symm
   clear EF
   go_enter func21,ntmps21
   go_wp2_with fail
   generalize w.alloc (.cells #[] 5)=w0 at *;refine (qi5 x w0 h1 h2).mono ?_;rintro e w1 ⟨rfl,rfl⟩;rw [nC hc];go_wp2_with fail
   go_loopw [3,4] (fun o q wr=>∃ (k r:Nat) (f:List Int),q=.int .i64 (r:Int)/\Hid (OwnB wr w.heap.size o f/\PuR n k r f)/\Bw w wr) (fun _ q _=>(intOf q).toNat)
   case atStart=>exact ⟨4,n,[],by rw [EN.out],⟨H0.out,PuR.new n hle⟩,B0⟩
   case round=>
    clear H0 B0 EN;obtain ⟨k,r,f,rfl,HR,hbw⟩:=hrel;have hr4:(r:Int)<=4000000000:=by have:=HR.2.le;omega
    by_cases hr:128<=r
    ·have hr1:(127:Int)<(r:Int):=by omega
     have hr2:(128:Int)<=(r:Int):=by omega
     have hw1:IntKind.u8.wrap ((r:Int) % 128+128)=(r:Int) % 128+128:=by rw [IntKind.wrap_u8];omega
     have hs:w.heap.size<=wr.heap.size:=hbw.size;have hf:f.length<=1048576:=by have:=HR.2.ln;omega
     go_wp2_with (at_builtin;refine qbs wr rfl _ _ rfl w.heap.size u3 f rfl HR.1 ((r:Int) % 128+128) rfl hf hs ?_;intro v' w4 o4 b4;have H4:Hid (OwnB w4 w.heap.size v' (f ++ [((r % 128+128:Nat):Int)])):=o4.to (by rw [Int.natCast_add,Int.natCast_emod];rfl);clear o4)
     go_roundw
     case rel=>
      obtain ⟨j,hj⟩:=HR.2.step hr;exact ⟨j,r / 128,_,by go_num,⟨H4.out,hj⟩,hbw.trans b4⟩
     case measure=>simp [intOf];omega
    ·have hr1:¬ (127:Int)<(r:Int):=by omega
     have hr2:¬ (128:Int)<=(r:Int):=by omega
     have hw1:IntKind.u8.wrap (r:Int)=(r:Int):=by rw [IntKind.wrap_u8];omega
     have hs:w.heap.size<=wr.heap.size:=hbw.size;have hf:f.length<=1048576:=by have:=HR.2.ln;omega
     go_wp2_with (at_builtin;refine qbs wr rfl _ _ rfl w.heap.size u3 f rfl HR.1 (r:Int) rfl hf hs ?_;intro v' w4 o4 b4;have H4:Hid (OwnB w4 w.heap.size v' (puL x)):=o4.to (by rw [HN.out];exact (HR.2.last (by omega)).symm);clear o4)
     go_ret;exact ⟨_,rfl,H4.out,hbw.trans b4⟩
  ·have EN:Hid (2*x=(n:Int)):=by have e:=EF.out;rw [nB hc] at e;exact e.symm
   clear EF
   go_enter func21,ntmps21
   go_wp2_with fail
   generalize w.alloc (.cells #[] 5)=w0 at *;refine (qi5 x w0 h1 h2).mono ?_;rintro e w1 ⟨rfl,rfl⟩;rw [nB (by omega)];go_wp2_with fail
   go_loopw [3,4] (fun o q wr=>∃ (k r:Nat) (f:List Int),q=.int .i64 (r:Int)/\Hid (OwnB wr w.heap.size o f/\PuR n k r f)/\Bw w wr) (fun _ q _=>(intOf q).toNat)
   case atStart=>exact ⟨4,n,[],by rw [EN.out],⟨H0.out,PuR.new n hle⟩,B0⟩
   case round=>
    clear H0 B0 EN;obtain ⟨k,r,f,rfl,HR,hbw⟩:=hrel;have hr4:(r:Int)<=4000000000:=by have:=HR.2.le;omega
    by_cases hr:128<=r
    ·have hr1:(127:Int)<(r:Int):=by omega
     have hr2:(128:Int)<=(r:Int):=by omega
     have hw1:IntKind.u8.wrap ((r:Int) % 128+128)=(r:Int) % 128+128:=by rw [IntKind.wrap_u8];omega
     have hs:w.heap.size<=wr.heap.size:=hbw.size;have hf:f.length<=1048576:=by have:=HR.2.ln;omega
     go_wp2_with (at_builtin;refine qbs wr rfl _ _ rfl w.heap.size u3 f rfl HR.1 ((r:Int) % 128+128) rfl hf hs ?_;intro v' w4 o4 b4;have H4:Hid (OwnB w4 w.heap.size v' (f ++ [((r % 128+128:Nat):Int)])):=o4.to (by rw [Int.natCast_add,Int.natCast_emod];rfl);clear o4)
     go_roundw
     case rel=>
      obtain ⟨j,hj⟩:=HR.2.step hr;exact ⟨j,r / 128,_,by go_num,⟨H4.out,hj⟩,hbw.trans b4⟩
     case measure=>simp [intOf];omega
    ·have hr1:¬ (127:Int)<(r:Int):=by omega
     have hr2:¬ (128:Int)<=(r:Int):=by omega
     have hw1:IntKind.u8.wrap (r:Int)=(r:Int):=by rw [IntKind.wrap_u8];omega
     have hs:w.heap.size<=wr.heap.size:=hbw.size;have hf:f.length<=1048576:=by have:=HR.2.ln;omega
     go_wp2_with (at_builtin;refine qbs wr rfl _ _ rfl w.heap.size u3 f rfl HR.1 (r:Int) rfl hf hs ?_;intro v' w4 o4 b4;have H4:Hid (OwnB w4 w.heap.size v' (puL x)):=o4.to (by rw [HN.out];exact (HR.2.last (by omega)).symm);clear o4)
     go_ret;exact ⟨_,rfl,H4.out,hbw.trans b4⟩
 ·have HN:Hid (puL x=[]):=by show puL x=[];rw [puL,nB hx]
  have hx1:¬ (-2000000000<=x/\x<=2000000000):=fun h=>hx (decide_eq_true h);clear hx;by_cases hn1:x < -2000000000
  ·clear hx1
   go_enter func21,ntmps21
   go_wp2;go_ret;exact ⟨_,rfl,by rw [HN.out];exact H0.out,B0⟩
  ·have hn2:2000000000<x:=by omega
   clear hx1
   go_enter func21,ntmps21
   go_wp2;go_ret;exact ⟨_,rfl,by rw [HN.out];exact H0.out,B0⟩
structure AtP (z:Bool) (B N:Nat) (c:Nat->Nat) (y:Sy) (wx:World) (vp vs vw vh:Value) (up us uw uh:Nat->Value):Prop where
 bx:BoxC wx N vp vs vw vh
 fr:∀ j,wx.frozen? ⟨N,j,none⟩=false
 cN:c N=0
 bN:B<=N
 o:OwnS z wx B c y vp vs vw vh up us uw uh
section
variable {z:Bool} {B N:Nat} {c:Nat->Nat} {y:Sy} {wr:World} {vp vs vw vh:Value} {up us uw uh:Nat->Value}
theorem AtP.lt (h:AtP z B N c y wr vp vs vw vh up us uw uh):N<wr.heap.size:=zJ wr _ h.bx.1
theorem AtP.bw (h:AtP z B N c y wr vp vs vw vh up us uw uh) {w':World} (hb:Bw wr w'):AtP z B N c y w' vp vs vw vh up us uw uh:=
 ⟨h.bx.bw hb,fun j=>by rw [zI (hb.block N h.lt)];exact h.fr j,h.cN,h.bN,h.o.bw hb⟩
theorem AtP.state (h:AtP z B N c y wr vp vs vw vh up us uw uh) {w1 w3:World} {u' v':Value} (b1:Bw wr w1) (hu:qac w1 wr.heap.size u' (y.sS y.sn).p (y.sS y.sn).rs (y.sS y.sn).os (y.sS y.sn).c) (hv:w3.ownsRow 0 66 4 v' (y.sn+1) (flat (fun i=>cellsL (us i)) y.sn ++ cellsL u')) (g:w1.grownBy w3 vs.ownBlock) (hv':∀ j,v'.ownBlock=some j->vs.ownBlock=some j\/w1.heap.size<=j):
  AtP z B N (rcol c wr.heap.size 2) { y with sn:=y.sn+1 } (w3.setCell (aQ N 1) v') vp v' vw vh up (fun j=>if j=y.sn then u' else us j) uw uh:=by
 have hN:=h.lt;have hkeep:∀ k,k<wr.heap.size->c k≠2->w3.heap[k]? = wr.heap[k]?:=fun k hk hc=>(g.block k (zL hk b1.size) fun e=>hc (h.o.s.rb k e.symm).2).trans (b1.block k hk);have hset:∀ k,k≠N->(w3.setCell ⟨N,1,none⟩ v').heap[k]? = w3.heap[k]?:=fun k hk=>zO _ _ _ _ hk;have hcN:rcol c wr.heap.size 2 N=0:=(qam hN).trans h.cN;have hBN:w3.heap[N]? = wr.heap[N]?:=hkeep N hN (by rw [h.cN];decide)
 have hkk:∀ i,i≠2->i≠0->∀ k,Cl B (rcol c wr.heap.size 2) i k->k<wr.heap.size->(w3.setCell ⟨N,1,none⟩ v').heap[k]? = wr.heap[k]?:=fun i h2 h0 k hk hl=>by
  have e:c k=i:=(qam hl).symm.trans hk.2;exact (hset k fun en=>h0 (by rw [<- e,en,h.cN])).trans (hkeep k hl (by rw [e];exact h2))
 have hP:∀ i k,Cl B c i k->k<wr.heap.size->Cl B (rcol c wr.heap.size 2) i k:=fun i k hk hl=>hk.old hl;have hP':∀ k,wr.heap.size<=k->k<w3.heap.size->Cl B (rcol c wr.heap.size 2) 2 k:=fun k hk _=>⟨zP h.bN (zP (nJ hN) hk),qad hk⟩
 obtain ⟨x0,x1,x2,x3⟩:=h.bx;have hc:∀ j,w3.cell? ⟨N,j,none⟩=wr.cell? ⟨N,j,none⟩:=fun j=>zH hBN
 have hnew:∀ k,Cl B (rcol c wr.heap.size 2) 2 k->k<w3.heap.size->(w3.setCell ⟨N,1,none⟩ v').heap[k]? = w3.heap[k]?:=fun k hk _=>hset k fun e=>by
  have e2:=hk.2;rw [e,hcN] at e2;cases e2
 refine ⟨⟨?_,?_,?_,?_⟩,fun j=>?_,hcN,h.bN,⟨?_,?_,?_,?_⟩⟩
 ·rw [World.cell?_setCell_other _ _ _ _ (by simp),hc];exact x0
 ·exact World.cell?_setCell_same _ _ _ ((hc 1).trans x1)
 ·rw [World.cell?_setCell_other _ _ _ _ (by simp),hc];exact x2
 ·rw [World.cell?_setCell_other _ _ _ _ (by simp),hc];exact x3
 ·rw [World.frozen?_setCell,zI hBN];exact h.fr j
 ·exact (h.o.p.mono (hP 1)).keep (hkk 1 (by decide) (by decide))
 ·exact (h.o.s.push b1 hu hv g hv' (hP 2) hP').keep hnew
 ·exact (h.o.t.mono (hP 3)).keep (hkk 3 (by decide) (by decide))
 ·exact (h.o.h.mono (hP 4)).keep (hkk 4 (by decide) (by decide))
theorem AtP.hist (h:AtP z B N c y wr vp vs vw vh up us uw uh) {w1 w3:World} {u' v':Value} (b1:Bw wr w1) (hu:w1.ownsRow wr.heap.size 49 3 u' (y.hL y.hn) (fE (y.hH y.hn) (y.hL y.hn))) (hne:u'≠nS) (hv:w3.ownsRow 0 50 1 v' (y.hn+1) ((List.range y.hn).map uh ++ [u'])) (g:w1.grownBy w3 vh.ownBlock) (hv':∀ j,v'.ownBlock=some j->vh.ownBlock=some j\/w1.heap.size<=j):
  AtP z B N (rcol c wr.heap.size 4) { y with hn:=y.hn+1 } (w3.setCell (aQ N 3) v') vp vs vw v' up us uw (fun j=>if j=y.hn then u' else uh j):=by
 have hN:=h.lt;have hkeep:∀ k,k<wr.heap.size->c k≠4->w3.heap[k]? = wr.heap[k]?:=fun k hk hc=>(g.block k (zL hk b1.size) fun e=>hc (h.o.h.rb k e.symm).2).trans (b1.block k hk);have hset:∀ k,k≠N->(w3.setCell ⟨N,3,none⟩ v').heap[k]? = w3.heap[k]?:=fun k hk=>zO _ _ _ _ hk;have hcN:rcol c wr.heap.size 4 N=0:=(qam hN).trans h.cN;have hBN:w3.heap[N]? = wr.heap[N]?:=hkeep N hN (by rw [h.cN];decide)
 have hkk:∀ i,i≠4->i≠0->∀ k,Cl B (rcol c wr.heap.size 4) i k->k<wr.heap.size->(w3.setCell ⟨N,3,none⟩ v').heap[k]? = wr.heap[k]?:=fun i h2 h0 k hk hl=>by
  have e:c k=i:=(qam hl).symm.trans hk.2;exact (hset k fun en=>h0 (by rw [<- e,en,h.cN])).trans (hkeep k hl (by rw [e];exact h2))
 have hP:∀ i k,Cl B c i k->k<wr.heap.size->Cl B (rcol c wr.heap.size 4) i k:=fun i k hk hl=>hk.old hl;have hP':∀ k,wr.heap.size<=k->k<w3.heap.size->Cl B (rcol c wr.heap.size 4) 4 k:=fun k hk _=>⟨zP h.bN (zP (nJ hN) hk),qad hk⟩
 obtain ⟨x0,x1,x2,x3⟩:=h.bx;have hc:∀ j,w3.cell? ⟨N,j,none⟩=wr.cell? ⟨N,j,none⟩:=fun j=>zH hBN
 have hnew:∀ k,Cl B (rcol c wr.heap.size 4) 4 k->k<w3.heap.size->(w3.setCell ⟨N,3,none⟩ v').heap[k]? = w3.heap[k]?:=fun k hk _=>hset k fun e=>by
  have e2:=hk.2;rw [e,hcN] at e2;cases e2
 refine ⟨⟨?_,?_,?_,?_⟩,fun j=>?_,hcN,h.bN,⟨?_,?_,?_,?_⟩⟩
 ·rw [World.cell?_setCell_other _ _ _ _ (by simp),hc];exact x0
 ·rw [World.cell?_setCell_other _ _ _ _ (by simp),hc];exact x1
 ·rw [World.cell?_setCell_other _ _ _ _ (by simp),hc];exact x2
 ·exact World.cell?_setCell_same _ _ _ ((hc 3).trans x3)
 ·rw [World.frozen?_setCell,zI hBN];exact h.fr j
 ·exact (h.o.p.mono (hP 1)).keep (hkk 1 (by decide) (by decide))
 ·exact (h.o.s.mono (hP 2)).keep (hkk 2 (by decide) (by decide))
 ·exact (h.o.t.mono (hP 3)).keep (hkk 3 (by decide) (by decide))
 ·exact (h.o.h.push b1 hu (fun _=>hne) hv g hv' (hP 4) hP').keep hnew
end
theorem AtP.box {z:Bool} {B N:Nat} {c:Nat->Nat} {y:Sy} {wr w1 w3:World} {vp vs vw vh:Value} {up us uw uh:Nat->Value} (h:AtP z B N c y wr vp vs vw vh up us uw uh) (b1:Bw wr w1) {ob:Option Nat} (g:w1.grownBy w3 ob) (hob:∀ k,ob=some k->c k≠0):BoxC w3 N vp vs vw vh/\∀ j,w3.frozen? ⟨N,j,none⟩=false:=by
 have hN:=h.lt;have e:w3.heap[N]? = wr.heap[N]?:=(g.block N (zL hN b1.size) fun e=>hob N e.symm h.cN).trans (b1.block N hN);obtain ⟨x0,x1,x2,x3⟩:=h.bx;exact ⟨⟨(zH e).trans x0,(zH e).trans x1,(zH e).trans x2,(zH e).trans x3⟩,fun j=>(zI e).trans (h.fr j)⟩
theorem AtP.gS {z:Bool} {B N:Nat} {c:Nat->Nat} {y:Sy} {wr:World} {vp vs vw vh:Value} {up us uw uh:Nat->Value} (h:AtP z B N c y wr vp vs vw vh up us uw uh):∀ k,vs.ownBlock=some k->B<=k/\c k≠0:=fun k hk=>⟨(h.o.s.rb k hk).1,by rw [(h.o.s.rb k hk).2];decide⟩
theorem AtP.gH {z:Bool} {B N:Nat} {c:Nat->Nat} {y:Sy} {wr:World} {vp vs vw vh:Value} {up us uw uh:Nat->Value} (h:AtP z B N c y wr vp vs vw vh up us uw uh):∀ k,vh.ownBlock=some k->B<=k/\c k≠0:=fun k hk=>⟨(h.o.h.rb k hk).1,by rw [(h.o.h.rb k hk).2];decide⟩
theorem qmm {t e:TypeId} {size bytes:Nat} (K:Kind t e size bytes) (w:World) (ty:TypeId) (a0:Option Addr) (m c:Nat) (news:List Value) (hl:news.length=m*size) (hsrc:Src w a0 news) (h1:∀ u ∈ news,u.oneCell'=true) (cs:Array Value) (hz:cs.size=m*size):
  (Builtin.copy_ #[t,t] ty #[.slice (some (aQ w.heap.size 0)) m m,.slice a0 m c]).run prog (w.alloc (.cells cs e))=.ok (goInt m) (w.alloc (.cells news.toArray e)):=by
 obtain ⟨i,z,hi,-,hs,-,-⟩:=K.inf;have hg:(w.alloc (.cells cs e)).heap[w.heap.size]? = some (.cells cs e (0,0)):=heap_alloc_new w _;have hst:=run_storeCells_at prog w.heap.size 0 e news 0 cs (w.alloc (.cells cs e)) hg (by rw [hl,hz];omega) h1;have hmin:Nat.min m m=m:=Nat.min_self m;cases a0 with
 | none=>
  have hn0:news=[]:=by
   rcases hsrc with h | ⟨b,off,e,_⟩
   ·exact h
   ·cases e
  subst hn0
  have hm:m=0:=by
   simp only [List.length_nil] at hl
   rcases Nat.eq_zero_or_pos m with h | h
   ·exact h
   ·have:=Nat.mul_pos h K.pos
    omega
  subst hm
  have hc:cs=#[]:=by
   have:cs.size=0:=by omega
   exact Array.eq_empty_of_size_eq_zero this
  subst hc;simp [Builtin.copy_,run_underlying K.und,Builtin.lenOf,Builtin.firstCells,sizeOf,typeInfo,hi,storeCells]
 | some a=>
  have hnews:∀ j u,news[j]? = some u->(w.alloc (.cells cs e)).cell? (a.add j)=some u:=by
   rcases hsrc with h0 | ⟨b,off,e,hlt,hc⟩
   ·subst h0
    intro j u hj;simp at hj
   ·cases e
    intro j u hj;have ha:Addr.add ⟨b,off,none⟩ j=⟨b,off+j,none⟩:=by unfold Addr.add;split <;> simp_all
    rw [ha];exact ((zQ w _).cell (p:=⟨b,off+j,none⟩) hlt).trans (hc j u hj)
  have hld:=run_loadCells_list (P:=prog) (w.alloc (.cells cs e)) a news hnews;rw [hl] at hld;simp only [List.take_zero,List.nil_append,nL] at hst;rw [List.drop_of_length_le (by simp [hl,hz]),List.append_nil,qhe] at hst;simp [Builtin.copy_,run_underlying K.und,Builtin.lenOf,Builtin.firstCells,sizeOf,typeInfo,hi,hs,hld,hst]
theorem qkp {t e:TypeId} {size bytes:Nat} (K:Kind t e size bytes) (n:Nat) (hn:n<=1048576):∃ cs:Array Value,cs.size=n*size/\∀ w:World,(Instr.makeSlice t (iV (n:Int)) (iV (n:Int))).run prog w=.ok (sG w.heap.size n n) (w.alloc (.cells cs e)):=by
 obtain ⟨i,z,hi,hz,hs,hb,hzs⟩:=K.inf;refine ⟨madeCells z.cells (n*size),size_madeCells _ _,fun w=>?_⟩
 have hby:i.bytes*n<=281474976710656:=by
  rw [hb];exact zP (Nat.mul_le_mul K.sml hn) (by omega)
 have hby':(i.bytes:Int)*(n:Int)<=281474976710656:=by rw [<- Int.natCast_mul];exact Int.ofNat_le.2 hby
 have h:=run_make (P:=prog) w t e i z K.und hi hz .i64 .i64 (n:Int) (n:Int) (by omega) (by omega) hby' (by omega);rw [hs,nF] at h;exact h
theorem qia (ea:Option Addr) (n cap:Nat) (H:Nat->E3) (w:World) (hn:n<=1048576) (hS:Src w ea (fE H n)):
  Calls prog 63 #[.slice ea n cap] w fun e w'=>∃ a1 c1,e=.returned (.slice a1 n c1)/\w'.ownsRow w.heap.size 49 3 (.slice a1 n c1) n (fE H n)/\Value.slice a1 n c1≠nS/\Bw w w':=by
 have hn':(n:Int)<=1048576:=by omega
 obtain ⟨cs,hcs,hmk⟩:=qkp kndE n hn;have hcp:=qmm kndE w 3 ea n cap (fE H n) (qo3 _ _) hS (qry _ _) cs hcs
 have HO:Hid ((w.alloc (.cells (fE H n).toArray 49)).ownsRow w.heap.size 49 3 (sG w.heap.size n n) n (fE H n)/\Bw w (w.alloc (.cells (fE H n).toArray 49))):=by
  refine ⟨?_,zQ _ _⟩;have:=World.ownsRow_lit (base:=w.heap.size) (e:=49) (size:=3) w (fE H n).toArray n (nA _) (by unfold maxLen;omega) (by simp [qo3]);exact this
 clear hS hcs
 go_enter func63,ntmps63
 go_wp2;go_ret;exact ⟨_,_,rfl,HO.1,by simp,HO.2⟩
theorem qow (xs:List Int) (n k:Nat):zi (xs.drop n) k=zi xs (n+k):=by
 unfold zi;simp [List.getD_eq_getElem?_getD,List.getElem?_drop]
def wyL (h:Hs) (a b:Nat):List Int:=(valL (h.e a) 2 b (h.l a)).drop (cnt (h.e b) 3 a (h.l b))
def itL (l:List Int):Nat->I2:=fun j=>⟨false,zi l j⟩
def Sy.ah (y:Sy) (d:Nat->Nat):Hs:=⟨y.pn,d,y.hH⟩
noncomputable def wfB (h:Hs):Bool:=qB (∀ a,a<h.n->∀ b,b<h.n->(wyL h a b).length<=12)
def Sy.atY (y:Sy) (d:Nat->Nat):Sy where
 pn:=y.pn
 pL:=y.pL
 pH:=y.pH
 sn:=y.pn
 sS:=fun p=>resS (repO (y.pH p) (y.pL p) (y.hH p) (d p))
 wn:=y.pn*y.pn
 wL:=fun i=>(wyL (y.ah d) (i / y.pn) (i % y.pn)).length
 wH:=fun i=>itL (wyL (y.ah d) (i / y.pn) (i % y.pn))
 hn:=y.pn
 hL:=d
 hH:=y.hH
def Sy.nil (y:Sy):Sy:={ y with pn:=0,sn:=0,wn:=0,hn:=0 }
theorem Sy.nil_sm (y:Sy):y.nil.Sm:=⟨⟨by simp [Sy.nil],by simp [Sy.nil],by simp [Sy.nil],by simp [Sy.nil]⟩,fun i hi=>by simp [Sy.nil] at hi,fun i hi=>by simp [Sy.nil] at hi,fun i hi=>by simp [Sy.nil] at hi,fun i hi=>by simp [Sy.nil] at hi⟩
noncomputable def Sy.atW (y:Sy) (d:Nat->Nat):Sy:=if wfB (y.ah d)=true then y.atY d else y.nil
theorem qpq (g:Nat->I5) (n:Nat) (eh:Nat->E3) (m:Nat):(resS (repO g n eh m)).rs.length<=1000/\(resS (repO g n eh m)).os.length<=1000:=by
 cases h:repO g n eh m with
 | none=>simp [resS]
 | some S=>
  obtain ⟨h1,-,h2⟩:=qbh h;have:=qsv (qws h1 m S h2);simp only [resS,Option.getD_some];omega
theorem que {a b n:Nat} (hb:b<n):(a*n+b) / n=a/\(a*n+b) % n=b:=by
 have hn:0<n:=by omega
 constructor
 ·rw [Nat.mul_comm,Nat.mul_add_div hn,Nat.div_eq_of_lt hb]
  omega
 ·rw [Nat.mul_comm,Nat.mul_add_mod]
  exact Nat.mod_eq_of_lt hb
section
variable {z:Bool} {e:TypeId} {sz:Nat} {E:TypeId} {w:World} {P:Nat->Prop} {v:Value} {n:Nat} {u:Nat->Value} {L:Nat->Nat} {c:Nat->List Value}
theorem LL.pushP (o:LL z e sz E w P v n u L c) {w1 w2:World} {u' v':Value} (hsz:w.heap.size<=w1.heap.size) (hb:∀ k,P k->k<w.heap.size->w1.heap[k]? = w.heap[k]?) (hu:w1.ownsRow w.heap.size e sz u' (L n) (c n)) (hne:Nz z e->u'≠nS) (hv:w2.ownsRow 0 E 1 v' (n+1) ((List.range n).map u ++ [u'])) (g:w1.grownBy w2 v.ownBlock)
  (hv':∀ j,v'.ownBlock=some j->v.ownBlock=some j\/w1.heap.size<=j) {P':Nat->Prop} (hP:∀ k,P k->k<w.heap.size->P' k) (hPu:∀ k,u'.ownBlock=some k->P' k) (hPv:∀ k,w1.heap.size<=k->v'.ownBlock=some k->P' k):LL z e sz E w2 P' v' (n+1) (fun j=>if j=n then u' else u j) L c:=by
 have hvlt:∀ k,v.ownBlock=some k->k<w.heap.size:=fun k hk=>(o.row.lt k hk).2
 have hu2 : w2.ownsRow w.heap.size e sz u' (L n) (c n) := hu.kept g (by
  cases hk:u'.ownBlock with
  | none=>exact .inl rfl
  | some k=>
   refine .inr fun e=>?_;have q1:=(hu.lt k hk).1;have q2:=hvlt k e.symm
   omega)
 have ho2:∀ i,i<n->w2.ownsRow 0 e sz (u i) (L i) (c i):=fun i hi=>qas (o.own i hi) fun k hk=>(g.block k (zL ((o.own i hi).lt k hk).2 hsz) fun e=>o.ra i hi k hk e.symm).trans (hb k (o.ob i hi k hk) ((o.own i hi).lt k hk).2);have lts:∀ i,i<n->∀ k,(u i).ownBlock=some k->k<w.heap.size:=fun i hi k hk=>((o.own i hi).lt k hk).2;refine ⟨?_,fun i hi=>?_,fun k hk=>?_,fun i hi k hk=>?_,fun i hi k hk=>?_,fun i j hi hj hij k hk=>?_,fun hz i hi=>?_⟩
 ·have e:(List.range (n+1)).map (fun j=>if j=n then u' else u j)=(List.range n).map u ++ [u']:=by
   rw [List.range_succ,List.map_append];simp only [List.map_cons,List.map_nil,if_true]
   congr 1
   exact List.map_congr_left fun j hj=>by
    rw [nB];have:=List.mem_range.1 hj;omega
  rw [e];exact hv
 ·by_cases ei:i=n
  ·subst ei
   rw [nC rfl];exact qcr hu2
  ·rw [nB ei]
   exact ho2 i (by omega)
 ·rcases hv' k hk with h | h
  ·exact hP k (o.rb k h) (hvlt k h)
  ·exact hPv k h hk
 ·by_cases ei:i=n
  ·simp only [nC ei] at hk
   exact hPu k hk
  ·simp only [nB ei] at hk
   exact hP k (o.ob i (by omega) k hk) (lts i (by omega) k hk)
 ·intro hvk
  by_cases ei:i=n
  ·simp only [nC ei] at hk
   rcases hv' k hvk with h | h
   ·have:=hvlt k h
    have:=(hu.lt k hk).1;omega
   ·have:=(hu.lt k hk).2
    omega
  ·simp only [nB ei] at hk
   rcases hv' k hvk with h | h
   ·exact o.ra i (by omega) k hk h
   ·have:=lts i (by omega) k hk
    omega
 ·intro hjk
  by_cases ei:i=n
  ·have ej:j≠n:=fun e=>hij (by omega)
   simp only [nC ei] at hk;simp only [nB ej] at hjk;have:=lts j (by omega) k hjk;have:=(hu.lt k hk).1;omega
  ·simp only [nB ei] at hk
   by_cases ej:j=n
   ·simp only [nC ej] at hjk
    have:=lts i (by omega) k hk;have:=(hu.lt k hjk).1;omega
   ·simp only [nB ej] at hjk
    exact o.oa i j (by omega) (by omega) hij k hk hjk
 ·by_cases ei:i=n
  ·rw [nC ei]
   exact hne hz
  ·rw [nB ei]
   exact o.nn hz i (by omega)
end
section
variable {w:World} {P:Nat->Prop} {v:Value} {n:Nat} {vs:Nat->Value} {S:Nat->S4}
theorem LS.pushP (o:LS w P v n vs S) {w1 w2:World} {u' v':Value} (hsz:w.heap.size<=w1.heap.size) (hb:∀ k,P k->k<w.heap.size->w1.heap[k]? = w.heap[k]?) (hu:qac w1 w.heap.size u' (S n).p (S n).rs (S n).os (S n).c) (hv:w2.ownsRow 0 66 4 v' (n+1) (flat (fun i=>cellsL (vs i)) n ++ cellsL u')) (g:w1.grownBy w2 v.ownBlock)
  (hv':∀ j,v'.ownBlock=some j->v.ownBlock=some j\/w1.heap.size<=j) {P':Nat->Prop} (hP:∀ k,P k->k<w.heap.size->P' k) (hPu:∀ k,qak u' k->P' k) (hPv:∀ k,w1.heap.size<=k->v'.ownBlock=some k->P' k):LS w2 P' v' (n+1) (fun j=>if j=n then u' else vs j) S:=by
 have hvlt:∀ k,v.ownBlock=some k->k<w.heap.size:=fun k hk=>(o.row.lt k hk).2;have lts:∀ i,i<n->∀ k,qak (vs i) k->k<w.heap.size:=fun i hi k hk=>((o.own i hi).lt hk).2
 have hu2:qac w2 w.heap.size u' (S n).p (S n).rs (S n).os (S n).c:=hu.blk fun k hk=>g.block k (hu.lt hk).2 fun e=>by
  have q1:=(hu.lt hk).1;have q2:=hvlt k e.symm;omega
 have ho2:∀ i,i<n->qac w2 0 (vs i) (S i).p (S i).rs (S i).os (S i).c:=fun i hi=>(o.own i hi).blk fun k hk=>(g.block k (zL (lts i hi k hk) hsz) fun e=>o.ra i hi k hk e.symm).trans (hb k (o.ob i hi k hk) (lts i hi k hk));refine ⟨?_,fun i hi=>?_,fun k hk=>?_,fun i hi k hk=>?_,fun i hi k hk=>?_,fun i j hi hj hij k hk=>?_⟩
 ·have e:flat (fun i=>cellsL (if i=n then u' else vs i)) (n+1)=flat (fun i=>cellsL (vs i)) n ++ cellsL u':=by
   rw [flat,nC rfl]
   congr 1
   exact qcu fun i hi=>by rw [nB (by omega)]
  rw [e];exact hv
 ·by_cases ei:i=n
  ·subst ei
   simp only [if_true];exact hu2.mono (nD _)
  ·simp only [nB ei]
   exact ho2 i (by omega)
 ·rcases hv' k hk with h | h
  ·exact hP k (o.rb k h) (hvlt k h)
  ·exact hPv k h hk
 ·by_cases ei:i=n
  ·simp only [nC ei] at hk
   exact hPu k hk
  ·simp only [nB ei] at hk
   exact hP k (o.ob i (by omega) k hk) (lts i (by omega) k hk)
 ·intro hvk
  by_cases ei:i=n
  ·simp only [nC ei] at hk
   rcases hv' k hvk with h | h
   ·have:=hvlt k h
    have:=(hu.lt hk).1;omega
   ·have:=(hu.lt hk).2
    omega
  ·simp only [nB ei] at hk
   rcases hv' k hvk with h | h
   ·exact o.ra i (by omega) k hk h
   ·have:=lts i (by omega) k hk
    omega
 ·intro hjk
  by_cases ei:i=n
  ·have ej:j≠n:=fun e=>hij (by omega)
   simp only [nC ei] at hk;simp only [nB ej] at hjk;have:=lts j (by omega) k hjk;have:=(hu.lt hk).1;omega
  ·simp only [nB ei] at hk
   by_cases ej:j=n
   ·simp only [nC ej] at hjk
    have:=lts i (by omega) k hk;have:=(hu.lt hjk).1;omega
   ·simp only [nB ej] at hjk
    exact o.oa i j (by omega) (by omega) hij k hk hjk
end
section
variable {z:Bool} {B N:Nat} {c:Nat->Nat} {y:Sy} {wr:World} {vp vs vw vh:Value} {up us uw uh:Nat->Value}
theorem AtP.both (h:AtP z B N c y wr vp vs vw vh up us uw uh) {w1 w2 w3 w4:World} {ue ust v3 v4:Value} (b1:Bw wr w1) (hue:w1.ownsRow wr.heap.size 49 3 ue (y.hL y.hn) (fE (y.hH y.hn) (y.hL y.hn))) (hne:ue≠nS) (b2:Bw w1 w2) (hst:qac w2 w1.heap.size ust (y.sS y.sn).p (y.sS y.sn).rs (y.sS y.sn).os (y.sS y.sn).c)
  (hv3:w3.ownsRow 0 50 1 v3 (y.hn+1) ((List.range y.hn).map uh ++ [ue])) (g3:w2.grownBy w3 vh.ownBlock) (hv3':∀ j,v3.ownBlock=some j->vh.ownBlock=some j\/w2.heap.size<=j)
  (hv4:w4.ownsRow 0 66 4 v4 (y.sn+1) (flat (fun i=>cellsL (us i)) y.sn ++ cellsL ust)) (g4:(w3.setCell ⟨N,3,none⟩ v3).grownBy w4 vs.ownBlock) (hv4':∀ j,v4.ownBlock=some j->vs.ownBlock=some j\/(w3.setCell ⟨N,3,none⟩ v3).heap.size<=j):
  ∃ c',AtP z B N c' { y with sn:=y.sn+1,hn:=y.hn+1 } (w4.setCell (aQ N 1) v4) vp v4 vw v3 up (fun j=>if j=y.sn then ust else us j) uw (fun j=>if j=y.hn then ue else uh j):=by
 have hN:=h.lt;have hBN:=h.bN;have s1:=b1.size;have s2:=b2.size;have s3:=g3.size;have s4:=g4.size;have s3':(w3.setCell (aQ N 3) v3).heap.size=w3.heap.size:=by simp
 rw [s3'] at s4;obtain ⟨q,hq⟩:∃ q:Nat->Nat,q=fun k=>if k<wr.heap.size then c k else if k<w1.heap.size then 4 else if k<w2.heap.size then 2 else if k<w3.heap.size then 4 else 2:=⟨_,rfl⟩
 have q0:∀ k,k<wr.heap.size->q k=c k:=fun k hk=>by rw [hq];exact nC hk
 have q1:∀ k,wr.heap.size<=k->k<w1.heap.size->q k=4:=fun k h1 h2=>by rw [hq];dsimp only;rw [nB (by omega),nC h2]
 have q2:∀ k,w1.heap.size<=k->k<w2.heap.size->q k=2:=fun k h1 h2=>by rw [hq];dsimp only;rw [nB (by omega),nB (by omega),nC h2]
 have q3:∀ k,w2.heap.size<=k->k<w3.heap.size->q k=4:=fun k h1 h2=>by rw [hq];dsimp only;rw [nB (by omega),nB (by omega),nB (by omega),nC h2]
 have q4:∀ k,w3.heap.size<=k->q k=2:=fun k h1=>by rw [hq];dsimp only;rw [nB (by omega),nB (by omega),nB (by omega),nB (by omega)]
 clear hq;have qN:q N=0:=(q0 N hN).trans h.cN;have vhc:∀ k,vh.ownBlock=some k->k<wr.heap.size/\c k=4:=fun k hk=>⟨(h.o.h.row.lt k hk).2,(h.o.h.rb k hk).2⟩
 have vsc:∀ k,vs.ownBlock=some k->k<wr.heap.size/\c k=2:=fun k hk=>⟨(h.o.s.row.lt k hk).2,(h.o.s.rb k hk).2⟩
 have e12:∀ k,k<wr.heap.size->w2.heap[k]? = wr.heap[k]?:=fun k hk=>(b2.block k (by omega)).trans (b1.block k hk);have e3:∀ k,k<w2.heap.size->q k≠4->k≠N->(w3.setCell ⟨N,3,none⟩ v3).heap[k]? = w2.heap[k]?:=fun k hk hc hn=>(zO _ _ _ _ hn).trans (g3.block k hk fun e=>hc (by rw [q0 k (vhc k e.symm).1];exact (vhc k e.symm).2));have e4:∀ k,k<w3.heap.size->q k≠2->k≠N->(w4.setCell ⟨N,1,none⟩ v4).heap[k]? = (w3.setCell ⟨N,3,none⟩ v3).heap[k]?:=fun k hk hc hn=>(zO _ _ _ _ hn).trans (g4.block k (by rw [s3'];exact hk) fun e=>hc (by rw [q0 k (vsc k e.symm).1];exact (vsc k e.symm).2));have hP:∀ i k,Cl B c i k->k<wr.heap.size->Cl B q i k:=fun i k hk hl=>⟨hk.1,(q0 k hl).trans hk.2⟩
 have hnN:∀ i k,i≠0->Cl B q i k->k≠N:=fun i k hi hk e=>hi (by rw [<- hk.2,e,qN]);have eN2:w2.heap[N]? = wr.heap[N]?:=e12 N hN
 have eN3 : w3.heap[N]? = wr.heap[N]? := (g3.block N (by omega) fun e => by
  have:=(vhc N e.symm).2;rw [h.cN] at this
  cases this).trans eN2
 have eN4:w4.heap[N]? = (w3.setCell (aQ N 3) v3).heap[N]?:=g4.block N (by rw [s3'];omega) fun e=>by
  have:=(vsc N e.symm).2;rw [h.cN] at this;cases this
 obtain ⟨x0,x1,x2,x3⟩:=h.bx;have c3:∀ j,w3.cell? ⟨N,j,none⟩=wr.cell? ⟨N,j,none⟩:=fun j=>zH eN3;have c4:∀ j,w4.cell? ⟨N,j,none⟩=(w3.setCell ⟨N,3,none⟩ v3).cell? ⟨N,j,none⟩:=fun j=>zH eN4;have hkk:∀ i,i≠0->i≠2->i≠4->∀ k,Cl B q i k->k<wr.heap.size->(w4.setCell ⟨N,1,none⟩ v4).heap[k]? = wr.heap[k]?:=fun i h0 h2 h4 k hk hl=>((e4 k (by omega) (by rw [hk.2];exact h2) (hnN i k h0 hk)).trans (e3 k (by omega) (by rw [hk.2];exact h4) (hnN i k h0 hk))).trans (e12 k hl);refine ⟨q,⟨?_,?_,?_,?_⟩,fun j=>?_,qN,hBN,⟨?_,?_,?_,?_⟩⟩
 ·rw [World.cell?_setCell_other _ _ _ _ (by simp),c4,World.cell?_setCell_other _ _ _ _ (by simp),c3];exact x0
 ·exact World.cell?_setCell_same _ _ _ (((c4 1).trans ((World.cell?_setCell_other _ _ _ _ (by simp)).trans (c3 1))).trans x1)
 ·rw [World.cell?_setCell_other _ _ _ _ (by simp),c4,World.cell?_setCell_other _ _ _ _ (by simp),c3];exact x2
 ·rw [World.cell?_setCell_other _ _ _ _ (by simp),c4];exact World.cell?_setCell_same _ _ _ ((c3 3).trans x3)
 ·rw [World.frozen?_setCell,zI eN4,World.frozen?_setCell,zI eN3];exact h.fr j
 ·exact (h.o.p.mono (hP 1)).keep (hkk 1 (by decide) (by decide) (by decide))
 ·have hs':qac (w3.setCell (aQ N 3) v3) wr.heap.size ust (y.sS y.sn).p (y.sS y.sn).rs (y.sS y.sn).os (y.sS y.sn).c:=(hst.mono s1).blk fun k hk=>by
   have hl:=hst.lt hk;exact e3 k hl.2 (by rw [q2 k hl.1 hl.2];decide) (by omega)
  refine (h.o.s.pushP (w1:=w3.setCell (aQ N 3) v3) (w2:=w4) (P':=Cl B q 2) (by omega) (fun k hk hl=>?_) hs' hv4 g4 hv4' (hP 2) (fun k hk=>?_) (fun k h1 hk=>?_)).keep fun k hk _=>zO _ _ _ _ (hnN 2 k (by decide) hk)
  ·exact (e3 k (by omega) (by rw [(hP 2 k hk hl).2];decide) (hnN 2 k (by decide) (hP 2 k hk hl))).trans (e12 k hl)
  ·have hl:=hst.lt hk
   exact ⟨by omega,q2 k hl.1 hl.2⟩
  ·exact ⟨by omega,q4 k (by omega)⟩
 ·exact (h.o.t.mono (hP 3)).keep (hkk 3 (by decide) (by decide) (by decide))
 ·have hue2:w2.ownsRow wr.heap.size 49 3 ue (y.hL y.hn) (fE (y.hH y.hn) (y.hL y.hn)):=qas hue fun k hk=>b2.block k (hue.lt k hk).2
  refine (h.o.h.pushP (w1:=w2) (w2:=w3) (P':=Cl B q 4) (by omega) (fun k _ hl=>e12 k hl) hue2 (fun _=>hne) hv3 g3 hv3' (hP 4) (fun k hk=>?_) (fun k h1 hk=>?_)).keep fun k hk hl=>(e4 k hl (by rw [hk.2];decide) (hnN 4 k (by decide) hk)).trans (zO _ _ _ _ (hnN 4 k (by decide) hk))
  ·have hl:=hue.lt k hk
   exact ⟨by omega,q1 k hl.1 hl.2⟩
  ·exact ⟨by omega,q3 k h1 (hv3.lt k hk).2⟩
theorem AtP.putW {g cap:Nat} (h:AtP z B N c y wr vp vs (sG g y.wn cap) vh up us uw uh) {i:Nat} (hi:i<y.wn) {w1:World} {u':Value} {m:Nat} {H':Nat->I2} (hs:wr.heap.size<=w1.heap.size) (g1:∀ k,k<wr.heap.size->(uw i).ownBlock≠some k->w1.heap[k]? = wr.heap[k]?)
  (hu:w1.ownsRow 0 78 2 u' m (fT H' m)) (hne:u'≠nS) (hb:∀ k,u'.ownBlock=some k->(uw i).ownBlock=some k\/wr.heap.size<=k):
  AtP z B N (rcol c wr.heap.size 3) (y.setW i m H') (w1.setCell (aQ g i) u') vp vs (sG g y.wn cap) vh up us (fun j=>if j=i then u' else uw j) uh:=by
 have hN:=h.lt;have hgc:c g=3:=(h.o.t.rb g rfl).2;have hgN:N≠g:=fun e=>by rw [<- e,h.cN] at hgc;cases hgc
 have eN : (w1.setCell ⟨g, i, none⟩ u').heap[N]? = wr.heap[N]? := (Below.heap_setCell _ _ _ _ hgN).trans (g1 N hN fun e => by
  have:=(h.o.t.ob i hi N e).2;rw [h.cN] at this
  cases this)
 obtain ⟨x0,x1,x2,x3⟩:=h.bx;exact ⟨⟨(zH eN).trans x0,(zH eN).trans x1,(zH eN).trans x2,(zH eN).trans x3⟩,fun j=>(zI eN).trans (h.fr j),(qam hN).trans h.cN,h.bN,h.o.putW hi (zP h.bN (nJ hN)) hs g1 hu hne hb⟩
end
theorem BoxC.blkA {w w':World} {N:Nat} {p vr vo code:Value} (h:BoxC w N p vr vo code) (hb:w'.heap[N]? = w.heap[N]?):BoxC w' N p vr vo code:=by
 obtain ⟨h0,h1,h2,h3⟩:=h;exact ⟨(zH hb).trans h0,(zH hb).trans h1,(zH hb).trans h2,(zH hb).trans h3⟩
theorem AtP.startM {W1 w:World} {n:Nat} {L:Nat->Nat} {H:Nat->Nat->I5} {v1 v2 v3 v4:Value} (h:NwF W1 n L H true true false true v1 v2 v3 v4 w) (S:Nat->S4) (wH:Nat->Nat->I2) (d:Nat->Nat) (hH:Nat->Nat->E3):
  ∃ N c up,v4=.pointer (some ⟨N,0,none⟩)/\N<w.heap.size/\BoxC w N nS nS nS nS/\(∀ j,w.frozen? ⟨N,j,none⟩=false)/\W1.heap.size<=N/\AtP false W1.heap.size N c ⟨n,L,H,0,S,n*n,fun _=>0,wH,0,d,hH⟩ ((((w.setCell ⟨N,0,none⟩ v1).setCell ⟨N,1,none⟩ nS).setCell ⟨N,2,none⟩ v2).setCell ⟨N,3,none⟩ nS) v1 nS v2 nS up (fun _=>.slice none 0 0) (fun _=>.slice none 0 0) (fun _=>.slice none 0 0):=by
 obtain ⟨k,h1,h2,-,h4⟩:=h.ow;obtain ⟨N,e,hN,bx,fr,cN⟩:=h4 rfl;obtain ⟨u,o⟩:=h1 rfl;have hl:=zJ w _ bx.1
 have hk:∀ i,i≠0->∀ j,Cl W1.heap.size k i j->j<w.heap.size->((((w.setCell ⟨N,0,none⟩ v1).setCell ⟨N,1,none⟩ nS).setCell ⟨N,2,none⟩ v2).setCell ⟨N,3,none⟩ nS).heap[j]? = w.heap[j]?:=fun i hi j hj _=>by
  have hne:j≠N:=fun e=>hi (by rw [<- hj.2,e,cN]);exact (zO _ _ _ _ hne).trans ((zO _ _ _ _ hne).trans ((zO _ _ _ _ hne).trans (zO _ _ _ _ hne)))
 obtain ⟨g0,g1,g2,g3⟩:=id bx;exact ⟨N,k,u,e,hl,bx,fr,hN,BoxC.set4 ⟨g0,g1,g2,g3⟩ _ _ _ _,fun j=>by simp only [World.frozen?_setCell];exact fr j,cN,hN,⟨(o.keep (hk 1 (by decide))).weak,LS.nil _ _ _ _,((h2 rfl).keep (hk 3 (by decide))).ll (by decide) _ (fun _=>rfl),LL.nil _ _ _ _ _ _ _ _⟩⟩
