import Derived.Test.YtbgfjbgdiifghaaGreatDoorZn12
namespace Go.Proofs.YtbgfjbgdiifghaaGreatDoor
open Go.Proofs.Tryz
set_option maxRecDepth 100000
set_option maxHeartbeats 4000000
open Go.RowKit Go.Sort
structure Rl (w wr:World) (R Bs:Nat) (p code:Int) (ra:Option Addr) (rc:Nat) (oa:Option Addr) (oc:Nat) (rs os:List Int):Prop where
 tl:Tl wr (R+1) wr.heap.size Bs p code ra rs.length rc oa os.length oc rs os
 fz:∀ j,wr.frozen? ⟨Bs,j,none⟩=false
 rb:BoxC wr R (iV 0) nS nS (iV 0)
 rf:∀ j,wr.frozen? ⟨R,j,none⟩=false
 be:Bw w wr
 hR:R=w.heap.size
theorem Rl.bw {w wr w':World} {R Bs:Nat} {p code:Int} {ra:Option Addr} {rc:Nat} {oa:Option Addr} {oc:Nat} {rs os:List Int} (h:Rl w wr R Bs p code ra rc oa oc rs os) (hb:Bw wr w'):Rl w w' R Bs p code ra rc oa oc rs os:=by
 have zB:Bs<wr.heap.size:=h.tl.hi;have zR:R<wr.heap.size:=zJ wr _ h.rb.1;exact ⟨(h.tl.bw hb).widen hb.size (nA _),fun j=>(zI (hb.block Bs zB)).trans (h.fz j),h.rb.bw hb,fun j=>(zI (hb.block R zR)).trans (h.rf j),h.be.trans (hb.mono h.be.size),h.hR⟩
theorem Rl.next {w w9:World} {R Bs:Nat} {p code:Int} {ra:Option Addr} {rc:Nat} {oa:Option Addr} {oc:Nat} {rs os:List Int} (h:Rl w w9 R Bs p code ra rc oa oc rs os) {B7:Nat} {S:S4} {ra7 oa7:Option Addr} {rc7 oc7:Nat} (o9:qac w9 B7 (stV S.p ra7 S.rs.length rc7 oa7 S.os.length oc7 S.c) S.p S.rs S.os S.c) (hB:Bs<B7):Rl w ((((w9.setCell (aQ Bs 0) (iV S.p)).setCell (aQ Bs 1) (.slice ra7 S.rs.length rc7)).setCell (aQ Bs 2) (.slice oa7 S.os.length oc7)).setCell (aQ Bs 3) (iV S.c)) R Bs S.p S.c ra7 rc7 oa7 oc7 S.rs S.os:=by
 have hlo:=h.tl.lo;have hhi:=h.tl.hi;have hR:=h.hR;have gz:=qwe w9 Bs (iV S.p) (.slice ra7 S.rs.length rc7) (.slice oa7 S.os.length oc7) (iV S.c);have zR:R<w9.heap.size:=zJ w9 _ h.rb.1;have eR:=gz.block R zR (by simp;omega);obtain ⟨r0,r1,r2,r3⟩:=h.rb
 have ht:Tl ((((w9.setCell (aQ Bs 0) (iV S.p)).setCell (aQ Bs 1) (.slice ra7 S.rs.length rc7)).setCell (aQ Bs 2) (.slice oa7 S.os.length oc7)).setCell (aQ Bs 3) (iV S.c)) (R+1) w9.heap.size Bs S.p S.c ra7 S.rs.length rc7 oa7 S.os.length oc7 S.rs S.os:=by
  refine ⟨hlo,hhi,by simp,h.tl.box.set4 _ _ _ _,o9.put4 hB (by omega),fun j hj=>(o9.lt hj).2,fun hj=>?_⟩;have:=(o9.lt hj).1;omega
 have hbe:Below w.heap.size w9 ((((w9.setCell (aQ Bs 0) (iV S.p)).setCell (aQ Bs 1) (.slice ra7 S.rs.length rc7)).setCell (aQ Bs 2) (.slice oa7 S.os.length oc7)).setCell (aQ Bs 3) (iV S.c)):=⟨gz.os,gz.tape,gz.output,gz.size,fun k hk=>gz.block k (zL hk h.be.size) (by simp;omega)⟩
 have hfz:∀ j,((((w9.setCell ⟨Bs,0,none⟩ (iV S.p)).setCell ⟨Bs,1,none⟩ (.slice ra7 S.rs.length rc7)).setCell ⟨Bs,2,none⟩ (.slice oa7 S.os.length oc7)).setCell ⟨Bs,3,none⟩ (iV S.c)).frozen? ⟨Bs,j,none⟩=false:=fun j=>by
  rw [World.frozen?_setCell,World.frozen?_setCell,World.frozen?_setCell,World.frozen?_setCell];exact h.fz j
 have hrf:∀ j,((((w9.setCell ⟨Bs,0,none⟩ (iV S.p)).setCell ⟨Bs,1,none⟩ (.slice ra7 S.rs.length rc7)).setCell ⟨Bs,2,none⟩ (.slice oa7 S.os.length oc7)).setCell ⟨Bs,3,none⟩ (iV S.c)).frozen? ⟨R,j,none⟩=false:=fun j=>by
  rw [World.frozen?_setCell,World.frozen?_setCell,World.frozen?_setCell,World.frozen?_setCell];exact h.rf j
 have hgs:=gz.size;have hrb:BoxC ((((w9.setCell (aQ Bs 0) (iV S.p)).setCell (aQ Bs 1) (.slice ra7 S.rs.length rc7)).setCell (aQ Bs 2) (.slice oa7 S.os.length oc7)).setCell (aQ Bs 3) (iV S.c)) R (iV 0) nS nS (iV 0):=⟨(zH eR).trans r0,(zH eR).trans r1,(zH eR).trans r2,(zH eR).trans r3⟩
 have hbe2:=h.be.trans hbe;generalize (((w9.setCell (aQ Bs 0) (iV S.p)).setCell (aQ Bs 1) (.slice ra7 S.rs.length rc7)).setCell (aQ Bs 2) (.slice oa7 S.os.length oc7)).setCell (aQ Bs 3) (iV S.c)=wz at *;exact ⟨ht.widen hgs (nA _),hfz,hrb,hrf,hbe2,hR⟩
theorem Rl.done {w wr:World} {R Bs:Nat} {p code:Int} {ra:Option Addr} {rc:Nat} {oa:Option Addr} {oc:Nat} {rs os:List Int} (h:Rl w wr R Bs p code ra rc oa oc rs os) (a b c d:Value):Bw w ((((wr.setCell (aQ R 0) a).setCell (aQ R 1) b).setCell (aQ R 2) c).setCell (aQ R 3) d)/\qac ((((wr.setCell (aQ R 0) a).setCell (aQ R 1) b).setCell (aQ R 2) c).setCell (aQ R 3) d) w.heap.size (stV p ra rs.length rc oa os.length oc code) p rs os code:=by
 have hR:=h.hR;have gz:=qwe wr R a b c d;exact ⟨h.be.trans ⟨gz.os,gz.tape,gz.output,gz.size,fun k hk=>gz.block k (zL hk h.be.size) (by simp;omega)⟩,h.tl.own.put4 (Nat.lt_succ_self _) (by omega)⟩
theorem qac.nil (w:World) (B:Nat):qac w B (stV 0 none 0 0 none 0 0 0) 0 [] [] 0:=⟨_,_,rfl,World.ownsRow_nil _ _ _ _,World.ownsRow_nil _ _ _ _,fun k e=>by cases e⟩
theorem qac.dr {w:World} {B:Nat} {v:Value} {p code:Int} {rs os:List Int} (h:qac w B v p rs os code):qac w.drew B v p rs os code:=by
 obtain ⟨vr,vo,e,h1,h2,h3⟩:=h;exact ⟨vr,vo,e,h1.drewN 1,h2.drewN 1,h3⟩
theorem qqr (gb n gc:Nat) (ea:Option Addr) (m ec:Nat) (g:Nat->I5) (eh:Nat->E3) (w:World) (hg:gb<w.heap.size) (hI:qaq w gb 0 n g) (hE:EvL w ea m eh) (hm:m<=1048576) (hp:qaa g n 4=true):
  Calls prog 89 #[.slice (some (aQ gb 0)) n gc,.slice ea m ec] w (qc2 w (resS (rp g n eh m)) (rp g n eh m).isSome):=by
 have HI:Hid (qaq w gb 0 n g):=hI;have HE:Hid (EvL w ea m eh):=hE;have HP:Hid (qaa g n 4=true):=hp;have hm':(m:Int)<=1048576:=by omega
 clear hI hE hp
 go_enter func89,ntmps89
 go_wp2_with fail
 refine (qd0 _).mono ?_;rintro e w2 ⟨v2,rfl,o2,b2⟩;obtain ⟨ra2,rc2,oa2,oc2,rfl,-,-⟩:=o2.read;have bA:=zT w (zQ0);have bB:=zT w2 (oQ0 0 ra2 4 rc2 oa2 0 oc2 0)
 have D2:Hid (Rl w (w2.alloc (oQ0 0 ra2 4 rc2 oa2 0 oc2 0)) w.heap.size w2.heap.size 0 0 ra2 rc2 oa2 oc2 [0,0,0,0] []):=by
  have bC:Below (w.heap.size+1) (w.alloc (zQ0)) (w2.alloc (oQ0 0 ra2 4 rc2 oa2 0 oc2 0)):=by
   have h:=b2.trans (bB.mono b2.size)
   (try dsimp only [aW] at h);rw [World.size_alloc] at h
   exact h
  have z2:w.heap.size+1<=w2.heap.size:=by have:=b2.size;simp at this;exact this
  have eR:=bC.block w.heap.size (by omega)
  have o2':qac w2 (w.heap.size+1) (stV 0 ra2 4 rc2 oa2 0 oc2 0) 0 [0,0,0,0] [] 0:=by
   have h:=o2
   (try dsimp only [aW] at h);rw [World.size_alloc] at h
   exact h
  obtain ⟨r0,r1,r2,r3⟩:=BoxC.new w (iV 0) nS nS (iV 0) 66;refine ⟨(Tl.of_alloc o2' z2 _).widen (by simp) (nA _),fun j=>yB _ _ _ j rfl,⟨(zH eR).trans r0,(zH eR).trans r1,(zH eR).trans r2,(zH eR).trans r3⟩,fun j=>(zI eR).trans (yB _ _ _ j rfl),bA.trans (bC.mono (by omega)),rfl⟩
 clear o2 b2 bA bB;go_wp2_with fail
 generalize w2.alloc (oQ0 0 ra2 4 rc2 oa2 0 oc2 0)=w3 at *;generalize w2.heap.size=Bs at *
 go_loopw [7] (fun i wr=>∃ k:Nat,k<=m/\i=.int .i64 k/\Hid (∃ S ra rc oa oc,rp g n eh k=some S/\OkS n S/\Rl w wr w.heap.size Bs S.p S.c ra rc oa oc S.rs S.os)) (fun i _=>m - (intOf i).toNat)
 case atStart=>exact ⟨0,nD _,rfl,newS,_,_,_,_,rfl,qka HP.out,D2.out⟩
 case round=>
  clear D2;obtain ⟨k,hk,rfl,HD⟩:=hrel;obtain ⟨S0,ra,rc,oa,oc,hrp,hok,hD⟩:=HD.out;obtain ⟨p,rs,os,code⟩:=S0;dsimp only at hD;have DRl:Hid (Rl w wr w.heap.size Bs p code ra rc oa oc rs os):=hD;have HRP:Hid (rp g n eh k=some ⟨p,rs,os,code⟩/\OkS n ⟨p,rs,os,code⟩):=⟨hrp,hok⟩
  clear HD hD hrp hok;obtain ⟨c0,c1,c2,c3⟩:=DRl.tl.box;obtain ⟨r0,r1,r2,r3⟩:=DRl.rb;have rf:=DRl.rf;have cf:=DRl.fz;have dR:Bs≠w.heap.size:=by have:=DRl.tl.lo;omega
  have dR':w.heap.size≠Bs:=fun e=>dR e.symm;have zB:Bs<wr.heap.size:=DRl.tl.hi;have zR:w.heap.size<wr.heap.size:=by have:=DRl.tl.lo;omega
  by_cases hlt:k<m
  ·have hlt':(k:Int)<(m:Int):=by omega
   rcases zK (code != 0) with tc | tc
   ·have HZ:Hid (rp g n eh m=none):=qed (qtj HRP.1 (qum (S:=⟨p,rs,os,code⟩) (by simpa using tc))) (by omega)
    go_wp2_with fail
    refine bodyPost_ret (v:=.tuple #[stV 0 none 0 0 none 0 0 0,.bool false]) (by simp [results,results89,go_sem,r0,r1,r2,r3]) rfl ?_;rw [HZ.out];exact ⟨_,rfl,qac.nil _ _,(DRl.done _ _ _ _).1⟩
   ·have hc0:code=0:=by simpa using tc
    subst hc0;have hright:=qps (S:=⟨p,rs,os,0⟩) HP.out HRP.2 rfl;dsimp only at hright;obtain ⟨-,⟨pk,hpk,hpn⟩,-,-⟩:=qbq (qa7 hright).2.1;subst hpk;have HRT:Hid (qbj g n (pk:Int) rs os 0=true):=hright;have hSok:doB g n pk rs os 0 (eh k).k (eh k).q (eh k).v=true->OkS n (doS g n pk rs os 0 (eh k).k (eh k).q (eh k).v):=qo2;have hyes:=qtl (S:=⟨pk,rs,os,0⟩) HRP.1;have hnot:=qtj (S:=⟨pk,rs,os,0⟩) HRP.1;dsimp only at hyes hnot;generalize hS:doS g n pk rs os 0 (eh k).k (eh k).q (eh k).v=S at hSok hyes;generalize hT:doB g n pk rs os 0 (eh k).k (eh k).q (eh k).v=T at hSok hyes hnot;have HN:Hid (doS g n pk rs os 0 (eh k).k (eh k).q (eh k).v=S/\doB g n pk rs os 0 (eh k).k (eh k).q (eh k).v=T):=⟨hS,hT⟩
    have HY:Hid ((T=true->rp g n eh (k+1)=some S/\OkS n S)/\(T=false->rp g n eh (k+1)=none)):=⟨fun h=>⟨hyes h,hSok h⟩,hnot⟩
    clear hS hT hSok hyes hnot hright;obtain ⟨eb,eo,rfl,ze,k0,k1,k2⟩:=(HE.bw DRl.be).at hlt;have HEA:Hid (EvAt wr eb eo m eh/\eb<wr.heap.size):=(HE.bw DRl.be).one hlt;have d1:wr.heap.size≠Bs:=by omega
    have d2:wr.heap.size≠eb:=by omega
    go_wp2_with fail
    go_cut [8,9] from 21 to 30 (fun s t wx=>∃ M:Nat,s=.pointer (some (aQ M 0))/\t=.bool T/\Hid (Bw wr wx/\Told wx wr.heap.size M S))
    case first=>
     go_region_held3 (fun w'=>w'.cell? (aQ Bs 0)=some (iV pk)/\w'.cell? (aQ Bs 1)=some (.slice ra rs.length rc)/\w'.cell? (aQ Bs 2)=some (.slice oa os.length oc)/\w'.cell? (aQ Bs 3)=some (iV 0)/\w'.cell? ⟨eb,eo+k*3,none⟩=some (iV (eh k).k)/\w'.cell? ⟨eb,eo+k*3+1,none⟩=some (iV (eh k).q)/\w'.cell? ⟨eb,eo+k*3+2,none⟩=some (iV (eh k).v)) (go_keep)
      (first
       | (go_at_call 110;refine (qpf gb 0 n gc pk g ra oa rc oc rs os (eh k).k (eh k).q (eh k).v _ (zL hg (DRl.bw (by go_grown)).be.size) (HI.bw (DRl.bw (by go_grown)).be hg) (DRl.bw (by go_grown)).tl.sl.1 (DRl.bw (by go_grown)).tl.sl.2 HRT.out).mono ?_;rintro e w5 hd;rw [HN.1,HN.2] at hd;obtain ⟨v5,rfl,o5,b5⟩:=hd;obtain ⟨ra5,rc5,oa5,oc5,rfl,-,-⟩:=o5.read;have q5:Bw wr w5:=qah (by go_grown) b5 (by simp);obtain ⟨y0,y1,y2,y3⟩:=(DRl.bw q5).tl.box;obtain ⟨y4,y5,y6⟩:=HEA.1.bw q5 HEA.2 k hlt;(try simp only [World.size_alloc,World.size_drew] at o5);have O5:Hid (qac w5 _ (stV S.p ra5 S.rs.length rc5 oa5 S.os.length oc5 S.c) S.p S.rs S.os S.c):=o5;obtain ⟨hc5,hf5⟩:=qal b5;have z5:=b5.size;(try simp only [World.size_alloc,World.size_drew,Nat.add_one_le_iff] at z5);have j5:wr.heap.size<=w5.heap.size:=q5.size;have Q5:Hid (Bw wr w5):=q5;clear o5 b5 q5))
     all_goals
      go_wp2_with fail
      go_meet
      case rel=>
       first
       | (refine ⟨w5.heap.size, by with_reducible rfl, rfl, ?_⟩
          exact ⟨Q5.trans ((zT _ _).mono j5),Told.of_alloc O5.out (by omega) (by omega) _⟩)
       | (refine ⟨wr.heap.size, by with_reducible rfl, rfl, ?_⟩
          exact ⟨(((Q5.setCell (nA _) _).setCell (nA _) _).setCell (nA _) _).setCell (nA _) _,Told.of_put (z0:=iV 0) (z1:=nS) (z2:=nS) (z3:=iV 0) O5.out (by omega) (by omega) (by omega) ⟨by rw [hc5 _ _ (by simp)];simp,by rw [hc5 _ _ (by simp)];simp,by rw [hc5 _ _ (by simp)];simp,by rw [hc5 _ _ (by simp)];simp⟩⟩)
    case rest=>
     obtain ⟨M,rfl,rfl,HM⟩:=hcut;have bG:=HM.1;obtain ⟨ra5,rc5,oa5,oc5,TG⟩:=HM.2.tl;have D6:Hid (Rl w wc w.heap.size Bs pk 0 ra rc oa oc rs os):=DRl.bw bG;have O6:Hid (qac wc wr.heap.size (stV S.p ra5 S.rs.length rc5 oa5 S.os.length oc5 S.c) S.p S.rs S.os S.c):=TG.own;have zM:=TG.lo;clear c0 c1 c2 c3 r0 r1 r2 r3 rf cf k0 k1 k2 HM bG;obtain ⟨c0,c1,c2,c3⟩:=D6.tl.box;obtain ⟨r0,r1,r2,r3⟩:=D6.rb;obtain ⟨n0,n1,n2,n3⟩:=TG.box;have rf:=D6.rf;have cf:=D6.fz;have dN:M≠Bs:=by omega
     have dN':Bs≠M:=by omega
     have dM:M≠w.heap.size:=by omega
     clear TG;cases T
     case false=>
      have HZ:Hid (rp g n eh m=none):=qed (HY.2 rfl) (by omega);go_wp2_with fail
      refine bodyPost_ret (v:=.tuple #[stV 0 none 0 0 none 0 0 0,.bool false]) (by simp [results,results89,go_sem,r0,r1,r2,r3]) rfl ?_;rw [HZ.out];exact ⟨_,rfl,qac.nil _ _,(D6.done _ _ _ _).1⟩
     case true=>
      have HW:Hid (rp g n eh (k+1)=some S/\OkS n S):=HY.1 rfl;go_wp2;go_roundw
      case rel=>exact ⟨k+1,by omega,by go_num,S,_,_,_,_,HW.1,HW.2,D6.next O6.out zB⟩
      case measure=>simp [intOf];omega
  ·have hkm:k=m:=by omega
   have HZ:Hid (rp g n eh m=some ⟨p,rs,os,code⟩):=by
    have:=HRP.1;rw [hkm] at this;exact this
   go_wp2_with fail
   refine bodyPost_ret (v:=.tuple #[stV p ra rs.length rc oa os.length oc code,.bool true]) (by simp [results,results89,go_sem,r0,r1,r2,r3]) rfl ?_;rw [HZ.out];exact ⟨_,rfl,(DRl.done _ _ _ _).2,(DRl.done _ _ _ _).1⟩
def repO (g:Nat->I5) (n:Nat) (eh:Nat->E3) (m:Nat):Option S4:=if qaa g n 4=true/\m<=200 then rp g n eh m else none
theorem qhf (gb n gc:Nat) (ea:Option Addr) (m ec:Nat) (g:Nat->I5) (eh:Nat->E3) (w:World) (hn:n<=maxLen) (hg:gb<w.heap.size) (hI:qaq w gb 0 n g) (hE:EvL w ea m eh) (hm:m<=1048576):
  Calls prog 50 #[.slice (some (aQ gb 0)) n gc,.slice ea m ec] w (qc2 w (resS (repO g n eh m)) (repO g n eh m).isSome):=by
 have HI:Hid (qaq w gb 0 n g):=hI;have HE:Hid (EvL w ea m eh):=hE;have HL:Hid (n<=maxLen):=hn;have hm':(m:Int)<=1048576:=by omega
 clear hI hE hn;have bA:=zT w (zQ0);have BA:Hid (Bw w (w.alloc (zQ0))):=bA;have NB:Hid (BoxC (w.alloc (zQ0)) w.heap.size (iV 0) nS nS (iV 0)/\∀ j,(w.alloc (zQ0)).frozen? ⟨w.heap.size,j,none⟩=false):=⟨BoxC.new w _ _ _ _ _,fun j=>yB _ _ _ j rfl⟩
 clear bA
 go_enter func50,ntmps50
 go_wp2_with fail
 have hz:(w.alloc (zQ0)).heap.size=w.heap.size+1:=by simp
 generalize w.alloc (zQ0)=wa at *;refine (qfa gb 0 n gc g 4 wa HL.out (zL hg BA.size) (HI.bw BA.out hg)).mono ?_;rintro e w1 ⟨rfl,b1⟩;have zR:w.heap.size<w1.heap.size:=by have:=b1.size;omega
 have N1:Hid (BoxC w1 w.heap.size (iV 0) nS nS (iV 0)/\∀ j,w1.frozen? ⟨w.heap.size,j,none⟩=false):=⟨NB.1.bw b1,fun j=>(zI (b1.block w.heap.size (by omega))).trans (NB.2 j)⟩
 have B1:Hid (Bw w w1):=BA.trans (b1.mono BA.size);clear b1 NB BA hz;obtain ⟨⟨r0,r1,r2,r3⟩,rf⟩:=N1.out;have hput:∀ (a b c d:Value),Bw w ((((w1.setCell ⟨w.heap.size,0,none⟩ a).setCell ⟨w.heap.size,1,none⟩ b).setCell ⟨w.heap.size,2,none⟩ c).setCell ⟨w.heap.size,3,none⟩ d):=fun a b c d=>(((B1.setCell (nA _) _).setCell (nA _) _).setCell (nA _) _).setCell (nA _) _;have HPut:Hid (∀ (a b c d:Value),Bw w ((((w1.setCell ⟨w.heap.size,0,none⟩ a).setCell ⟨w.heap.size,1,none⟩ b).setCell ⟨w.heap.size,2,none⟩ c).setCell ⟨w.heap.size,3,none⟩ d)):=hput;clear hput
 rcases zK (qaa g n 4) with tp | tp
 ·by_cases h2:m<=200
  ·have h2':¬ (200:Int)<(m:Int):=by omega
   have HO:Hid (repO g n eh m=rp g n eh m):=by
    show repO g n eh m=rp g n eh m;unfold repO;rw [nC ⟨tp,h2⟩]
   have HP:Hid (qaa g n 4=true):=tp;go_wp2_with fail
   refine (qqr gb n gc ea m ec g eh w1 (zL hg B1.size) (HI.bw B1.out hg) (HE.bw B1.out) hm HP.out).mono ?_;rintro e w2 hd;rw [<- HO.out] at hd;generalize repO g n eh m=O at *;obtain ⟨v2,rfl,o2,b2⟩:=hd;obtain ⟨ra2,rc2,oa2,oc2,rfl,-,-⟩:=o2.read;have eR:=b2.block w.heap.size zR;have q0:=(zH eR).trans r0;have q1:=(zH eR).trans r1;have q2:=(zH eR).trans r2;have q3:=(zH eR).trans r3;have qf:∀ j,w2.frozen? ⟨w.heap.size,j,none⟩=false:=fun j=>(zI eR).trans (rf j);have B2:Hid (Bw w w2):=B1.trans (b2.mono B1.size);have O2:Hid (qac w2 w1.heap.size (stV (resS O).p ra2 (resS O).rs.length rc2 oa2 (resS O).os.length oc2 (resS O).c) (resS O).p (resS O).rs (resS O).os (resS O).c):=o2;clear o2 b2 eR r0 r1 r2 r3 rf;go_wp2;refine bodyPost_ret (v:=.tuple #[stV (resS O).p ra2 (resS O).rs.length rc2 oa2 (resS O).os.length oc2 (resS O).c,.bool O.isSome]) (by simp [results,results50,go_sem,q0,q1,q2,q3]) rfl ⟨_,rfl,?_,?_⟩
   ·exact O2.put4 zR (by omega)
   ·exact (((B2.setCell (nA _) _).setCell (nA _) _).setCell (nA _) _).setCell (nA _) _
  ·have h2':(200:Int)<(m:Int):=by omega
   have HO:Hid (repO g n eh m=none):=by
    show repO g n eh m=none;unfold repO;rw [nB (by omega)]
   go_wp2;refine bodyPost_ret (v:=.tuple #[stV 0 none 0 0 none 0 0 0,.bool false]) (by simp [results,results50,go_sem,r0,r1,r2,r3]) rfl ?_;rw [HO.out];exact ⟨_,rfl,qac.nil _ _,HPut.out _ _ _ _⟩
 ·have HO:Hid (repO g n eh m=none):=by
   show repO g n eh m=none;unfold repO;rw [nB (by rw [tp];simp)]
  go_wp2;refine bodyPost_ret (v:=.tuple #[stV 0 none 0 0 none 0 0 0,.bool false]) (by simp [results,results50,go_sem,r0,r1,r2,r3]) rfl ?_;rw [HO.out];exact ⟨_,rfl,qac.nil _ _,HPut.out _ _ _ _⟩
theorem qpp (g:Nat->I5) (n:Nat) (eh:Nat->E3) (m:Nat):(resS (repO g n eh m)).rs.length<=1048576/\(resS (repO g n eh m)).os.length<=1048576:=by
 unfold repO
 split
 ·rename_i h
  have hk:∀ k S,rp g n eh k=some S->OkS n S:=by
   intro k
   induction k with
   | zero=>
    intro S hS;simp only [rp,nG] at hS;rw [<- hS];exact qka h.1
   | succ k ih=>
    intro S hS;simp only [rp] at hS;cases hr:rp g n eh k with
    | none=>rw [hr] at hS;cases hS
    | some S0=>
     rw [hr] at hS;simp only [Option.bind_some,qcz] at hS
     split at hS
     ·rename_i hd
      simp only [nG] at hS;rw [<- hS];exact qo2 hd
     ·cases hS
  cases hr:rp g n eh m with
  | none=>simp [resS]
  | some S=>
   have:=OkS.len (hk m S hr);simp only [resS,Option.getD_some];omega
 ·simp [resS]
theorem qdy (w:World):
  Calls prog 117 #[] w fun e w'=>∃ v,e=.returned v/\qac w' w.heap.size v 0 [0,0,0,0] [] 0/\Bw w w':=by
 have hmk:∀ w:World,(Instr.makeSlice 41 (iV 4) (iV 4)).run prog w=.ok (sG w.heap.size 4 4) (w.alloc (.cells (madeCells #[iV 0] 4) 3)):=fun w=>qef 4 (by omega) w;have HM:Hid (∀ w:World,OwnI (w.alloc (.cells (madeCells #[iV 0] 4) 3)) w.heap.size (sG w.heap.size 4 4) [0,0,0,0]):=fun w=>qpg w 4 (by omega)
 go_enter func117,ntmps117
 go_wp2;have hB:w.heap.size<=w.heap.size+1:=by omega
 have hM:=HM.out (w.alloc (oQ0 0 (some ⟨w.heap.size+1,0,none⟩) 4 4 none 0 0 0))
 (try dsimp only [aW] at hM);rw [World.size_alloc] at hM
 refine bodyPost_ret (v:=stV 0 (some ⟨w.heap.size+1,0,none⟩) 4 4 none 0 0 0) (by simp [results,results117,go_sem]) rfl ⟨_,rfl,⟨_,_,rfl,hM.mono hB,World.ownsRow_nil _ _ _ _,fun k _=>by simp [Value.ownBlock]⟩,by go_grown⟩
structure Rn (w wr:World) (A B C gb n gc k:Nat) (p code:Int) (ra:Option Addr) (rc:Nat) (oa:Option Addr) (oc:Nat) (rs os:List Int):Prop where
 la:wr.cell? (aQ A 0)=some (sG gb n gc)
 tl:Tl wr w.heap.size wr.heap.size B p code ra rs.length rc oa os.length oc rs os
 fb:∀ j,wr.frozen? ⟨B,j,none⟩=false
 ck:wr.cell? (aQ C 0)=some (iV k)
 fc:wr.frozen? (aQ C 0)=false
 ne:A≠B/\C≠B/\A≠C/\w.heap.size<=A/\w.heap.size<=C
 nh:¬ qak (stV p ra rs.length rc oa os.length oc code) A/\¬ qak (stV p ra rs.length rc oa os.length oc code) C
 be:Bw w wr
theorem qtp (gb n gc:Nat) (g:Nat->I5) (w:World) (hn:n<=maxLen) (hg:gb<w.heap.size) (hI:qaq w gb 0 n g) (hp:qaa g n 4=true):
  Calls prog 116 #[.slice (some (aQ gb 0)) n gc] w fun e w'=>∃ A B C ra rc oa oc,e=.returned (.tuple #[.func (.func 134) #[] #[.pointer (some (aQ A 0)),.pointer (some (aQ B 0)),.pointer (some (aQ C 0))],.nilIface])/\Rn w w' A B C gb n gc 0 0 0 ra rc oa oc [0,0,0,0] []:=by
 have HI:Hid (qaq w gb 0 n g):=hI;have HL:Hid (n<=maxLen):=hn;have HP:Hid (qaa g n 4=true):=hp;clear hI hn
 go_enter func116,ntmps116
 go_wp2_with fail
 refine (qdd gb 0 n gc g 4 _ HL.out (by simp;omega) (HI.bw (by go_grown) hg)).mono ?_;rintro e w1 ⟨rfl,b1⟩;have B1:Hid (Bw w w1):=qah (by go_grown) b1 (by simp);have z1:w.heap.size<w1.heap.size:=by have:=b1.size;simp at this;omega
 have l1:w1.cell? (aQ w.heap.size 0)=some (sG gb n gc):=by rw [(qal b1).1 _ _ (by simp)];simp
 clear b1;go_wp2_with fail
 refine (qdy _).mono ?_;rintro e w2 ⟨v2,rfl,o2,b2⟩;obtain ⟨ra2,rc2,oa2,oc2,rfl,-,-⟩:=o2.read;have z2:=b2.size;have bz:Bw w2 ((w2.alloc (oQ0 0 ra2 4 rc2 oa2 0 oc2 0)).alloc (.cells #[iV 0] 3)):=by go_grown
 have bq:=zT (w2.alloc (oQ0 0 ra2 4 rc2 oa2 0 oc2 0)) (.cells #[iV 0] 3);have b12:=b2.trans (bz.mono b2.size)
 have HR:Hid (Rn w ((w2.alloc (oQ0 0 ra2 4 rc2 oa2 0 oc2 0)).alloc (.cells #[iV 0] 3)) w.heap.size w2.heap.size (w2.heap.size+1) gb n gc 0 0 0 ra2 rc2 oa2 oc2 [0,0,0,0] []):=by
  have o2':qac w2 w.heap.size (stV 0 ra2 4 rc2 oa2 0 oc2 0) 0 [0,0,0,0] [] 0:=o2.mono (by omega);refine ⟨(zH (b12.block w.heap.size z1)).trans l1,((Tl.of_alloc o2' (by omega) _).bw bq).widen (by simp) (nA _),fun j=>?_,?_,?_,⟨by omega,by omega,by omega,by omega,by omega⟩,⟨fun h=>?_,fun h=>?_⟩,B1.trans (b12.mono B1.size)⟩
  ·rw [zI (bq.block w2.heap.size (by simp))]
   exact yB _ _ _ j rfl
  ·have:=zW (w2.alloc (oQ0 0 ra2 4 rc2 oa2 0 oc2 0)) #[iV 0] 3 0 rfl
   (try dsimp only [aW] at this);rw [World.size_alloc] at this
   exact this
  ·have:=yB (w2.alloc (oQ0 0 ra2 4 rc2 oa2 0 oc2 0)) #[iV 0] 3 0 rfl
   (try dsimp only [aW] at this);rw [World.size_alloc] at this
   exact this
  ·have:=(o2.lt h).1
   omega
  ·have:=(o2.lt h).2
   omega
 clear o2 b2 bz bq b12 l1;go_wp2;exact bodyPost_ret (v:=.tuple #[.func (.func 134) #[] #[.pointer (some ⟨w.heap.size,0,none⟩),.pointer (some ⟨w2.heap.size,0,none⟩),.pointer (some ⟨w2.heap.size+1,0,none⟩)],.nilIface]) (by simp [results,results116,go_sem]) rfl ⟨_,_,_,_,_,_,_,rfl,HR.out⟩
theorem qac.set1 {w:World} {B N:Nat} {v:Value} {p code:Int} {rs os:List Int} (h:qac w B v p rs os code) (hN:N<B) (j:Nat) (u:Value):qac (w.setCell (aQ N j) u) B v p rs os code:=by
 obtain ⟨vr,vo,e,o1,o2,ha⟩:=h;exact ⟨vr,vo,e,o1.setBelow hN _,o2.setBelow hN _,ha⟩
theorem Rn.bw {w wr w':World} {A B C gb n gc k:Nat} {p code:Int} {ra:Option Addr} {rc:Nat} {oa:Option Addr} {oc:Nat} {rs os:List Int} (h:Rn w wr A B C gb n gc k p code ra rc oa oc rs os) (hb:Bw wr w'):Rn w w' A B C gb n gc k p code ra rc oa oc rs os:=
 ⟨(zH (hb.block A (zJ wr _ h.la))).trans h.la,(h.tl.bw hb).widen hb.size (nA _),fun j=>(zI (hb.block B h.tl.hi)).trans (h.fb j),(zH (hb.block C (zJ wr _ h.ck))).trans h.ck,(zI (hb.block C (zJ wr _ h.ck))).trans h.fc,h.ne,h.nh,h.be.trans (hb.mono h.be.size)⟩
theorem Rn.next {w w4:World} {A B C gb n gc k:Nat} {p code:Int} {ra:Option Addr} {rc:Nat} {oa:Option Addr} {oc:Nat} {rs os:List Int} (h:Rn w w4 A B C gb n gc k p code ra rc oa oc rs os) {B7 R1:Nat} {S:S4} {ra7 oa7:Option Addr} {rc7 oc7:Nat} (o:qac w4 B7 (stV S.p ra7 S.rs.length rc7 oa7 S.os.length oc7 S.c) S.p S.rs S.os S.c) (hA:A<B7) (hB:B<B7) (hC:C<B7) (hR:R1<B7) (n1:R1≠A) (n2:R1≠B) (n3:R1≠C) (n4:w.heap.size<=R1) (z7:w.heap.size<=B7):
  Rn w (((((((((w4.setCell (aQ B 0) (iV S.p)).setCell (aQ B 1) (.slice ra7 S.rs.length rc7)).setCell (aQ B 2) (.slice oa7 S.os.length oc7)).setCell (aQ B 3) (iV S.c)).setCell (aQ C 0) (iV ((k+1:Nat):Int))).setCell (aQ R1 0) (iV S.p)).setCell (aQ R1 1) (.slice ra7 S.rs.length rc7)).setCell (aQ R1 2) (.slice oa7 S.os.length oc7)).setCell (aQ R1 3) (iV S.c)) A B C gb n gc (k+1) S.p S.c ra7 rc7 oa7 oc7 S.rs S.os:=by
 obtain ⟨e1,e2,e3,e4,e5⟩:=h.ne;have zB:=h.tl.hi;have lB:=h.tl.lo;have o7:qac (((((((((w4.setCell (aQ B 0) (iV S.p)).setCell (aQ B 1) (.slice ra7 S.rs.length rc7)).setCell (aQ B 2) (.slice oa7 S.os.length oc7)).setCell (aQ B 3) (iV S.c)).setCell (aQ C 0) (iV ((k+1:Nat):Int))).setCell (aQ R1 0) (iV S.p)).setCell (aQ R1 1) (.slice ra7 S.rs.length rc7)).setCell (aQ R1 2) (.slice oa7 S.os.length oc7)).setCell (aQ R1 3) (iV S.c)) B7 (stV S.p ra7 S.rs.length rc7 oa7 S.os.length oc7 S.c) S.p S.rs S.os S.c:=((((((((o.set1 hB _ _).set1 hB _ _).set1 hB _ _).set1 hB _ _).set1 hC _ _).set1 hR _ _).set1 hR _ _).set1 hR _ _).set1 hR _ _;obtain ⟨b0,b1,b2,b3⟩:=h.tl.box;have la:=h.la;have ck:=h.ck;have dAB:(⟨B,0,none⟩:Addr).block≠(⟨A,0,none⟩:Addr).block:=fun e=>e1 e.symm;dsimp only [aQ] at *;refine ⟨?_,⟨lB,by simp;exact zB,nA _,⟨?_,?_,?_,?_⟩,o7.mono z7,fun j hj=>(o7.lt hj).2,fun hj=>?_⟩,fun j=>?_,?_,?_,⟨e1,e2,e3,e4,e5⟩,⟨fun hj=>?_,fun hj=>?_⟩,?_⟩
 ·(dsimp only [aQ];have dAC:(⟨B,0,none⟩:Addr).block≠(⟨A,0,none⟩:Addr).block:=fun e=>e1 e.symm;go_cell)
 ·go_cell
 ·go_cell
 ·go_cell
 ·go_cell
 ·have:=(o.lt hj).1
  omega
 ·simp only [World.frozen?_setCell]
  exact h.fb j
 ·go_cell
 ·simp only [World.frozen?_setCell]
  exact h.fc
 ·have:=(o.lt hj).1
  omega
 ·have:=(o.lt hj).1
  omega
 ·exact ((((((((h.be.setCell lB _).setCell lB _).setCell lB _).setCell lB _).setCell e5 _).setCell n4 _).setCell n4 _).setCell n4 _).setCell n4 _
