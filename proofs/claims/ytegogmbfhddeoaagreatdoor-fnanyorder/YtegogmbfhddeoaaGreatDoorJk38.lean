import Derived.Test.YtegogmbfhddeoaaGreatDoorJk36
import Derived.Test.YtegogmbfhddeoaaGreatDoorJk30
import Derived.Test.YtegogmbfhddeoaaGreatDoorJk33
namespace Go.Proofs.YtegogmbfhddeoaaGreatDoor
set_option maxRecDepth 100000
set_option maxHeartbeats 4000000
open Go.ChangeShapes Go.WideShapes Go.ChangeAt Go.RowKit Go.Deep
theorem qaw.formJ {w:World} {B:Nat} {y:Sy} {v:Value} (o:qaw true w B y v):∃ pa pc sa sc wa wc ha hc,v=sysV pa y.pn pc sa y.sn sc wa y.wn wc ha y.hn hc:=by
 obtain ⟨c,vp,vs,vw,vh,up,us,uw,uh,rfl,o⟩:=o;obtain ⟨pa,pc,rfl⟩:=zU o.p.row;obtain ⟨sa,sc,rfl⟩:=zU o.s.row;obtain ⟨wa,wc,rfl⟩:=zU o.t.row;obtain ⟨ha,hc,rfl⟩:=zU o.h.row;exact ⟨pa,pc,sa,sc,wa,wc,ha,hc,rfl⟩
theorem Sy.Ok.any {y:Sy} (h:y.Ok) {p:Nat} (hp:p<y.pn) (hq:y.nq p=9):y.nk p=3:=by
 by_cases hk:y.nk p=2
 ·have h1:=h.peer hp hk
  have h2:=h.cn.1.2;omega
 ·unfold Sy.nk nxK at *
  unfold Sy.nq nxP at hq;by_cases hr:qbq (y.pH p) (y.pL p) (y.sS p).p (y.sS p).rs (y.sS p).os (y.sS p).c=true
  ·rw [if_pos hr] at *
   unfold evP at hq;unfold evK at *;by_cases e6:(y.pH p (y.sS p).p.toNat).o=6
   ·rw [if_pos e6] at hk
    exact absurd rfl hk
   ·rw [if_neg e6] at *
    by_cases e7:(y.pH p (y.sS p).p.toNat).o=7
    ·rw [if_pos e7]
    ·rw [if_neg e7] at hq
     cases hq
  ·rw [if_neg hr] at hq
   cases hq
theorem qn0 {c:Nat->Int}:∀ {n:Nat},(∀ j,j<n->c j≠0)->rdL c n=[]
 | 0,_=>rfl
 | n+1,h=>by rw [qjc (h n (by omega)),qn0 fun j hj=>h j (by omega)]
theorem qms (x:SysIn) (p:Int) (w:World) (h1:x.pn<=1048576) (t1:inB p 0 ((x.pn:Int) - 1)=false):
  Calls Tryz.prog 222 #[x.v,.int .i64 p] w fun e w'=>∃ u,e=.returned u/\OwnI w' w.heap.size u []/\Below w.heap.size w w':=by
 have hpn:(x.pn:Int)<=1048576:=by omega
 have OW:Hid (OwnI ((w.alloc (oQ5 x.pa x.pn x.pc x.sa x.sn x.sc x.wa x.wn x.wc x.ha x.hn x.hc)).alloc (.cells #[] 3)) (w.heap.size+1) (.slice (some ⟨w.heap.size+1,0,none⟩) 0 0) []):=qh7 (w.alloc (oQ5 x.pa x.pn x.pc x.sa x.sn x.sc x.wa x.wn x.wc x.ha x.hn x.hc)) (by simp);have BW:Hid (Below w.heap.size w ((w.alloc (oQ5 x.pa x.pn x.pc x.sa x.sn x.sc x.wa x.wn x.wc x.ha x.hn x.hc)).alloc (.cells #[] 3))):=(zQ _ _).trans ((zQ _ _).mono (by simp))
 go_enter Tryz.func222,Tryz.ntmps222
 go_wp2_with fail
 refine (l1In_any _ _ _ _).mono ?_;rintro e w1 ⟨rfl,rfl⟩;rw [t1];go_wp2;go_ret;exact ⟨_,rfl,OW.out.mono (Nat.le_succ _),BW.out⟩
theorem qmr (x:SysIn) (p:Nat) (w:World) (hG:SysG w x) (hL:x.Len) (hO:x.y.Ok) (hp:p<x.pn):
  Calls Tryz.prog 222 #[x.v,.int .i64 p] w fun e w'=>∃ u,e=.returned u/\OwnI w' w.heap.size u (rdX x p)/\Below w.heap.size w w':=by
 have HG:Hid (SysG w x):=hG;have HL:Hid x.Len:=hL;have HO:Hid x.y.Ok:=hO;obtain ⟨⟨h1,h4⟩,hs,hh,hw⟩:=hO.cn;have hps:p<x.sn:=by have:x.sn=x.pn:=hs;omega
 have h4x:x.pn<=4:=h4;have hp':(p:Int)<(x.pn:Int):=by omega
 have hps':(p:Int)<(x.sn:Int):=by omega
 have h4':(x.pn:Int)<=4:=by omega
 have tA:inB (p:Int) 0 ((x.pn:Int) - 1)=true:=by simp only [inB,decide_eq_true_eq];omega
 have OW:Hid (OwnI ((w.alloc (oQ5 x.pa x.pn x.pc x.sa x.sn x.sc x.wa x.wn x.wc x.ha x.hn x.hc)).alloc (.cells #[] 3)) (w.heap.size+1) (.slice (some ⟨w.heap.size+1,0,none⟩) 0 0) []):=qh7 (w.alloc (oQ5 x.pa x.pn x.pc x.sa x.sn x.sc x.wa x.wn x.wc x.ha x.hn x.hc)) (by simp);have BW:Hid (Below w.heap.size w ((w.alloc (oQ5 x.pa x.pn x.pc x.sa x.sn x.sc x.wa x.wn x.wc x.ha x.hn x.hc)).alloc (.cells #[] 3))):=(zQ _ _).trans ((zQ _ _).mono (by simp));have NB:Hid (BoxC ((w.alloc (oQ5 x.pa x.pn x.pc x.sa x.sn x.sc x.wa x.wn x.wc x.ha x.hn x.hc)).alloc (.cells #[] 3)) w.heap.size (.slice x.pa x.pn x.pc) (.slice x.sa x.sn x.sc) (.slice x.wa x.wn x.wc) (.slice x.ha x.hn x.hc)):=(BoxC.new w _ _ _ _ _).below (zQ _ _);have l0:w.heap.size<((w.alloc (oQ5 x.pa x.pn x.pc x.sa x.sn x.sc x.wa x.wn x.wc x.ha x.hn x.hc)).alloc (.cells #[] 3)).heap.size:=by simp;omega
 clear hG hL hO hs hh hw h1 h4
 go_enter Tryz.func222,Tryz.ntmps222
 go_wp2_with fail
 refine (l1In_any _ _ _ _).mono ?_;rintro e w1 ⟨rfl,rfl⟩;rw [tA];generalize (w.alloc (oQ5 x.pa x.pn x.pc x.sa x.sn x.sc x.wa x.wn x.wc x.ha x.hn x.hc)).alloc (.cells #[] 3)=W2 at *;obtain ⟨bp,op,ep,cp⟩:=(HG.out.below BW.out).p.at hp;obtain ⟨b',eb',hbl,hI⟩:=(HG.out.below BW.out).pi p hp;obtain ⟨bs,os,es,s0,s1,s2,s3⟩:=(HG.out.below BW.out).s.at hps;have hsl:=(HG.out.below BW.out).s.lst p hps;obtain ⟨b0,b1,b2,b3⟩:=NB.out;rw [eb'] at cp;rw [ep] at b0;rw [es] at b1;have lp2:bp<W2.heap.size:=zJ W2 _ cp;have ls2:bs<W2.heap.size:=zJ W2 _ s0;have HI:Hid (qan W2 b' 0 (x.pL p) (x.pH p)/\b'<W2.heap.size):=⟨hI,hbl⟩
 have SL:Hid (Sl W2 (x.sQ p).ra (x.sQ p).rs/\Sl W2 (x.sQ p).oa (x.sQ p).os):=hsl;have EP:Hid (x.pa=some ⟨bp,op,none⟩/\x.sa=some ⟨bs,os,none⟩):=⟨ep,es⟩
 clear hI hsl tA eb' hbl ep es;by_cases hc:(x.sQ p).c=0
 case neg=>
  have HV:Hid (rdX x p=[]):=qn0 fun j _=>by
   rw [qvp,cmS,if_pos (by exact hc)];decide
  have t0:((x.sQ p).c == 0)=false:=by simpa using hc
  go_wp2;go_ret;rw [HV.out];exact ⟨_,rfl,OW.out.mono (Nat.le_succ _),BW.out⟩
 have HR:Hid (qbq (x.pH p) (x.pL p) (x.sQ p).p (x.sQ p).rs (x.sQ p).os 0=true):=HO.out.right hp hc;rw [hc] at s3;obtain ⟨hpk,hst,-⟩:=qba HR.out;obtain ⟨⟨q0,q1,q2,q3,ers,-⟩,⟨k,ek,hkl⟩,-⟩:=qby hst;have h4r:(x.sQ p).rs.length=4:=by rw [ers];rfl
 have HX:Hid (x.pL p<=maxLen/\(x.sQ p).rs.length=4/\k<x.pL p/\qad (x.pH p) (x.pL p) 4=true):=⟨by have:=(qja hpk).2;unfold maxLen;omega,h4r,hkl,hpk⟩
 have HN3:Hid (x.nk p=evK (x.pH p k).o/\x.nq p=evP (x.pH p k).o (x.pH p k).n/\x.nv p=evW (x.pH p k).o (x.pH p k).a (x.sQ p).rs):=by
  have ek':(x.sQ p).p.toNat=k:=by omega
  refine ⟨?_,?_,?_⟩
  ·show nxK _ _ _ _ _ _=_
   rw [hc,nxK,if_pos HR.out,ek']
  ·show nxP _ _ _ _ _ _=_
   rw [hc,nxP,if_pos HR.out,ek']
  ·show nxW _ _ _ _ _ _=_
   rw [hc,nxW,if_pos HR.out,ek']
 rw [ek] at s0;clear hpk hst ers h4r hkl q0 q1 q2 q3 HR ek hc;go_wp2_with fail
 go_cut [7] from 31 to 41 (fun s wx=>∃ N:Nat,s=.pointer (some ⟨N,0,none⟩)/\Hid (Below W2.heap.size W2 wx/\W2.heap.size<=N/\EvK wx N (x.nk p) (x.nq p) (x.nv p)))
 case first=>
  refine qak (fun w'=>w'.cell? ⟨w.heap.size,0,none⟩=some (.slice (some ⟨bp,op,none⟩) x.pn x.pc)/\w'.cell? ⟨w.heap.size,1,none⟩=some (.slice (some ⟨bs,os,none⟩) x.sn x.sc)/\w'.cell? ⟨bp,op+p,none⟩=some (.slice (some ⟨b',0,none⟩) (x.pL p) (x.pC p))/\w'.cell? ⟨bs,os+p*4,none⟩=some (.int .i64 (k:Int))/\w'.cell? ⟨bs,os+p*4+1,none⟩=some (.slice (x.sQ p).ra (x.sQ p).rs.length (x.sQ p).rc)/\w'.cell? ⟨bs,os+p*4+2,none⟩=some (.slice (x.sQ p).oa (x.sQ p).os.length (x.sQ p).oc)/\w'.cell? ⟨bs,os+p*4+3,none⟩=some (.int .i64 0)) (fun i=>i == 12) (by kernel_rfl) ?_;have hHeld:=And.intro b0 (And.intro b1 (And.intro cp (And.intro s0 (And.intro s1 (And.intro s2 s3)))));refine qa7 [0,1,2,3,4,5,6,7,8,9] ?_;iterate 10 (refine qat rfl hHeld ?_;apply Exists.intro;refine ⟨fun wq hSw=>?_,?_⟩;(· ((try dsimp only at hSw);go_simp;try with_reducible rfl));(try simp only [Act.put,zD,zE,zF]))
  refine qay ?_;refine qhl 10 11 rfl rfl (by kernel_rfl) (fun K hK=>?_) (fun K hK=>?_)
  ·refine qal rfl 95 _ _ rfl #[.slice (some ⟨b',0,none⟩) (x.pL p) (x.pC p),stV k (x.sQ p).ra (x.sQ p).rs.length (x.sQ p).rc (x.sQ p).oa (x.sQ p).os.length (x.sQ p).oc 0] (by simp [Act.eval]) (yA Tryz.func95 (by kernel_rfl) rfl) (qbf b' 0 (x.pL p) (x.pC p) k (x.pH p) 0 (x.sQ p).ra (x.sQ p).oa (x.sQ p).rc (x.sQ p).os.length (x.sQ p).oc (x.sQ p).rs (W2.drew) HX.1 (zL HI.2 ((Below.refl W2.heap.size W2).drew).size) (HI.1.below ((Below.refl W2.heap.size W2).drew) HI.2) (SL.1.below ((Below.refl W2.heap.size W2).drew)) HX.2.1 HX.2.2.1 HX.2.2.2) ?_
   rintro e w5 ⟨he,d5⟩;rw [<- HN3.1,<- HN3.2.1,<- HN3.2.2] at he;refine ⟨_,he,?_⟩;have q5:Below W2.heap.size W2 w5:=qai ((Below.refl W2.heap.size W2).drew) d5 (by simp);have hc5:=(qag q5).1;have hHeld5:=And.intro ((hc5 _ _ l0).trans b0) (And.intro ((hc5 _ _ l0).trans b1) (And.intro ((hc5 _ _ lp2).trans cp) (And.intro ((hc5 _ _ ls2).trans s0) (And.intro ((hc5 _ _ ls2).trans s1) (And.intro ((hc5 _ _ ls2).trans s2) ((hc5 _ _ ls2).trans s3))))));refine hK.out _ _ (fun _=>hHeld5) ?_;clear hK K
   (try simp only [Act.put,zD,zE,zF])
   refine qac 11 rfl (by kernel_rfl) (fun K hK=>?_);go_simp;have ba:=zQ w5 (zQ6);have z5:=q5.size;have hca:=(qag ba).1;obtain ⟨e0,e1,e2,e3,e4,e5,e6⟩:=hHeld5;refine hK.out _ _ (fun _=>⟨(hca _ _ (by omega)).trans e0,(hca _ _ (by omega)).trans e1,(hca _ _ (by omega)).trans e2,(hca _ _ (by omega)).trans e3,(hca _ _ (by omega)).trans e4,(hca _ _ (by omega)).trans e5,(hca _ _ (by omega)).trans e6⟩) ?_;clear hca;clear hK K
   (try simp only [Act.put,zD,zE,zF])
   refine qac 12 rfl (by kernel_rfl) (fun K hK=>?_);go_simp;refine hK.out _ _ (fun h=>?_) ?_
   ·exact absurd h (by decide)
   clear hK K
   (try simp only [Act.put])
   refine qas (by kernel_rfl) ?_ _;go_wp2_with fail
   go_meet
   case rel=>
    exact ⟨w5.heap.size,by with_reducible rfl,q5.trans ((zQ _ _).mono q5.size),q5.size,EvK.new _ _ _ _ _⟩
  ·go_simp
   have ba:Below W2.heap.size W2 (W2.drew.alloc (zQ6)):=(Below.refl W2.heap.size W2).drew.trans (zQ W2.drew (zQ6));have hca:=(qag ba).1;refine hK.out _ _ (fun _=>⟨(hca _ _ l0).trans b0,(hca _ _ l0).trans b1,(hca _ _ lp2).trans cp,(hca _ _ ls2).trans s0,(hca _ _ ls2).trans s1,(hca _ _ ls2).trans s2,(hca _ _ ls2).trans s3⟩) ?_;clear hK K hca
   (try simp only [Act.put,zD,zE,zF])
   refine qac 10 rfl (by kernel_rfl) (fun K hK=>?_);refine qal rfl 95 _ _ rfl #[.slice (some ⟨b',0,none⟩) (x.pL p) (x.pC p),stV k (x.sQ p).ra (x.sQ p).rs.length (x.sQ p).rc (x.sQ p).oa (x.sQ p).os.length (x.sQ p).oc 0] (by simp [Act.eval]) (yA Tryz.func95 (by kernel_rfl) rfl) (qbf b' 0 (x.pL p) (x.pC p) k (x.pH p) 0 (x.sQ p).ra (x.sQ p).oa (x.sQ p).rc (x.sQ p).os.length (x.sQ p).oc (x.sQ p).rs (W2.drew.alloc (zQ6)) HX.1 (zL HI.2 (ba).size) (HI.1.below (ba) HI.2) (SL.1.below (ba)) HX.2.1 HX.2.2.1 HX.2.2.2) ?_;rintro e w5 ⟨he,d5⟩;rw [<- HN3.1,<- HN3.2.1,<- HN3.2.2] at he;refine ⟨_,he,?_⟩;have q5:Below W2.heap.size W2 w5:=qai (ba) d5 (by simp);have hc5:=(qag q5).1;have hHeld5:=And.intro ((hc5 _ _ l0).trans b0) (And.intro ((hc5 _ _ l0).trans b1) (And.intro ((hc5 _ _ lp2).trans cp) (And.intro ((hc5 _ _ ls2).trans s0) (And.intro ((hc5 _ _ ls2).trans s1) (And.intro ((hc5 _ _ ls2).trans s2) ((hc5 _ _ ls2).trans s3))))));refine hK.out _ _ (fun _=>hHeld5) ?_;clear hK K
   (try simp only [Act.put,zD,zE,zF])
   have g:EvK w5 W2.heap.size 0 0 0:=(EvK.new W2.drew 0 0 0 57).below d5;obtain ⟨g0,g1,g2,gf⟩:=id g;refine qac 12 rfl (by kernel_rfl) (fun K hK=>?_);go_simp;refine hK.out _ _ (fun h=>?_) ?_
   ·exact absurd h (by decide)
   clear hK K
   (try simp only [Act.put])
   refine qas (by kernel_rfl) ?_ _;go_wp2_with fail
   go_meet
   case rel=>
    exact ⟨W2.heap.size,by with_reducible rfl,((q5.setCell (Nat.le_refl _) _).setCell (Nat.le_refl _) _).setCell (Nat.le_refl _) _,Nat.le_refl _,EvK.put g _ _ _⟩
 case rest=>
  obtain ⟨N,rfl,HRr⟩:=hcut;have hbe:=HRr.1;have EV:EvK wc N (x.nk p) (x.nq p) (x.nv p):=HRr.2.2;have BC:Hid (Below w.heap.size w wc):=BW.out.trans (hbe.mono BW.out.size);have NC:Hid (BoxC wc w.heap.size (.slice x.pa x.pn x.pc) (.slice x.sa x.sn x.sc) (.slice x.wa x.wn x.wc) (.slice x.ha x.hn x.hc)):=NB.out.below hbe;have OC:Hid (OwnI wc (w.heap.size+1) (.slice (some ⟨w.heap.size+1,0,none⟩) 0 0) []):=OW.out.below hbe;obtain ⟨k0,k1,k2,kf⟩:=EV;have HA:Hid (x.nq p=9->x.nk p=3):=fun h=>HO.out.any hp h;have HD:Hid (rdX x p=rdL (fun j=>cmS x.y p j) (if x.nq p=9 then x.pn else 1)):=rfl;generalize x.nk p=K at k0 HA;generalize x.nq p=Q at k1 HA HD;clear hbe HRr cp s0 s1 s2 s3 b0 b1 b2 b3 SL HI NB BW OW HX HN3 l0 lp2 ls2 EP
  rcases zK (Q == 9) with t9 | t9
  ·have hQ:Q=9:=by simpa using t9
   have t3:(K == 3)=true:=by
    have:=HA.out hQ;simpa using this
   have HE:Hid (rdX x p=rdL (fun j=>cmS x.y p j) x.pn):=by
    show rdX x p=_;rw [HD.out,if_pos hQ]
   clear HA HD hQ;go_wp2_with fail
   go_loopw [5,9] (fun o i wr=>∃ j:Nat,j<=x.pn/\i=.int .i64 j/\Hid (OwnI wr (w.heap.size+1) o (rdL (fun j=>cmS x.y p j) j)/\Below w.heap.size w wr/\BoxC wr w.heap.size (.slice x.pa x.pn x.pc) (.slice x.sa x.sn x.sc) (.slice x.wa x.wn x.wc) (.slice x.ha x.hn x.hc))) (fun _ i _=>x.pn - (intOf i).toNat)
   case atStart=>exact ⟨0,Nat.zero_le _,rfl,OC.out,BC.out,NC.out⟩
   case round=>
    obtain ⟨j,hj,rfl,HZ⟩:=hrel;clear k0 k1 k2 kf OC BC NC;have hj4:(j:Int)<=4:=by omega
    by_cases hlt:j<x.pn
    ·have hlt':(j:Int)<(x.pn:Int):=by omega
     obtain ⟨b0,b1,b2,b3⟩:=HZ.2.2;go_wp2_with fail
     refine (qeb x wr (HG.out.below HZ.2.1) HL.out).mono ?_;rintro e w1 ⟨v1,rfl,o1,q1⟩;obtain ⟨pa1,pc1,sa1,sc1,wa1,wc1,ha1,hc1,rfl⟩:=o1.formJ;have O1:Hid (qaw true w1 wr.heap.size x.y (sysV pa1 x.y.pn pc1 sa1 x.y.sn sc1 wa1 x.y.wn wc1 ha1 x.y.hn hc1)):=o1;have Q1:Hid (Below wr.heap.size wr w1):=q1;clear o1 q1 b0 b1 b2 b3;go_wp2_with fail
     refine (qer x.y p j w1 wr.heap.size _ O1.out hp HO.out).mono ?_;rintro e w2 ⟨rfl,q2⟩;have B2:Below wr.heap.size wr w2:=Q1.out.trans q2;have ba:=zQ w2 (oQ5 pa1 x.y.pn pc1 sa1 x.y.sn sc1 wa1 x.y.wn wc1 ha1 x.y.hn hc1);have B3:Below wr.heap.size wr (w2.alloc (oQ5 pa1 x.y.pn pc1 sa1 x.y.sn sc1 wa1 x.y.wn wc1 ha1 x.y.hn hc1)):=B2.trans (ba.mono B2.size);have F3:Hid (OwnI (w2.alloc (oQ5 pa1 x.y.pn pc1 sa1 x.y.sn sc1 wa1 x.y.wn wc1 ha1 x.y.hn hc1)) (w.heap.size+1) u5 (rdL (fun j=>cmS x.y p j) j)/\Below w.heap.size w (w2.alloc (oQ5 pa1 x.y.pn pc1 sa1 x.y.sn sc1 wa1 x.y.wn wc1 ha1 x.y.hn hc1))/\BoxC (w2.alloc (oQ5 pa1 x.y.pn pc1 sa1 x.y.sn sc1 wa1 x.y.wn wc1 ha1 x.y.hn hc1)) w.heap.size (.slice x.pa x.pn x.pc) (.slice x.sa x.sn x.sc) (.slice x.wa x.wn x.wc) (.slice x.ha x.hn x.hc)):=⟨HZ.1.below B3,HZ.2.1.trans (B3.mono HZ.2.1.size),HZ.2.2.below B3⟩
     have HLn:Hid ((rdL (fun j=>cmS x.y p j) j).length<=1048576):=zP (qnz _ j) (by omega);clear q2 O1 Q1 B2 B3 ba HZ;by_cases hcd:cmS x.y p j=0
     ·have E0:Hid (rdL (fun j=>cmS x.y p j) (j+1)=rdL (fun j=>cmS x.y p j) j ++ [(j:Int)]):=qmz hcd
      rw [hcd];clear hcd;go_wp2_with (at_builtin;refine qct (w2.alloc (oQ5 pa1 x.y.pn pc1 sa1 x.y.sn sc1 wa1 x.y.wn wc1 ha1 x.y.hn hc1)) (by simp) rfl _ _ rfl (w.heap.size+1) u5 (rdL (fun j=>cmS x.y p j) j) rfl F3.1 j rfl HLn.out F3.2.2.ltM ?_;intro v5 w5 o5 b5;have F5:Hid (OwnI w5 (w.heap.size+1) v5 (rdL (fun j=>cmS x.y p j) j ++ [(j:Int)])/\Below w.heap.size w w5/\BoxC w5 w.heap.size (.slice x.pa x.pn x.pc) (.slice x.sa x.sn x.sc) (.slice x.wa x.wn x.wc) (.slice x.ha x.hn x.hc)):=⟨o5,F3.2.1.trans (b5.mono (Nat.le_succ _)),qmc b5 F3.2.2⟩;clear o5 b5)
      go_roundw
      case rel=>exact ⟨j+1,by omega,by go_num,by rw [E0.out];exact F5.1,F5.2.1,F5.2.2⟩
      case measure=>simp [intOf];omega
     ·have E0:Hid (rdL (fun j=>cmS x.y p j) (j+1)=rdL (fun j=>cmS x.y p j) j):=qjc hcd
      have t0:(cmS x.y p j == 0)=false:=by simpa using hcd
      generalize cmS x.y p (j:Int)=cd at t0;go_wp2;go_roundw
      case rel=>exact ⟨j+1,by omega,by go_num,by rw [E0.out];exact F3.1,F3.2.1,F3.2.2⟩
      case measure=>simp [intOf];omega
    ·have hjm:j=x.pn:=by omega
     subst hjm;go_wp2;go_ret;exact ⟨_,rfl,by rw [HE.out];exact HZ.1.mono (Nat.le_succ _),HZ.2.1⟩
  ·have hQ:¬ Q=9:=by simpa using t9
   have HE:Hid (rdX x p=rdL (fun j=>cmS x.y p j) 1):=by
    show rdX x p=_;rw [HD.out,if_neg hQ]
   clear HA HD hQ
   rcases zK (K == 3) with t3 | t3
   ·go_wp2_with fail
    go_loopw [5,9] (fun o i wr=>∃ j:Nat,j<=(1:Nat)/\i=.int .i64 j/\Hid (OwnI wr (w.heap.size+1) o (rdL (fun j=>cmS x.y p j) j)/\Below w.heap.size w wr/\BoxC wr w.heap.size (.slice x.pa x.pn x.pc) (.slice x.sa x.sn x.sc) (.slice x.wa x.wn x.wc) (.slice x.ha x.hn x.hc))) (fun _ i _=>(1:Nat) - (intOf i).toNat)
    case atStart=>exact ⟨0,Nat.zero_le _,rfl,OC.out,BC.out,NC.out⟩
    case round=>
     obtain ⟨j,hj,rfl,HZ⟩:=hrel;clear k0 k1 k2 kf OC BC NC;have hj4:(j:Int)<=4:=by omega
     by_cases hlt:j<(1:Nat)
     ·have hlt':(j:Int)<((1:Nat):Int):=by omega
      obtain ⟨b0,b1,b2,b3⟩:=HZ.2.2;go_wp2_with fail
      refine (qeb x wr (HG.out.below HZ.2.1) HL.out).mono ?_;rintro e w1 ⟨v1,rfl,o1,q1⟩;obtain ⟨pa1,pc1,sa1,sc1,wa1,wc1,ha1,hc1,rfl⟩:=o1.formJ;have O1:Hid (qaw true w1 wr.heap.size x.y (sysV pa1 x.y.pn pc1 sa1 x.y.sn sc1 wa1 x.y.wn wc1 ha1 x.y.hn hc1)):=o1;have Q1:Hid (Below wr.heap.size wr w1):=q1;clear o1 q1 b0 b1 b2 b3;go_wp2_with fail
      refine (qer x.y p j w1 wr.heap.size _ O1.out hp HO.out).mono ?_;rintro e w2 ⟨rfl,q2⟩;have B2:Below wr.heap.size wr w2:=Q1.out.trans q2;have ba:=zQ w2 (oQ5 pa1 x.y.pn pc1 sa1 x.y.sn sc1 wa1 x.y.wn wc1 ha1 x.y.hn hc1);have B3:Below wr.heap.size wr (w2.alloc (oQ5 pa1 x.y.pn pc1 sa1 x.y.sn sc1 wa1 x.y.wn wc1 ha1 x.y.hn hc1)):=B2.trans (ba.mono B2.size);have F3:Hid (OwnI (w2.alloc (oQ5 pa1 x.y.pn pc1 sa1 x.y.sn sc1 wa1 x.y.wn wc1 ha1 x.y.hn hc1)) (w.heap.size+1) u5 (rdL (fun j=>cmS x.y p j) j)/\Below w.heap.size w (w2.alloc (oQ5 pa1 x.y.pn pc1 sa1 x.y.sn sc1 wa1 x.y.wn wc1 ha1 x.y.hn hc1))/\BoxC (w2.alloc (oQ5 pa1 x.y.pn pc1 sa1 x.y.sn sc1 wa1 x.y.wn wc1 ha1 x.y.hn hc1)) w.heap.size (.slice x.pa x.pn x.pc) (.slice x.sa x.sn x.sc) (.slice x.wa x.wn x.wc) (.slice x.ha x.hn x.hc)):=⟨HZ.1.below B3,HZ.2.1.trans (B3.mono HZ.2.1.size),HZ.2.2.below B3⟩
      have HLn:Hid ((rdL (fun j=>cmS x.y p j) j).length<=1048576):=zP (qnz _ j) (by omega);clear q2 O1 Q1 B2 B3 ba HZ;by_cases hcd:cmS x.y p j=0
      ·have E0:Hid (rdL (fun j=>cmS x.y p j) (j+1)=rdL (fun j=>cmS x.y p j) j ++ [(j:Int)]):=qmz hcd
       rw [hcd];clear hcd;go_wp2_with (at_builtin;refine qct (w2.alloc (oQ5 pa1 x.y.pn pc1 sa1 x.y.sn sc1 wa1 x.y.wn wc1 ha1 x.y.hn hc1)) (by simp) rfl _ _ rfl (w.heap.size+1) u5 (rdL (fun j=>cmS x.y p j) j) rfl F3.1 j rfl HLn.out F3.2.2.ltM ?_;intro v5 w5 o5 b5;have F5:Hid (OwnI w5 (w.heap.size+1) v5 (rdL (fun j=>cmS x.y p j) j ++ [(j:Int)])/\Below w.heap.size w w5/\BoxC w5 w.heap.size (.slice x.pa x.pn x.pc) (.slice x.sa x.sn x.sc) (.slice x.wa x.wn x.wc) (.slice x.ha x.hn x.hc)):=⟨o5,F3.2.1.trans (b5.mono (Nat.le_succ _)),qmc b5 F3.2.2⟩;clear o5 b5)
       go_roundw
       case rel=>exact ⟨j+1,by omega,by go_num,by rw [E0.out];exact F5.1,F5.2.1,F5.2.2⟩
       case measure=>simp [intOf];omega
      ·have E0:Hid (rdL (fun j=>cmS x.y p j) (j+1)=rdL (fun j=>cmS x.y p j) j):=qjc hcd
       have t0:(cmS x.y p j == 0)=false:=by simpa using hcd
       generalize cmS x.y p (j:Int)=cd at t0;go_wp2;go_roundw
       case rel=>exact ⟨j+1,by omega,by go_num,by rw [E0.out];exact F3.1,F3.2.1,F3.2.2⟩
       case measure=>simp [intOf];omega
     ·have hjm:j=(1:Nat):=by omega
      subst hjm;go_wp2;go_ret;exact ⟨_,rfl,by rw [HE.out];exact HZ.1.mono (Nat.le_succ _),HZ.2.1⟩
   ·go_wp2_with fail
    go_loopw [5,9] (fun o i wr=>∃ j:Nat,j<=(1:Nat)/\i=.int .i64 j/\Hid (OwnI wr (w.heap.size+1) o (rdL (fun j=>cmS x.y p j) j)/\Below w.heap.size w wr/\BoxC wr w.heap.size (.slice x.pa x.pn x.pc) (.slice x.sa x.sn x.sc) (.slice x.wa x.wn x.wc) (.slice x.ha x.hn x.hc))) (fun _ i _=>(1:Nat) - (intOf i).toNat)
    case atStart=>exact ⟨0,Nat.zero_le _,rfl,OC.out,BC.out,NC.out⟩
    case round=>
     obtain ⟨j,hj,rfl,HZ⟩:=hrel;clear k0 k1 k2 kf OC BC NC;have hj4:(j:Int)<=4:=by omega
     by_cases hlt:j<(1:Nat)
     ·have hlt':(j:Int)<((1:Nat):Int):=by omega
      obtain ⟨b0,b1,b2,b3⟩:=HZ.2.2;go_wp2_with fail
      refine (qeb x wr (HG.out.below HZ.2.1) HL.out).mono ?_;rintro e w1 ⟨v1,rfl,o1,q1⟩;obtain ⟨pa1,pc1,sa1,sc1,wa1,wc1,ha1,hc1,rfl⟩:=o1.formJ;have O1:Hid (qaw true w1 wr.heap.size x.y (sysV pa1 x.y.pn pc1 sa1 x.y.sn sc1 wa1 x.y.wn wc1 ha1 x.y.hn hc1)):=o1;have Q1:Hid (Below wr.heap.size wr w1):=q1;clear o1 q1 b0 b1 b2 b3;go_wp2_with fail
      refine (qer x.y p j w1 wr.heap.size _ O1.out hp HO.out).mono ?_;rintro e w2 ⟨rfl,q2⟩;have B2:Below wr.heap.size wr w2:=Q1.out.trans q2;have ba:=zQ w2 (oQ5 pa1 x.y.pn pc1 sa1 x.y.sn sc1 wa1 x.y.wn wc1 ha1 x.y.hn hc1);have B3:Below wr.heap.size wr (w2.alloc (oQ5 pa1 x.y.pn pc1 sa1 x.y.sn sc1 wa1 x.y.wn wc1 ha1 x.y.hn hc1)):=B2.trans (ba.mono B2.size);have F3:Hid (OwnI (w2.alloc (oQ5 pa1 x.y.pn pc1 sa1 x.y.sn sc1 wa1 x.y.wn wc1 ha1 x.y.hn hc1)) (w.heap.size+1) u5 (rdL (fun j=>cmS x.y p j) j)/\Below w.heap.size w (w2.alloc (oQ5 pa1 x.y.pn pc1 sa1 x.y.sn sc1 wa1 x.y.wn wc1 ha1 x.y.hn hc1))/\BoxC (w2.alloc (oQ5 pa1 x.y.pn pc1 sa1 x.y.sn sc1 wa1 x.y.wn wc1 ha1 x.y.hn hc1)) w.heap.size (.slice x.pa x.pn x.pc) (.slice x.sa x.sn x.sc) (.slice x.wa x.wn x.wc) (.slice x.ha x.hn x.hc)):=⟨HZ.1.below B3,HZ.2.1.trans (B3.mono HZ.2.1.size),HZ.2.2.below B3⟩
      have HLn:Hid ((rdL (fun j=>cmS x.y p j) j).length<=1048576):=zP (qnz _ j) (by omega);clear q2 O1 Q1 B2 B3 ba HZ;by_cases hcd:cmS x.y p j=0
      ·have E0:Hid (rdL (fun j=>cmS x.y p j) (j+1)=rdL (fun j=>cmS x.y p j) j ++ [(j:Int)]):=qmz hcd
       rw [hcd];clear hcd;go_wp2_with (at_builtin;refine qct (w2.alloc (oQ5 pa1 x.y.pn pc1 sa1 x.y.sn sc1 wa1 x.y.wn wc1 ha1 x.y.hn hc1)) (by simp) rfl _ _ rfl (w.heap.size+1) u5 (rdL (fun j=>cmS x.y p j) j) rfl F3.1 j rfl HLn.out F3.2.2.ltM ?_;intro v5 w5 o5 b5;have F5:Hid (OwnI w5 (w.heap.size+1) v5 (rdL (fun j=>cmS x.y p j) j ++ [(j:Int)])/\Below w.heap.size w w5/\BoxC w5 w.heap.size (.slice x.pa x.pn x.pc) (.slice x.sa x.sn x.sc) (.slice x.wa x.wn x.wc) (.slice x.ha x.hn x.hc)):=⟨o5,F3.2.1.trans (b5.mono (Nat.le_succ _)),qmc b5 F3.2.2⟩;clear o5 b5)
       go_roundw
       case rel=>exact ⟨j+1,by omega,by go_num,by rw [E0.out];exact F5.1,F5.2.1,F5.2.2⟩
       case measure=>simp [intOf];omega
      ·have E0:Hid (rdL (fun j=>cmS x.y p j) (j+1)=rdL (fun j=>cmS x.y p j) j):=qjc hcd
       have t0:(cmS x.y p j == 0)=false:=by simpa using hcd
       generalize cmS x.y p (j:Int)=cd at t0;go_wp2;go_roundw
       case rel=>exact ⟨j+1,by omega,by go_num,by rw [E0.out];exact F3.1,F3.2.1,F3.2.2⟩
       case measure=>simp [intOf];omega
     ·have hjm:j=(1:Nat):=by omega
      subst hjm;go_wp2;go_ret;exact ⟨_,rfl,by rw [HE.out];exact HZ.1.mono (Nat.le_succ _),HZ.2.1⟩
def chS (y:Sy) (p:Nat):Nat:=if y.nq p=9 then y.pn else 1
def rdS (y:Sy) (p:Nat):List Int:=rdL (fun j=>cmS y p j) (chS y p)
theorem qvv (x:SysIn) (p:Nat):rdX x p=rdS x.y p:=rfl
open Classical in
noncomputable def rdQ (y:Sy) (p:Int):List Int:=if y.okB=true/\belB p y.pn=true then rdS y p.toNat else []
theorem qjm (x:SysIn) (p:Int) (w:World) (hG:SysG w x) (hL:x.Len) (hcap:∀ i,i<x.hn->x.hL i<=x.hC i):
  Calls Tryz.prog 221 #[x.v,.int .i64 p] w fun e w'=>∃ u,e=.returned u/\OwnI w' w.heap.size u (rdQ x.y p)/\Below w.heap.size w w':=by
 have HG:Hid (SysG w x):=hG;have HL:Hid x.Len:=hL;have HS:Hid (∀ wx,Below w.heap.size w wx->Calls Tryz.prog 40 #[x.v] wx fun e w'=>e=.returned (.bool x.y.okB)/\Below wx.heap.size wx w'):=fun wx hb=>qcf x wx (HG.out.below hb) hL hcap;have BW:Hid (Below w.heap.size w (w.alloc (oQ5 x.pa x.pn x.pc x.sa x.sn x.sc x.wa x.wn x.wc x.ha x.hn x.hc))):=zQ _ _;have NB:Hid (BoxC (w.alloc (oQ5 x.pa x.pn x.pc x.sa x.sn x.sc x.wa x.wn x.wc x.ha x.hn x.hc)) w.heap.size (.slice x.pa x.pn x.pc) (.slice x.sa x.sn x.sc) (.slice x.wa x.wn x.wc) (.slice x.ha x.hn x.hc)):=BoxC.new w _ _ _ _ _;clear hG hL hcap
 go_enter Tryz.func221,Tryz.ntmps221
 go_wp2_with fail
 generalize w.alloc (oQ5 x.pa x.pn x.pc x.sa x.sn x.sc x.wa x.wn x.wc x.ha x.hn x.hc)=W2 at *;refine (HS.out W2 BW.out).mono ?_;rintro e w1 ⟨rfl,q1⟩;have B1:Hid (Below w.heap.size w w1/\BoxC w1 w.heap.size (.slice x.pa x.pn x.pc) (.slice x.sa x.sn x.sc) (.slice x.wa x.wn x.wc) (.slice x.ha x.hn x.hc)):=⟨BW.out.trans (q1.mono BW.out.size),NB.out.below q1⟩
 clear q1 BW NB HS
 rcases zK x.y.okB with t | t
 case inr=>
  have HV:Hid (rdQ x.y p=[]):=by
   show rdQ x.y p=[];rw [rdQ,if_neg (by rw [t];simp)]
  have OE:Hid (OwnI (w1.alloc (.cells #[] 3)) w.heap.size (.slice (some ⟨w1.heap.size,0,none⟩) 0 0) []/\Below w.heap.size w (w1.alloc (.cells #[] 3))):=⟨(qcc w1).mono B1.1.size,B1.1.trans ((zQ _ _).mono B1.1.size)⟩
  rw [t];clear t;go_wp2;go_ret;rw [HV.out];exact ⟨_,rfl,OE.out⟩
 have HO:Hid x.y.Ok:=Sy.ok_of t
 have HC:Hid (Calls Tryz.prog 222 #[x.v,.int .i64 p] w1 fun e w'=>∃ u,e=.returned u/\OwnI w' w1.heap.size u (rdQ x.y p)/\Below w1.heap.size w1 w'):=by
  show Calls Tryz.prog 222 _ _ _;by_cases hb:belB p x.pn=true
  ·have hb':0<=p/\p<(x.pn:Int):=by simpa [belB] using hb
   obtain ⟨k,rfl⟩:∃ k:Nat,p=k:=⟨p.toNat,by omega⟩
   have e:rdQ x.y (k:Int)=rdX x k:=by
    rw [rdQ,if_pos ⟨t,hb⟩,qvv];rfl
   rw [e];exact qmr x k w1 (HG.out.below B1.1) HL.out HO.out (by omega)
  ·have e:rdQ x.y p=[]:=by
    rw [rdQ,if_neg];exact fun h=>hb h.2
   rw [e]
   exact qms x p w1 HL.out.p.1 (by
    simp only [inB,decide_eq_false_iff_not];simp only [belB,decide_eq_true_eq] at hb
    omega)
 rw [t];clear t;obtain ⟨b0,b1,b2,b3⟩:=B1.2;go_wp2_with fail
 refine HC.out.mono ?_;rintro e w2 ⟨u2,rfl,o2,q2⟩;have F2:Hid (OwnI w2 w.heap.size u2 (rdQ x.y p)/\Below w.heap.size w w2):=⟨o2.mono B1.1.size,B1.1.trans (q2.mono B1.1.size)⟩
 clear o2 q2 HC;go_wp2;go_ret;exact ⟨_,rfl,F2.out⟩
structure Sy.Len (y:Sy):Prop where
 p:y.pn<=1048576/\∀ i,i<y.pn->y.pL i<=1048576
 s:y.sn<=1048576/\∀ i,i<y.sn->(y.sS i).rs.length<=1048576/\(y.sS i).os.length<=1048576
 w:y.wn<=1048576/\∀ i,i<y.wn->y.wL i<=1048576
 h:y.hn<=1048576/\∀ i,i<y.hn->y.hL i<=1048576
