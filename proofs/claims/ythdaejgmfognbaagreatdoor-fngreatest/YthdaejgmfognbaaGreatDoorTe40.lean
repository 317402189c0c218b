import Derived.Test.YthdaejgmfognbaaGreatDoorTe0
import Derived.Test.YthdaejgmfognbaaGreatDoorTe39
import Derived.Test.YthdaejgmfognbaaGreatDoorTe37
import Derived.Test.YthdaejgmfognbaaGreatDoorTe33
import Derived.Test.YthdaejgmfognbaaGreatDoorTe34
import Derived.Test.YthdaejgmfognbaaGreatDoorTe32
import Derived.Test.YthdaejgmfognbaaGreatDoorTe8
import Derived.Test.YthdaejgmfognbaaGreatDoorTe22
namespace Go.Proofs.YthdaejgmfognbaaGreatDoor
set_option maxRecDepth 100000
set_option maxHeartbeats 4000000
open Go.ChangeShapes Go.WideShapes Go.ChangeAt Go.RowKit Go.Deep Go.Sort
def rdX (x:SysIn) (p:Nat):List Int:=rdL (fun j=>cmC x p j) (chN x p)
theorem OwnSys.formJ {w:World} {B:Nat} {y:Sy} {v:Value} (o:OwnSys true w B y v):∃ pa pc sa sc wa wc ha hc,v=sysV pa y.pn pc sa y.sn sc wa y.wn wc ha y.hn hc:=by
 obtain ⟨c,vp,vs,vw,vh,up,us,uw,uh,rfl,o⟩:=o
 obtain ⟨pa,pc,rfl⟩:=zU o.p.row
 obtain ⟨sa,sc,rfl⟩:=zU o.s.row
 obtain ⟨wa,wc,rfl⟩:=zU o.t.row
 obtain ⟨ha,hc,rfl⟩:=zU o.h.row
 exact ⟨pa,pc,sa,sc,wa,wc,ha,hc,rfl⟩
theorem Sy.Ok.any {y:Sy} (h:y.Ok) {p:Nat} (hp:p<y.pn) (hq:y.nq p=9):y.nk p=3:=by
 by_cases hk:y.nk p=2
 ·have h1:=h.peer hp hk
  have h2:=h.cn.1.2
  omega
 ·unfold Sy.nk nxK at *
  unfold Sy.nq nxP at hq
  by_cases hr:rightB (y.pH p) (y.pL p) (y.sS p).p (y.sS p).rs (y.sS p).os (y.sS p).c=true
  ·rw [if_pos hr] at *
   unfold evP at hq
   unfold evK at *
   by_cases e6:(y.pH p (y.sS p).p.toNat).o=6
   ·rw [if_pos e6] at hk
    exact absurd rfl hk
   ·rw [if_neg e6] at *
    by_cases e7:(y.pH p (y.sS p).p.toNat).o=7
    ·rw [if_pos e7]
    ·rw [if_neg e7] at hq
     cases hq
  ·rw [if_neg hr] at hq
   cases hq
theorem rdL_none {c:Nat->Int}:∀ {n:Nat},(∀ j,j<n->c j≠0)->rdL c n=[]
 | 0,_=>rfl
 | n+1,h=>by rw [rdL_not (h n (by omega)),rdL_none fun j hj=>h j (by omega)]
theorem l5Ready_out (x:SysIn) (p:Int) (w:World) (h1:x.pn<=1048576) (t1:inB p 0 ((x.pn:Int) - 1)=false):
  Calls Tryz.prog 192 #[x.v,.int .i64 p] w fun e w'=>∃ u,e=.returned u/\OwnI w' w.heap.size u []/\Below w.heap.size w w':=by
 have hpn:(x.pn:Int)<=1048576:=by omega
 have OW:Hid (OwnI ((w.alloc (oQ4 x.pa x.pn x.pc x.sa x.sn x.sc x.wa x.wn x.wc x.ha x.hn x.hc)).alloc (.cells #[] 3)) (w.heap.size+1) (.slice (some ⟨w.heap.size+1,0,none⟩) 0 0) []):=own_emptyN (w.alloc (oQ4 x.pa x.pn x.pc x.sa x.sn x.sc x.wa x.wn x.wc x.ha x.hn x.hc)) (by simp)
 have BW:Hid (Below w.heap.size w ((w.alloc (oQ4 x.pa x.pn x.pc x.sa x.sn x.sc x.wa x.wn x.wc x.ha x.hn x.hc)).alloc (.cells #[] 3))):=(zQ _ _).trans ((zQ _ _).mono (by simp))
 go_enter Tryz.func192,Tryz.ntmps192
 go_wp2_with fail
 refine (l1In_any _ _ _ _).mono ?_
 rintro e w1 ⟨rfl,rfl⟩
 rw [t1]
 go_wp2
 go_ret
 exact ⟨_,rfl,OW.out.mono (Nat.le_succ _),BW.out⟩
theorem l5Ready_any (x:SysIn) (p:Nat) (w:World) (hG:SysG w x) (hL:x.Len) (hO:x.y.Ok) (hp:p<x.pn):
  Calls Tryz.prog 192 #[x.v,.int .i64 p] w fun e w'=>∃ u,e=.returned u/\OwnI w' w.heap.size u (rdX x p)/\Below w.heap.size w w':=by
 have HG:Hid (SysG w x):=hG
 have HL:Hid x.Len:=hL
 have HO:Hid x.y.Ok:=hO
 obtain ⟨⟨h1,h4⟩,hs,hh,hw⟩:=hO.cn
 have hps:p<x.sn:=by have:x.sn=x.pn:=hs;omega
 have h4x:x.pn<=4:=h4
 have hp':(p:Int)<(x.pn:Int):=by omega
 have hps':(p:Int)<(x.sn:Int):=by omega
 have h4':(x.pn:Int)<=4:=by omega
 have tA:inB (p:Int) 0 ((x.pn:Int) - 1)=true:=by simp only [inB,decide_eq_true_eq];omega
 have OW:Hid (OwnI ((w.alloc (oQ4 x.pa x.pn x.pc x.sa x.sn x.sc x.wa x.wn x.wc x.ha x.hn x.hc)).alloc (.cells #[] 3)) (w.heap.size+1) (.slice (some ⟨w.heap.size+1,0,none⟩) 0 0) []):=own_emptyN (w.alloc (oQ4 x.pa x.pn x.pc x.sa x.sn x.sc x.wa x.wn x.wc x.ha x.hn x.hc)) (by simp)
 have BW:Hid (Below w.heap.size w ((w.alloc (oQ4 x.pa x.pn x.pc x.sa x.sn x.sc x.wa x.wn x.wc x.ha x.hn x.hc)).alloc (.cells #[] 3))):=(zQ _ _).trans ((zQ _ _).mono (by simp))
 have NB:Hid (BoxC ((w.alloc (oQ4 x.pa x.pn x.pc x.sa x.sn x.sc x.wa x.wn x.wc x.ha x.hn x.hc)).alloc (.cells #[] 3)) w.heap.size (.slice x.pa x.pn x.pc) (.slice x.sa x.sn x.sc) (.slice x.wa x.wn x.wc) (.slice x.ha x.hn x.hc)):=(BoxC.new w _ _ _ _ _).below (zQ _ _)
 have l0:w.heap.size<((w.alloc (oQ4 x.pa x.pn x.pc x.sa x.sn x.sc x.wa x.wn x.wc x.ha x.hn x.hc)).alloc (.cells #[] 3)).heap.size:=by simp;omega
 clear hG hL hO hs hh hw h1 h4
 go_enter Tryz.func192,Tryz.ntmps192
 go_wp2_with fail
 refine (l1In_any _ _ _ _).mono ?_
 rintro e w1 ⟨rfl,rfl⟩
 rw [tA]
 generalize (w.alloc (oQ4 x.pa x.pn x.pc x.sa x.sn x.sc x.wa x.wn x.wc x.ha x.hn x.hc)).alloc (.cells #[] 3)=W2 at *
 obtain ⟨bp,op,ep,cp⟩:=(HG.out.below BW.out).p.at hp
 obtain ⟨b',eb',hbl,hI⟩:=(HG.out.below BW.out).pi p hp
 obtain ⟨bs,os,es,s0,s1,s2,s3⟩:=(HG.out.below BW.out).s.at hps
 have hsl:=(HG.out.below BW.out).s.lst p hps
 obtain ⟨b0,b1,b2,b3⟩:=NB.out
 rw [eb'] at cp
 rw [ep] at b0
 rw [es] at b1
 have lp2:bp<W2.heap.size:=zJ W2 _ cp
 have ls2:bs<W2.heap.size:=zJ W2 _ s0
 have HI:Hid (InsAt W2 b' 0 (x.pL p) (x.pH p)/\b'<W2.heap.size):=⟨hI,hbl⟩
 have SL:Hid (Sl W2 (x.sQ p).ra (x.sQ p).rs/\Sl W2 (x.sQ p).oa (x.sQ p).os):=hsl
 have EP:Hid (x.pa=some ⟨bp,op,none⟩/\x.sa=some ⟨bs,os,none⟩):=⟨ep,es⟩
 clear hI hsl tA eb' hbl ep es
 by_cases hc:(x.sQ p).c=0
 case neg=>
  have HV:Hid (rdX x p=[]):=rdL_none fun j _=>by
   rw [cmC_y,cmS,if_pos (by exact hc)]
   decide
  have t0:((x.sQ p).c == 0)=false:=by simpa using hc
  go_wp2
  go_ret
  rw [HV.out]
  exact ⟨_,rfl,OW.out.mono (Nat.le_succ _),BW.out⟩
 have HR:Hid (rightB (x.pH p) (x.pL p) (x.sQ p).p (x.sQ p).rs (x.sQ p).os 0=true):=HO.out.right hp hc
 rw [hc] at s3
 obtain ⟨hpk,hst,-⟩:=right_parts HR.out
 obtain ⟨⟨q0,q1,q2,q3,ers,-⟩,⟨k,ek,hkl⟩,-⟩:=st_parts hst
 have h4r:(x.sQ p).rs.length=4:=by rw [ers];rfl
 have HX:Hid (x.pL p<=maxLen/\(x.sQ p).rs.length=4/\k<x.pL p/\progOkB (x.pH p) (x.pL p) 4=true):=⟨by have:=(prog_len hpk).2;unfold maxLen;omega,h4r,hkl,hpk⟩
 have HN3:Hid (x.nk p=evK (x.pH p k).o/\x.nq p=evP (x.pH p k).o (x.pH p k).n/\x.nv p=evW (x.pH p k).o (x.pH p k).a (x.sQ p).rs):=by
  have ek':(x.sQ p).p.toNat=k:=by omega
  refine ⟨?_,?_,?_⟩
  ·show nxK _ _ _ _ _ _=_
   rw [hc,nxK,if_pos HR.out,ek']
  ·show nxP _ _ _ _ _ _=_
   rw [hc,nxP,if_pos HR.out,ek']
  ·show nxW _ _ _ _ _ _=_
   rw [hc,nxW,if_pos HR.out,ek']
 rw [ek] at s0
 clear hpk hst ers h4r hkl q0 q1 q2 q3 HR ek hc
 go_wp2_with fail
 go_cut [7] from 31 to 41 (fun s wx=>∃ N:Nat,s=.pointer (some ⟨N,0,none⟩)/\Hid (Below W2.heap.size W2 wx/\W2.heap.size<=N/\EvK wx N (x.nk p) (x.nq p) (x.nv p)))
 case first=>
  refine wp_region_G (fun w'=>w'.cell? ⟨w.heap.size,0,none⟩=some (.slice (some ⟨bp,op,none⟩) x.pn x.pc)/\w'.cell? ⟨w.heap.size,1,none⟩=some (.slice (some ⟨bs,os,none⟩) x.sn x.sc)/\w'.cell? ⟨bp,op+p,none⟩=some (.slice (some ⟨b',0,none⟩) (x.pL p) (x.pC p))/\w'.cell? ⟨bs,os+p*4,none⟩=some (.int .i64 (k:Int))/\w'.cell? ⟨bs,os+p*4+1,none⟩=some (.slice (x.sQ p).ra (x.sQ p).rs.length (x.sQ p).rc)/\w'.cell? ⟨bs,os+p*4+2,none⟩=some (.slice (x.sQ p).oa (x.sQ p).os.length (x.sQ p).oc)/\w'.cell? ⟨bs,os+p*4+3,none⟩=some (.int .i64 0)) (fun i=>i == 12) (by kernel_rfl) ?_
  have hHeld:=And.intro b0 (And.intro b1 (And.intro cp (And.intro s0 (And.intro s1 (And.intro s2 s3)))))
  refine wpGT_of [0,1,2,3,4,5,6,7,8,9] ?_
  iterate 10 (refine wpGT_take rfl hHeld ?_;apply Exists.intro;refine ⟨fun wq hSw=>?_,?_⟩;(· ((try dsimp only at hSw);go_simp;try with_reducible rfl));(try simp only [Act.put,zD,zE,zF]))
  refine wpGT_nil ?_
  refine wpG_two 10 11 rfl rfl (by kernel_rfl) (fun K hK=>?_) (fun K hK=>?_)
  ·refine stepR_call rfl 173 _ _ rfl #[.slice (some ⟨b',0,none⟩) (x.pL p) (x.pC p),stV k (x.sQ p).ra (x.sQ p).rs.length (x.sQ p).rc (x.sQ p).oa (x.sQ p).os.length (x.sQ p).oc 0] (by simp [Act.eval]) (yA Tryz.func173 (by kernel_rfl) rfl) (l2Next_any b' 0 (x.pL p) (x.pC p) k (x.pH p) 0 (x.sQ p).ra (x.sQ p).oa (x.sQ p).rc (x.sQ p).os.length (x.sQ p).oc (x.sQ p).rs (W2.drew) HX.out.1 (zL HI.out.2 ((Below.refl W2.heap.size W2).drew).size) (HI.out.1.below ((Below.refl W2.heap.size W2).drew) HI.out.2) (SL.out.1.below ((Below.refl W2.heap.size W2).drew)) HX.out.2.1 HX.out.2.2.1 HX.out.2.2.2) ?_
   rintro e w5 ⟨he,d5⟩
   rw [<- HN3.out.1,<- HN3.out.2.1,<- HN3.out.2.2] at he
   refine ⟨_,he,?_⟩
   have q5:Below W2.heap.size W2 w5:=below_up ((Below.refl W2.heap.size W2).drew) d5 (by simp)
   have hc5:=(bcell q5).1
   have hHeld5:=And.intro ((hc5 _ _ l0).trans b0) (And.intro ((hc5 _ _ l0).trans b1) (And.intro ((hc5 _ _ lp2).trans cp) (And.intro ((hc5 _ _ ls2).trans s0) (And.intro ((hc5 _ _ ls2).trans s1) (And.intro ((hc5 _ _ ls2).trans s2) ((hc5 _ _ ls2).trans s3))))))
   refine hK.out _ _ (fun _=>hHeld5) ?_
   clear hK K
   (try simp only [Act.put,zD,zE,zF])
   refine wpG_one 11 rfl (by kernel_rfl) (fun K hK=>?_)
   go_simp
   have ba:=zQ w5 (oQ0 0 0 0)
   have z5:=q5.size
   have hca:=(bcell ba).1
   obtain ⟨e0,e1,e2,e3,e4,e5,e6⟩:=hHeld5
   refine hK.out _ _ (fun _=>⟨(hca _ _ (by omega)).trans e0,(hca _ _ (by omega)).trans e1,(hca _ _ (by omega)).trans e2,(hca _ _ (by omega)).trans e3,(hca _ _ (by omega)).trans e4,(hca _ _ (by omega)).trans e5,(hca _ _ (by omega)).trans e6⟩) ?_
   clear hca
   clear hK K
   (try simp only [Act.put,zD,zE,zF])
   refine wpG_one 12 rfl (by kernel_rfl) (fun K hK=>?_)
   go_simp
   refine hK.out _ _ (fun h=>?_) ?_
   ·exact absurd h (by decide)
   clear hK K
   (try simp only [Act.put])
   refine wpG_done (by kernel_rfl) ?_ _
   go_wp2_with fail
   go_meet
   case rel=>
    exact ⟨w5.heap.size,by with_reducible rfl,q5.trans ((zQ _ _).mono q5.size),q5.size,EvK.new _ _ _ _ _⟩
  ·go_simp
   have ba:Below W2.heap.size W2 (W2.drew.alloc (oQ0 0 0 0)):=(Below.refl W2.heap.size W2).drew.trans (zQ W2.drew (oQ0 0 0 0))
   have hca:=(bcell ba).1
   refine hK.out _ _ (fun _=>⟨(hca _ _ l0).trans b0,(hca _ _ l0).trans b1,(hca _ _ lp2).trans cp,(hca _ _ ls2).trans s0,(hca _ _ ls2).trans s1,(hca _ _ ls2).trans s2,(hca _ _ ls2).trans s3⟩) ?_
   clear hK K hca
   (try simp only [Act.put,zD,zE,zF])
   refine wpG_one 10 rfl (by kernel_rfl) (fun K hK=>?_)
   refine stepR_call rfl 173 _ _ rfl #[.slice (some ⟨b',0,none⟩) (x.pL p) (x.pC p),stV k (x.sQ p).ra (x.sQ p).rs.length (x.sQ p).rc (x.sQ p).oa (x.sQ p).os.length (x.sQ p).oc 0] (by simp [Act.eval]) (yA Tryz.func173 (by kernel_rfl) rfl) (l2Next_any b' 0 (x.pL p) (x.pC p) k (x.pH p) 0 (x.sQ p).ra (x.sQ p).oa (x.sQ p).rc (x.sQ p).os.length (x.sQ p).oc (x.sQ p).rs (W2.drew.alloc (oQ0 0 0 0)) HX.out.1 (zL HI.out.2 (ba).size) (HI.out.1.below (ba) HI.out.2) (SL.out.1.below (ba)) HX.out.2.1 HX.out.2.2.1 HX.out.2.2.2) ?_
   rintro e w5 ⟨he,d5⟩
   rw [<- HN3.out.1,<- HN3.out.2.1,<- HN3.out.2.2] at he
   refine ⟨_,he,?_⟩
   have q5:Below W2.heap.size W2 w5:=below_up (ba) d5 (by simp)
   have hc5:=(bcell q5).1
   have hHeld5:=And.intro ((hc5 _ _ l0).trans b0) (And.intro ((hc5 _ _ l0).trans b1) (And.intro ((hc5 _ _ lp2).trans cp) (And.intro ((hc5 _ _ ls2).trans s0) (And.intro ((hc5 _ _ ls2).trans s1) (And.intro ((hc5 _ _ ls2).trans s2) ((hc5 _ _ ls2).trans s3))))))
   refine hK.out _ _ (fun _=>hHeld5) ?_
   clear hK K
   (try simp only [Act.put,zD,zE,zF])
   have g:EvK w5 W2.heap.size 0 0 0:=(EvK.new W2.drew 0 0 0 50).below d5
   obtain ⟨g0,g1,g2,gf⟩:=id g
   refine wpG_one 12 rfl (by kernel_rfl) (fun K hK=>?_)
   go_simp
   refine hK.out _ _ (fun h=>?_) ?_
   ·exact absurd h (by decide)
   clear hK K
   (try simp only [Act.put])
   refine wpG_done (by kernel_rfl) ?_ _
   go_wp2_with fail
   go_meet
   case rel=>
    exact ⟨W2.heap.size,by with_reducible rfl,((q5.setCell (Nat.le_refl _) _).setCell (Nat.le_refl _) _).setCell (Nat.le_refl _) _,Nat.le_refl _,EvK.put g _ _ _⟩
 case rest=>
  obtain ⟨N,rfl,HRr⟩:=hcut
  have hbe:=HRr.out.1
  have EV:EvK wc N (x.nk p) (x.nq p) (x.nv p):=HRr.out.2.2
  have BC:Hid (Below w.heap.size w wc):=BW.out.trans (hbe.mono BW.out.size)
  have NC:Hid (BoxC wc w.heap.size (.slice x.pa x.pn x.pc) (.slice x.sa x.sn x.sc) (.slice x.wa x.wn x.wc) (.slice x.ha x.hn x.hc)):=NB.out.below hbe
  have OC:Hid (OwnI wc (w.heap.size+1) (.slice (some ⟨w.heap.size+1,0,none⟩) 0 0) []):=OW.out.below hbe
  obtain ⟨k0,k1,k2,kf⟩:=EV
  have HA:Hid (x.nq p=9->x.nk p=3):=fun h=>HO.out.any hp h
  have HD:Hid (rdX x p=rdL (fun j=>cmS x.y p j) (if x.nq p=9 then x.pn else 1)):=rfl
  generalize x.nk p=K at k0 HA
  generalize x.nq p=Q at k1 HA HD
  clear hbe HRr cp s0 s1 s2 s3 b0 b1 b2 b3 SL HI NB BW OW HX HN3 l0 lp2 ls2 EP
  rcases zK (Q == 9) with t9 | t9
  ·have hQ:Q=9:=by simpa using t9
   have t3:(K == 3)=true:=by
    have:=HA.out hQ
    simpa using this
   have HE:Hid (rdX x p=rdL (fun j=>cmS x.y p j) x.pn):=by
    show rdX x p=_
    rw [HD.out,if_pos hQ]
   clear HA HD hQ
   go_wp2_with fail
   go_loopw [5,9] (fun o i wr=>∃ j:Nat,j<=x.pn/\i=.int .i64 j/\Hid (OwnI wr (w.heap.size+1) o (rdL (fun j=>cmS x.y p j) j)/\Below w.heap.size w wr/\BoxC wr w.heap.size (.slice x.pa x.pn x.pc) (.slice x.sa x.sn x.sc) (.slice x.wa x.wn x.wc) (.slice x.ha x.hn x.hc))) (fun _ i _=>x.pn - (intOf i).toNat)
   case atStart=>exact ⟨0,Nat.zero_le _,rfl,OC.out,BC.out,NC.out⟩
   case round=>
    obtain ⟨j,hj,rfl,HZ⟩:=hrel
    clear k0 k1 k2 kf OC BC NC
    have hj4:(j:Int)<=4:=by omega
    by_cases hlt:j<x.pn
    ·have hlt':(j:Int)<(x.pn:Int):=by omega
     obtain ⟨b0,b1,b2,b3⟩:=HZ.out.2.2
     go_wp2_with fail
     refine (l4Copy_any x wr (HG.out.below HZ.out.2.1) HL.out).mono ?_
     rintro e w1 ⟨v1,rfl,o1,q1⟩
     obtain ⟨pa1,pc1,sa1,sc1,wa1,wc1,ha1,hc1,rfl⟩:=o1.formJ
     have O1:Hid (OwnSys true w1 wr.heap.size x.y (sysV pa1 x.y.pn pc1 sa1 x.y.sn sc1 wa1 x.y.wn wc1 ha1 x.y.hn hc1)):=o1
     have Q1:Hid (Below wr.heap.size wr w1):=q1
     clear o1 q1 b0 b1 b2 b3
     go_wp2_with fail
     refine (l5Step_code x.y p j w1 wr.heap.size _ O1.out hp HO.out).mono ?_
     rintro e w2 ⟨rfl,q2⟩
     have B2:Below wr.heap.size wr w2:=Q1.out.trans q2
     have ba:=zQ w2 (oQ4 pa1 x.y.pn pc1 sa1 x.y.sn sc1 wa1 x.y.wn wc1 ha1 x.y.hn hc1)
     have B3:Below wr.heap.size wr (w2.alloc (oQ4 pa1 x.y.pn pc1 sa1 x.y.sn sc1 wa1 x.y.wn wc1 ha1 x.y.hn hc1)):=B2.trans (ba.mono B2.size)
     have F3:Hid (OwnI (w2.alloc (oQ4 pa1 x.y.pn pc1 sa1 x.y.sn sc1 wa1 x.y.wn wc1 ha1 x.y.hn hc1)) (w.heap.size+1) u5 (rdL (fun j=>cmS x.y p j) j)/\Below w.heap.size w (w2.alloc (oQ4 pa1 x.y.pn pc1 sa1 x.y.sn sc1 wa1 x.y.wn wc1 ha1 x.y.hn hc1))/\BoxC (w2.alloc (oQ4 pa1 x.y.pn pc1 sa1 x.y.sn sc1 wa1 x.y.wn wc1 ha1 x.y.hn hc1)) w.heap.size (.slice x.pa x.pn x.pc) (.slice x.sa x.sn x.sc) (.slice x.wa x.wn x.wc) (.slice x.ha x.hn x.hc)):=⟨HZ.out.1.below B3,HZ.out.2.1.trans (B3.mono HZ.out.2.1.size),HZ.out.2.2.below B3⟩
     have HLn:Hid ((rdL (fun j=>cmS x.y p j) j).length<=1048576):=zP (rdL_le _ j) (by omega)
     clear q2 O1 Q1 B2 B3 ba HZ
     by_cases hcd:cmS x.y p j=0
     ·have E0:Hid (rdL (fun j=>cmS x.y p j) (j+1)=rdL (fun j=>cmS x.y p j) j ++ [(j:Int)]):=rdL_hit hcd
      rw [hcd]
      clear hcd
      go_wp2_with (at_builtin;refine append_oneN (w2.alloc (oQ4 pa1 x.y.pn pc1 sa1 x.y.sn sc1 wa1 x.y.wn wc1 ha1 x.y.hn hc1)) (by simp) rfl _ _ rfl (w.heap.size+1) u5 (rdL (fun j=>cmS x.y p j) j) rfl F3.out.1 j rfl HLn.out F3.out.2.2.ltM ?_;intro v5 w5 o5 b5;have F5:Hid (OwnI w5 (w.heap.size+1) v5 (rdL (fun j=>cmS x.y p j) j ++ [(j:Int)])/\Below w.heap.size w w5/\BoxC w5 w.heap.size (.slice x.pa x.pn x.pc) (.slice x.sa x.sn x.sc) (.slice x.wa x.wn x.wc) (.slice x.ha x.hn x.hc)):=⟨o5,F3.out.2.1.trans (b5.mono (Nat.le_succ _)),box_low b5 F3.out.2.2⟩;clear o5 b5)
      go_roundw
      case rel=>exact ⟨j+1,by omega,by go_num,by rw [E0.out];exact F5.out.1,F5.out.2.1,F5.out.2.2⟩
      case measure=>simp [intOf];omega
     ·have E0:Hid (rdL (fun j=>cmS x.y p j) (j+1)=rdL (fun j=>cmS x.y p j) j):=rdL_not hcd
      have t0:(cmS x.y p j == 0)=false:=by simpa using hcd
      generalize cmS x.y p (j:Int)=cd at t0
      go_wp2
      go_roundw
      case rel=>exact ⟨j+1,by omega,by go_num,by rw [E0.out];exact F3.out.1,F3.out.2.1,F3.out.2.2⟩
      case measure=>simp [intOf];omega
    ·have hjm:j=x.pn:=by omega
     subst hjm
     go_wp2
     go_ret
     exact ⟨_,rfl,by rw [HE.out];exact HZ.out.1.mono (Nat.le_succ _),HZ.out.2.1⟩
  ·have hQ:¬ Q=9:=by simpa using t9
   have HE:Hid (rdX x p=rdL (fun j=>cmS x.y p j) 1):=by
    show rdX x p=_
    rw [HD.out,if_neg hQ]
   clear HA HD hQ
   rcases zK (K == 3) with t3 | t3
   ·go_wp2_with fail
    go_loopw [5,9] (fun o i wr=>∃ j:Nat,j<=(1:Nat)/\i=.int .i64 j/\Hid (OwnI wr (w.heap.size+1) o (rdL (fun j=>cmS x.y p j) j)/\Below w.heap.size w wr/\BoxC wr w.heap.size (.slice x.pa x.pn x.pc) (.slice x.sa x.sn x.sc) (.slice x.wa x.wn x.wc) (.slice x.ha x.hn x.hc))) (fun _ i _=>(1:Nat) - (intOf i).toNat)
    case atStart=>exact ⟨0,Nat.zero_le _,rfl,OC.out,BC.out,NC.out⟩
    case round=>
     obtain ⟨j,hj,rfl,HZ⟩:=hrel
     clear k0 k1 k2 kf OC BC NC
     have hj4:(j:Int)<=4:=by omega
     by_cases hlt:j<(1:Nat)
     ·have hlt':(j:Int)<((1:Nat):Int):=by omega
      obtain ⟨b0,b1,b2,b3⟩:=HZ.out.2.2
      go_wp2_with fail
      refine (l4Copy_any x wr (HG.out.below HZ.out.2.1) HL.out).mono ?_
      rintro e w1 ⟨v1,rfl,o1,q1⟩
      obtain ⟨pa1,pc1,sa1,sc1,wa1,wc1,ha1,hc1,rfl⟩:=o1.formJ
      have O1:Hid (OwnSys true w1 wr.heap.size x.y (sysV pa1 x.y.pn pc1 sa1 x.y.sn sc1 wa1 x.y.wn wc1 ha1 x.y.hn hc1)):=o1
      have Q1:Hid (Below wr.heap.size wr w1):=q1
      clear o1 q1 b0 b1 b2 b3
      go_wp2_with fail
      refine (l5Step_code x.y p j w1 wr.heap.size _ O1.out hp HO.out).mono ?_
      rintro e w2 ⟨rfl,q2⟩
      have B2:Below wr.heap.size wr w2:=Q1.out.trans q2
      have ba:=zQ w2 (oQ4 pa1 x.y.pn pc1 sa1 x.y.sn sc1 wa1 x.y.wn wc1 ha1 x.y.hn hc1)
      have B3:Below wr.heap.size wr (w2.alloc (oQ4 pa1 x.y.pn pc1 sa1 x.y.sn sc1 wa1 x.y.wn wc1 ha1 x.y.hn hc1)):=B2.trans (ba.mono B2.size)
      have F3:Hid (OwnI (w2.alloc (oQ4 pa1 x.y.pn pc1 sa1 x.y.sn sc1 wa1 x.y.wn wc1 ha1 x.y.hn hc1)) (w.heap.size+1) u5 (rdL (fun j=>cmS x.y p j) j)/\Below w.heap.size w (w2.alloc (oQ4 pa1 x.y.pn pc1 sa1 x.y.sn sc1 wa1 x.y.wn wc1 ha1 x.y.hn hc1))/\BoxC (w2.alloc (oQ4 pa1 x.y.pn pc1 sa1 x.y.sn sc1 wa1 x.y.wn wc1 ha1 x.y.hn hc1)) w.heap.size (.slice x.pa x.pn x.pc) (.slice x.sa x.sn x.sc) (.slice x.wa x.wn x.wc) (.slice x.ha x.hn x.hc)):=⟨HZ.out.1.below B3,HZ.out.2.1.trans (B3.mono HZ.out.2.1.size),HZ.out.2.2.below B3⟩
      have HLn:Hid ((rdL (fun j=>cmS x.y p j) j).length<=1048576):=zP (rdL_le _ j) (by omega)
      clear q2 O1 Q1 B2 B3 ba HZ
      by_cases hcd:cmS x.y p j=0
      ·have E0:Hid (rdL (fun j=>cmS x.y p j) (j+1)=rdL (fun j=>cmS x.y p j) j ++ [(j:Int)]):=rdL_hit hcd
       rw [hcd]
       clear hcd
       go_wp2_with (at_builtin;refine append_oneN (w2.alloc (oQ4 pa1 x.y.pn pc1 sa1 x.y.sn sc1 wa1 x.y.wn wc1 ha1 x.y.hn hc1)) (by simp) rfl _ _ rfl (w.heap.size+1) u5 (rdL (fun j=>cmS x.y p j) j) rfl F3.out.1 j rfl HLn.out F3.out.2.2.ltM ?_;intro v5 w5 o5 b5;have F5:Hid (OwnI w5 (w.heap.size+1) v5 (rdL (fun j=>cmS x.y p j) j ++ [(j:Int)])/\Below w.heap.size w w5/\BoxC w5 w.heap.size (.slice x.pa x.pn x.pc) (.slice x.sa x.sn x.sc) (.slice x.wa x.wn x.wc) (.slice x.ha x.hn x.hc)):=⟨o5,F3.out.2.1.trans (b5.mono (Nat.le_succ _)),box_low b5 F3.out.2.2⟩;clear o5 b5)
       go_roundw
       case rel=>exact ⟨j+1,by omega,by go_num,by rw [E0.out];exact F5.out.1,F5.out.2.1,F5.out.2.2⟩
       case measure=>simp [intOf];omega
      ·have E0:Hid (rdL (fun j=>cmS x.y p j) (j+1)=rdL (fun j=>cmS x.y p j) j):=rdL_not hcd
       have t0:(cmS x.y p j == 0)=false:=by simpa using hcd
       generalize cmS x.y p (j:Int)=cd at t0
       go_wp2
       go_roundw
       case rel=>exact ⟨j+1,by omega,by go_num,by rw [E0.out];exact F3.out.1,F3.out.2.1,F3.out.2.2⟩
       case measure=>simp [intOf];omega
     ·have hjm:j=(1:Nat):=by omega
      subst hjm
      go_wp2
      go_ret
      exact ⟨_,rfl,by rw [HE.out];exact HZ.out.1.mono (Nat.le_succ _),HZ.out.2.1⟩
   ·go_wp2_with fail
    go_loopw [5,9] (fun o i wr=>∃ j:Nat,j<=(1:Nat)/\i=.int .i64 j/\Hid (OwnI wr (w.heap.size+1) o (rdL (fun j=>cmS x.y p j) j)/\Below w.heap.size w wr/\BoxC wr w.heap.size (.slice x.pa x.pn x.pc) (.slice x.sa x.sn x.sc) (.slice x.wa x.wn x.wc) (.slice x.ha x.hn x.hc))) (fun _ i _=>(1:Nat) - (intOf i).toNat)
    case atStart=>exact ⟨0,Nat.zero_le _,rfl,OC.out,BC.out,NC.out⟩
    case round=>
     obtain ⟨j,hj,rfl,HZ⟩:=hrel
     clear k0 k1 k2 kf OC BC NC
     have hj4:(j:Int)<=4:=by omega
     by_cases hlt:j<(1:Nat)
     ·have hlt':(j:Int)<((1:Nat):Int):=by omega
      obtain ⟨b0,b1,b2,b3⟩:=HZ.out.2.2
      go_wp2_with fail
      refine (l4Copy_any x wr (HG.out.below HZ.out.2.1) HL.out).mono ?_
      rintro e w1 ⟨v1,rfl,o1,q1⟩
      obtain ⟨pa1,pc1,sa1,sc1,wa1,wc1,ha1,hc1,rfl⟩:=o1.formJ
      have O1:Hid (OwnSys true w1 wr.heap.size x.y (sysV pa1 x.y.pn pc1 sa1 x.y.sn sc1 wa1 x.y.wn wc1 ha1 x.y.hn hc1)):=o1
      have Q1:Hid (Below wr.heap.size wr w1):=q1
      clear o1 q1 b0 b1 b2 b3
      go_wp2_with fail
      refine (l5Step_code x.y p j w1 wr.heap.size _ O1.out hp HO.out).mono ?_
      rintro e w2 ⟨rfl,q2⟩
      have B2:Below wr.heap.size wr w2:=Q1.out.trans q2
      have ba:=zQ w2 (oQ4 pa1 x.y.pn pc1 sa1 x.y.sn sc1 wa1 x.y.wn wc1 ha1 x.y.hn hc1)
      have B3:Below wr.heap.size wr (w2.alloc (oQ4 pa1 x.y.pn pc1 sa1 x.y.sn sc1 wa1 x.y.wn wc1 ha1 x.y.hn hc1)):=B2.trans (ba.mono B2.size)
      have F3:Hid (OwnI (w2.alloc (oQ4 pa1 x.y.pn pc1 sa1 x.y.sn sc1 wa1 x.y.wn wc1 ha1 x.y.hn hc1)) (w.heap.size+1) u5 (rdL (fun j=>cmS x.y p j) j)/\Below w.heap.size w (w2.alloc (oQ4 pa1 x.y.pn pc1 sa1 x.y.sn sc1 wa1 x.y.wn wc1 ha1 x.y.hn hc1))/\BoxC (w2.alloc (oQ4 pa1 x.y.pn pc1 sa1 x.y.sn sc1 wa1 x.y.wn wc1 ha1 x.y.hn hc1)) w.heap.size (.slice x.pa x.pn x.pc) (.slice x.sa x.sn x.sc) (.slice x.wa x.wn x.wc) (.slice x.ha x.hn x.hc)):=⟨HZ.out.1.below B3,HZ.out.2.1.trans (B3.mono HZ.out.2.1.size),HZ.out.2.2.below B3⟩
      have HLn:Hid ((rdL (fun j=>cmS x.y p j) j).length<=1048576):=zP (rdL_le _ j) (by omega)
      clear q2 O1 Q1 B2 B3 ba HZ
      by_cases hcd:cmS x.y p j=0
      ·have E0:Hid (rdL (fun j=>cmS x.y p j) (j+1)=rdL (fun j=>cmS x.y p j) j ++ [(j:Int)]):=rdL_hit hcd
       rw [hcd]
       clear hcd
       go_wp2_with (at_builtin;refine append_oneN (w2.alloc (oQ4 pa1 x.y.pn pc1 sa1 x.y.sn sc1 wa1 x.y.wn wc1 ha1 x.y.hn hc1)) (by simp) rfl _ _ rfl (w.heap.size+1) u5 (rdL (fun j=>cmS x.y p j) j) rfl F3.out.1 j rfl HLn.out F3.out.2.2.ltM ?_;intro v5 w5 o5 b5;have F5:Hid (OwnI w5 (w.heap.size+1) v5 (rdL (fun j=>cmS x.y p j) j ++ [(j:Int)])/\Below w.heap.size w w5/\BoxC w5 w.heap.size (.slice x.pa x.pn x.pc) (.slice x.sa x.sn x.sc) (.slice x.wa x.wn x.wc) (.slice x.ha x.hn x.hc)):=⟨o5,F3.out.2.1.trans (b5.mono (Nat.le_succ _)),box_low b5 F3.out.2.2⟩;clear o5 b5)
       go_roundw
       case rel=>exact ⟨j+1,by omega,by go_num,by rw [E0.out];exact F5.out.1,F5.out.2.1,F5.out.2.2⟩
       case measure=>simp [intOf];omega
      ·have E0:Hid (rdL (fun j=>cmS x.y p j) (j+1)=rdL (fun j=>cmS x.y p j) j):=rdL_not hcd
       have t0:(cmS x.y p j == 0)=false:=by simpa using hcd
       generalize cmS x.y p (j:Int)=cd at t0
       go_wp2
       go_roundw
       case rel=>exact ⟨j+1,by omega,by go_num,by rw [E0.out];exact F3.out.1,F3.out.2.1,F3.out.2.2⟩
       case measure=>simp [intOf];omega
     ·have hjm:j=(1:Nat):=by omega
      subst hjm
      go_wp2
      go_ret
      exact ⟨_,rfl,by rw [HE.out];exact HZ.out.1.mono (Nat.le_succ _),HZ.out.2.1⟩
def chS (y:Sy) (p:Nat):Nat:=if y.nq p=9 then y.pn else 1
def rdS (y:Sy) (p:Nat):List Int:=rdL (fun j=>cmS y p j) (chS y p)
theorem rdX_y (x:SysIn) (p:Nat):rdX x p=rdS x.y p:=rfl
open Classical in
noncomputable def rdQ (y:Sy) (p:Int):List Int:=if y.okB=true/\belB p y.pn=true then rdS y p.toNat else []
theorem specReady_any (x:SysIn) (p:Int) (w:World) (hG:SysG w x) (hL:x.Len) (hcap:∀ i,i<x.hn->x.hL i<=x.hC i):
  Calls Tryz.prog 179 #[x.v,.int .i64 p] w fun e w'=>∃ u,e=.returned u/\OwnI w' w.heap.size u (rdQ x.y p)/\Below w.heap.size w w':=by
 have HG:Hid (SysG w x):=hG
 have HL:Hid x.Len:=hL
 have HS:Hid (∀ wx,Below w.heap.size w wx->Calls Tryz.prog 20 #[x.v] wx fun e w'=>e=.returned (.bool x.y.okB)/\Below wx.heap.size wx w'):=fun wx hb=>specSysOk_any x wx (HG.out.below hb) hL hcap
 have BW:Hid (Below w.heap.size w (w.alloc (oQ4 x.pa x.pn x.pc x.sa x.sn x.sc x.wa x.wn x.wc x.ha x.hn x.hc))):=zQ _ _
 have NB:Hid (BoxC (w.alloc (oQ4 x.pa x.pn x.pc x.sa x.sn x.sc x.wa x.wn x.wc x.ha x.hn x.hc)) w.heap.size (.slice x.pa x.pn x.pc) (.slice x.sa x.sn x.sc) (.slice x.wa x.wn x.wc) (.slice x.ha x.hn x.hc)):=BoxC.new w _ _ _ _ _
 clear hG hL hcap
 go_enter Tryz.func179,Tryz.ntmps179
 go_wp2_with fail
 generalize w.alloc (oQ4 x.pa x.pn x.pc x.sa x.sn x.sc x.wa x.wn x.wc x.ha x.hn x.hc)=W2 at *
 refine (HS.out W2 BW.out).mono ?_
 rintro e w1 ⟨rfl,q1⟩
 have B1:Hid (Below w.heap.size w w1/\BoxC w1 w.heap.size (.slice x.pa x.pn x.pc) (.slice x.sa x.sn x.sc) (.slice x.wa x.wn x.wc) (.slice x.ha x.hn x.hc)):=⟨BW.out.trans (q1.mono BW.out.size),NB.out.below q1⟩
 clear q1 BW NB HS
 rcases zK x.y.okB with t | t
 case inr=>
  have HV:Hid (rdQ x.y p=[]):=by
   show rdQ x.y p=[]
   rw [rdQ,if_neg (by rw [t];simp)]
  have OE:Hid (OwnI (w1.alloc (.cells #[] 3)) w.heap.size (.slice (some ⟨w1.heap.size,0,none⟩) 0 0) []/\Below w.heap.size w (w1.alloc (.cells #[] 3))):=⟨(own_empty w1).mono B1.out.1.size,B1.out.1.trans ((zQ _ _).mono B1.out.1.size)⟩
  rw [t]
  clear t
  go_wp2
  go_ret
  rw [HV.out]
  exact ⟨_,rfl,OE.out⟩
 have HO:Hid x.y.Ok:=Sy.ok_of t
 have HC:Hid (Calls Tryz.prog 192 #[x.v,.int .i64 p] w1 fun e w'=>∃ u,e=.returned u/\OwnI w' w1.heap.size u (rdQ x.y p)/\Below w1.heap.size w1 w'):=by
  show Calls Tryz.prog 192 _ _ _
  by_cases hb:belB p x.pn=true
  ·have hb':0<=p/\p<(x.pn:Int):=by simpa [belB] using hb
   obtain ⟨k,rfl⟩:∃ k:Nat,p=k:=⟨p.toNat,by omega⟩
   have e:rdQ x.y (k:Int)=rdX x k:=by
    rw [rdQ,if_pos ⟨t,hb⟩,rdX_y]
    rfl
   rw [e]
   exact l5Ready_any x k w1 (HG.out.below B1.out.1) HL.out HO.out (by omega)
  ·have e:rdQ x.y p=[]:=by
    rw [rdQ,if_neg]
    exact fun h=>hb h.2
   rw [e]
   exact l5Ready_out x p w1 HL.out.p.1 (by
    simp only [inB,decide_eq_false_iff_not]
    simp only [belB,decide_eq_true_eq] at hb
    omega)
 rw [t]
 clear t
 obtain ⟨b0,b1,b2,b3⟩:=B1.out.2
 go_wp2_with fail
 refine HC.out.mono ?_
 rintro e w2 ⟨u2,rfl,o2,q2⟩
 have F2:Hid (OwnI w2 w.heap.size u2 (rdQ x.y p)/\Below w.heap.size w w2):=⟨o2.mono B1.out.1.size,B1.out.1.trans (q2.mono B1.out.1.size)⟩
 clear o2 q2 HC
 go_wp2
 go_ret
 exact ⟨_,rfl,F2.out⟩
def snV (y:Sy) (p i:Nat):Value:=if (y.hH p i).k=3 then .tuple #[.agg #[.int .i64 (y.hH p i).q,.int .i64 (sndN y p i)],.bool true] else .tuple #[.agg #[.int .i64 0,.int .i64 0],.bool false]
theorem senderIn_any (x:SysIn) (p i:Nat) (w:World) (hG:SysG w x) (hcap:∀ i,i<x.hn->x.hL i<=x.hC i) (hO:x.y.Ok) (hp:p<x.pn) (hi:i<x.hL p):
  Calls Tryz.prog 69 #[x.v,.agg #[.int .i64 p,.int .i64 i]] w fun e w'=>e=.returned (snV x.y p i)/\Below w.heap.size w w':=by
 have hhn:x.hn=x.pn:=hO.cn.2.2.1
 have hph:p<x.hn:=by omega
 have hq:0<=(x.hH p i).q/\(x.hH p i).q<(x.pn:Int):=hO.evq hp hi
 have hlp:x.hL p<=200:=hO.hl200 hp
 obtain ⟨q,hqe⟩:∃ q:Nat,(x.hH p i).q=q:=⟨(x.hH p i).q.toNat,by omega⟩
 have hqn:q<x.hn:=by omega
 have hlq:x.hL q<=200:=hO.hl200 (by show q<x.pn;omega)
 have hcp:=hcap p hph
 have hph':(p:Int)<(x.hn:Int):=by omega
 have hqn':(q:Int)<(x.hn:Int):=by omega
 have hi':(i:Int)<(x.hL p:Int):=by omega
 have HG:Hid (SysG w x):=hG
 have HV:Hid (sndN x.y p i=if (x.hH p i).k=3 then nthV (x.hH q) 2 p (x.hL q) ((plN (x.hH p) 3 q i).length:Nat) else -1):=by
  show sndN x.y p i=_
  unfold sndN
  show (if (x.hH p i).k=3 then nthV (x.hH (x.hH p i).q.toNat) 2 p (x.hL (x.hH p i).q.toNat) ((plN (x.hH p) 3 (x.hH p i).q i).length:Nat) else -1)=_
  rw [hqe,Int.toNat_natCast]
 have hcn:(plN (x.hH p) 3 q i).length<=i:=plN_le _ _ _ _
 have ks:=slice_to (x.hA p) (x.hL p) (x.hC p) i (by omega)
 have HCk:Hid (∀ wx,Below w.heap.size w wx->Calls Tryz.prog 120 #[.slice (x.hA p) i (x.hC p),.int .i64 3,.int .i64 q] wx fun e w'=>e=.returned (.int .i64 ((plN (x.hH p) 3 q i).length:Nat))/\Below wx.heap.size wx w'):=fun wx hb=>implCount_l (x.hA p) i (x.hC p) (x.hH p) 3 q wx (by omega) (((hG.below hb).hi p hph).take (by omega))
 have HNt:Hid (∀ wx,Below w.heap.size w wx->Calls Tryz.prog 91 #[.slice (x.hA q) (x.hL q) (x.hC q),.int .i64 2,.int .i64 p,.int .i64 ((plN (x.hH p) 3 q i).length:Nat)] wx fun e w'=>e=.returned (.int .i64 (nthV (x.hH q) 2 p (x.hL q) ((plN (x.hH p) 3 q i).length:Nat)))/\Below wx.heap.size wx w'):=fun wx hb=>implNth_l (x.hA q) (x.hL q) (x.hC q) (x.hH q) 2 p _ wx (by omega) ((hG.below hb).hi q hqn)
 generalize hCn:(plN (x.hH p) 3 q i).length=cn at *
 generalize hNv:nthV (x.hH q) 2 p (x.hL q) (cn:Nat)=nv at *
 have HQ:Hid ((x.hH p i).q=q):=hqe
 clear hG hcap hO hq hqe hNv hCn hhn
 have HSV:Hid (snV x.y p i=if (x.hH p i).k=3 then .tuple #[.agg #[.int .i64 (x.hH p i).q,.int .i64 (sndN x.y p i)],.bool true] else .tuple #[.agg #[.int .i64 0,.int .i64 0],.bool false]):=rfl
 generalize snV x.y p i=R at *
 have BW:Hid (Below w.heap.size w (((w.alloc (oQ4 x.pa x.pn x.pc x.sa x.sn x.sc x.wa x.wn x.wc x.ha x.hn x.hc)).alloc (oQ5 p i)).alloc (oQ5 0 0))):=(zT _ _).trans (((zT _ _).trans ((zT _ _).mono (by simp))).mono (by simp))
 have NB:Hid (BoxC (((w.alloc (oQ4 x.pa x.pn x.pc x.sa x.sn x.sc x.wa x.wn x.wc x.ha x.hn x.hc)).alloc (oQ5 p i)).alloc (oQ5 0 0)) w.heap.size (.slice x.pa x.pn x.pc) (.slice x.sa x.sn x.sc) (.slice x.wa x.wn x.wc) (.slice x.ha x.hn x.hc)):=((BoxC.new w _ _ _ _ _).below (zT _ _)).below (zT _ _)
 have NS:Hid ((((w.alloc (oQ4 x.pa x.pn x.pc x.sa x.sn x.sc x.wa x.wn x.wc x.ha x.hn x.hc)).alloc (oQ5 p i)).alloc (oQ5 0 0)).cell? ⟨w.heap.size+1,0,none⟩=some (.int .i64 p)/\(((w.alloc (oQ4 x.pa x.pn x.pc x.sa x.sn x.sc x.wa x.wn x.wc x.ha x.hn x.hc)).alloc (oQ5 p i)).alloc (oQ5 0 0)).cell? ⟨w.heap.size+1,1,none⟩=some (.int .i64 i)):=⟨cell_allocs (zW (w.alloc (oQ4 x.pa x.pn x.pc x.sa x.sn x.sc x.wa x.wn x.wc x.ha x.hn x.hc)) _ _ 0 (by simp)) _,cell_allocs (zW (w.alloc (oQ4 x.pa x.pn x.pc x.sa x.sn x.sc x.wa x.wn x.wc x.ha x.hn x.hc)) _ _ 1 (by simp)) _⟩
 have NZ:Hid ((((w.alloc (oQ4 x.pa x.pn x.pc x.sa x.sn x.sc x.wa x.wn x.wc x.ha x.hn x.hc)).alloc (oQ5 p i)).alloc (oQ5 0 0)).cell? ⟨w.heap.size+2,0,none⟩=some (.int .i64 0)/\(((w.alloc (oQ4 x.pa x.pn x.pc x.sa x.sn x.sc x.wa x.wn x.wc x.ha x.hn x.hc)).alloc (oQ5 p i)).alloc (oQ5 0 0)).cell? ⟨w.heap.size+2,1,none⟩=some (.int .i64 0)/\∀ j,(((w.alloc (oQ4 x.pa x.pn x.pc x.sa x.sn x.sc x.wa x.wn x.wc x.ha x.hn x.hc)).alloc (oQ5 p i)).alloc (oQ5 0 0)).frozen? ⟨w.heap.size+2,j,none⟩=false):=⟨zW ((w.alloc (oQ4 x.pa x.pn x.pc x.sa x.sn x.sc x.wa x.wn x.wc x.ha x.hn x.hc)).alloc (oQ5 p i)) _ _ 0 (by simp),zW ((w.alloc (oQ4 x.pa x.pn x.pc x.sa x.sn x.sc x.wa x.wn x.wc x.ha x.hn x.hc)).alloc (oQ5 p i)) _ _ 1 (by simp),fun j=>yB ((w.alloc (oQ4 x.pa x.pn x.pc x.sa x.sn x.sc x.wa x.wn x.wc x.ha x.hn x.hc)).alloc (oQ5 p i)) _ _ _ (by simp)⟩
 have hM2:w.heap.size<=w.heap.size+2:=Nat.le_add_right _ _
 go_enter Tryz.func69,Tryz.ntmps69
 go_upto_region 1 with fail
 generalize ((w.alloc (oQ4 x.pa x.pn x.pc x.sa x.sn x.sc x.wa x.wn x.wc x.ha x.hn x.hc)).alloc (oQ5 p i)).alloc (oQ5 0 0)=W2 at *
 obtain ⟨-,-,-,b3⟩:=NB.out
 obtain ⟨d0,d1⟩:=NS.out
 obtain ⟨z0,z1,zf⟩:=NZ.out
 obtain ⟨bh,oh,eh,cp⟩:=(HG.out.below BW.out).h.at hph
 obtain ⟨bh',oh',eh',cq⟩:=(HG.out.below BW.out).h.at hqn
 rw [eh] at eh' b3
 simp only [Option.some.injEq,Addr.mk.injEq] at eh'
 obtain ⟨rfl,rfl,-⟩:=eh'
 obtain ⟨b,off,ea,zb,e0,e1,e2⟩:=((HG.out.below BW.out).hi p hph).at hi
 rw [ea] at cp ks
 rw [HQ.out] at e1
 have HCk':=HCk.out
 rw [ea] at HCk'
 clear HCk
 have HCk:Hid (∀ wx,Below w.heap.size w wx->Calls Tryz.prog 120 #[.slice (some ⟨b,off,none⟩) i (x.hC p),.int .i64 3,.int .i64 q] wx fun e w'=>e=.returned (.int .i64 (cn:Nat))/\Below wx.heap.size wx w'):=HCk'
 have hSV:=HSV.out
 rw [HQ.out] at hSV
 clear HSV HCk' eh ea NB NS NZ
 generalize (x.hH p i).k=K at *
 generalize (x.hH p i).v=V at *
 have HSV:Hid (R=if K=3 then .tuple #[.agg #[.int .i64 q,.int .i64 (sndN x.y p i)],.bool true] else .tuple #[.agg #[.int .i64 0,.int .i64 0],.bool false]):=hSV
 clear hSV
 have BW3:Hid (Below w.heap.size w (W2.alloc (oQ0 K q V)).drew):=(BW.out.trans ((zT _ _).mono BW.out.size)).drew
 have c0:(W2.alloc (oQ0 K q V)).drew.cell? ⟨W2.heap.size,0,none⟩=some (.int .i64 K):=zW W2 #[.int .i64 K,.int .i64 q,.int .i64 V] 50 0 rfl
 have c1:(W2.alloc (oQ0 K q V)).drew.cell? ⟨W2.heap.size,1,none⟩=some (.int .i64 q):=zW W2 #[.int .i64 K,.int .i64 q,.int .i64 V] 50 1 rfl
 have hb3:∀ o,(W2.alloc o).cell? _=_:=cell_allocs b3
 have hd0:∀ o,(W2.alloc o).cell? _=_:=cell_allocs d0
 have hd1:∀ o,(W2.alloc o).cell? _=_:=cell_allocs d1
 have hcpo:∀ o,(W2.alloc o).cell? _=_:=cell_allocs cp
 have he0:∀ o,(W2.alloc o).cell? _=_:=cell_allocs e0
 have he1:∀ o,(W2.alloc o).cell? _=_:=cell_allocs e1
 have he2:∀ o,(W2.alloc o).cell? _=_:=cell_allocs e2
 have F3:Hid ((W2.alloc (oQ0 K q V)).drew.cell? ⟨w.heap.size,3,none⟩=some (.slice (some ⟨bh,oh,none⟩) x.hn x.hc)/\(W2.alloc (oQ0 K q V)).drew.cell? ⟨bh,oh+p,none⟩=some (.slice (some ⟨b,off,none⟩) (x.hL p) (x.hC p))/\(W2.alloc (oQ0 K q V)).drew.cell? ⟨bh,oh+q,none⟩=some (.slice (x.hA q) (x.hL q) (x.hC q))/\(W2.alloc (oQ0 K q V)).drew.cell? ⟨w.heap.size+1,0,none⟩=some (.int .i64 p)/\(W2.alloc (oQ0 K q V)).drew.cell? ⟨w.heap.size+1,1,none⟩=some (.int .i64 i)):=⟨cell_allocs b3 _,cell_allocs cp _,cell_allocs cq _,cell_allocs d0 _,cell_allocs d1 _⟩
 have Z3:Hid ((W2.alloc (oQ0 K q V)).drew.cell? ⟨w.heap.size+2,0,none⟩=some (.int .i64 0)/\(W2.alloc (oQ0 K q V)).drew.cell? ⟨w.heap.size+2,1,none⟩=some (.int .i64 0)/\∀ j,(W2.alloc (oQ0 K q V)).drew.frozen? ⟨w.heap.size+2,j,none⟩=false):=⟨cell_allocs z0 _,cell_allocs z1 _,fun j=>((bcell (zT W2 _)).2 _ j (zJ W2 _ z0)).trans (zf j)⟩
 go_wp2_with fail
 go_region
 all_goals
  go_upto_region 2 with fail
  clear b3 d0 d1 z0 z1 zf cp cq e0 e1 e2 zb BW hb3 hd0 hd1 hcpo he0 he1 he2
  generalize hN2:W2.heap.size=N2 at *
  clear hN2
  generalize (W2.alloc (oQ0 K q V)).drew=W3 at *
  obtain ⟨z0,z1,zf⟩:=Z3.out
  rcases zK (K == 3) with t | t
  case inr=>
   have HV2:Hid (R=.tuple #[.agg #[.int .i64 0,.int .i64 0],.bool false]):=by
    show R=_
    rw [HSV.out,if_neg (by simpa using t)]
   clear HV HSV
   go_wp2
   exact bodyPost_ret (v:=.tuple #[.agg #[.int .i64 0,.int .i64 0],.bool false]) (by simp [results,Tryz.results69,go_sem,z0,z1]) rfl ⟨by rw [HV2.out],(BW3.out.setCell hM2 _).setCell hM2 _⟩
  case inl=>
   have HV2:Hid (R=.tuple #[.agg #[.int .i64 q,.int .i64 nv],.bool true]):=by
    show R=_
    have hk:K=3:=by simpa using t
    rw [HSV.out,if_pos hk,HV.out,if_pos hk]
   clear HV HSV
   obtain ⟨b3,cp,cq,d0,d1⟩:=F3.out
   have q1:=cell_regrown c1
   have q3:=cell_regrown b3
   have qp:=cell_regrown cp
   have qd0:=cell_regrown d0
   have qd1:=cell_regrown d1
   have HQ2:Hid (∀ d os,Below w.heap.size w (grow (redrawn W3 d) os)):=fun d os=>BW3.out.trans ((below_regrown W3 d os).mono BW3.out.size)
   go_upto_region 4 with fail
   refine wp_region_quiet_below (by kernel_rfl) (by kernel_rfl) ?_
   repeat (quiet_step (first|(go_at_call 120;exact Calls.regrown_of (HCk.out _ (HQ2.out _ _)))))
   refine wpQuiet_nil ?_
   intro _ hw'
   obtain ⟨⟨dd,os⟩,hw''⟩:=hw'
   subst hw''
   have B4:Hid (Below w.heap.size w (grow (redrawn W3 dd) os)):=HQ2.out dd os
   have br:=below_regrown W3 dd os
   have F4:Hid (∀ wx,Below (grow (redrawn W3 dd) os).heap.size (grow (redrawn W3 dd) os) wx->wx.cell? ⟨N2,1,none⟩=some (.int .i64 q)/\wx.cell? ⟨w.heap.size,3,none⟩=some (.slice (some ⟨bh,oh,none⟩) x.hn x.hc)/\wx.cell? ⟨bh,oh+q,none⟩=some (.slice (x.hA q) (x.hL q) (x.hC q))/\wx.cell? ⟨w.heap.size+1,0,none⟩=some (.int .i64 p)/\wx.cell? ⟨w.heap.size+2,0,none⟩=some (.int .i64 0)/\wx.cell? ⟨w.heap.size+2,1,none⟩=some (.int .i64 0)/\∀ j,wx.frozen? ⟨w.heap.size+2,j,none⟩=false):=fun wx hx=>by
    have hx':Below W3.heap.size W3 wx:=br.trans (hx.mono br.size)
    have hcl:∀ a v,W3.cell? a=some v->wx.cell? a=some v:=fun a v ha=>(hx'.cell (zJ W3 _ ha)).trans ha
    exact ⟨hcl _ _ c1,hcl _ _ b3,hcl _ _ cq,hcl _ _ d0,hcl _ _ z0,hcl _ _ z1,fun j=>((bcell hx').2 _ j (zJ W3 _ z0)).trans (zf j)⟩
   clear q1 q3 qp qd0 qd1 c0 c1 b3 cp cq d0 d1 z0 z1 zf F3 Z3 HCk BW3 HQ2 br
   generalize grow (redrawn W3 dd) os=W4 at *
   obtain ⟨c1,b3,cq,d0,z0,z1,zf⟩:=F4.out W4 (Below.refl _ _)
   have HNw:Hid (Calls Tryz.prog 91 #[.slice (x.hA q) (x.hL q) (x.hC q),.int .i64 2,.int .i64 p,.int .i64 (cn:Nat)] W4.drew fun e w'=>e=.returned (.int .i64 nv)/\Below W4.drew.heap.size W4.drew w'):=HNt.out W4.drew B4.out.drew
   go_upto_region 5 with fail
   refine wp_region_G (fun w'=>w'.cell? ⟨N2,1,none⟩=some (.int .i64 q)/\w'.cell? ⟨w.heap.size,3,none⟩=some (.slice (some ⟨bh,oh,none⟩) x.hn x.hc)/\w'.cell? ⟨bh,oh+q,none⟩=some (.slice (x.hA q) (x.hL q) (x.hC q))/\w'.cell? ⟨w.heap.size+1,0,none⟩=some (.int .i64 p)/\w'.cell? ⟨w.heap.size+2,0,none⟩=some (.int .i64 0)/\w'.cell? ⟨w.heap.size+2,1,none⟩=some (.int .i64 0)) (fun i=>i == 13 || i == 14) (by kernel_rfl) ?_
   have hHeld:(fun w'=>w'.cell? ⟨N2,1,none⟩=some (.int .i64 q)/\w'.cell? ⟨w.heap.size,3,none⟩=some (.slice (some ⟨bh,oh,none⟩) x.hn x.hc)/\w'.cell? ⟨bh,oh+q,none⟩=some (.slice (x.hA q) (x.hL q) (x.hC q))/\w'.cell? ⟨w.heap.size+1,0,none⟩=some (.int .i64 p)/\w'.cell? ⟨w.heap.size+2,0,none⟩=some (.int .i64 0)/\w'.cell? ⟨w.heap.size+2,1,none⟩=some (.int .i64 0)) W4.drew:=⟨c1,b3,cq,d0,z0,z1⟩
   refine wpGT_of [0,1,2,3,4,5,6,7,8,9,10] ?_
   iterate 11 (refine wpGT_take rfl hHeld ?_;apply Exists.intro;refine ⟨fun wq hSw=>?_,?_⟩;(· ((try dsimp only at hSw);go_simp;try with_reducible rfl));(try simp only [Act.put,zD,zE,zF]))
   refine wpGT_nil ?_
   refine wpG_one 11 rfl (by kernel_rfl) (fun K hK=>?_)
   refine stepR_call rfl 91 _ _ rfl #[.slice (x.hA q) (x.hL q) (x.hC q),.int .i64 2,.int .i64 p,.int .i64 (cn:Nat)] (by simp [Act.eval]) (yA Tryz.func91 (by kernel_rfl) rfl) HNw.out ?_
   rintro e w1 ⟨rfl,b1⟩
   refine ⟨_,rfl,?_⟩
   have q1:Below W4.heap.size W4 w1:=(Below.refl W4.heap.size W4).drew.trans b1
   obtain ⟨r1,r3,rq,rd,rz0,rz1,rzf⟩:=F4.out w1 q1
   have Q1:Hid (Below w.heap.size w w1):=B4.out.trans (q1.mono B4.out.size)
   refine hK.out _ _ (fun _=>⟨r1,r3,rq,rd,rz0,rz1⟩) ?_
   clear hHeld
   have hHeld:(fun w'=>w'.cell? ⟨N2,1,none⟩=some (.int .i64 q)/\w'.cell? ⟨w.heap.size,3,none⟩=some (.slice (some ⟨bh,oh,none⟩) x.hn x.hc)/\w'.cell? ⟨bh,oh+q,none⟩=some (.slice (x.hA q) (x.hL q) (x.hC q))/\w'.cell? ⟨w.heap.size+1,0,none⟩=some (.int .i64 p)/\w'.cell? ⟨w.heap.size+2,0,none⟩=some (.int .i64 0)/\w'.cell? ⟨w.heap.size+2,1,none⟩=some (.int .i64 0)) w1:=⟨r1,r3,rq,rd,rz0,rz1⟩
   clear b1 q1
   clear hK K
   (try simp only [Act.put,zD,zE,zF])
   refine wpG_take 12 rfl hHeld ?_
   apply Exists.intro
   refine ⟨fun wq hSw=>?_,?_⟩
   ·(try dsimp only at hSw)
    go_simp
    try with_reducible rfl
   (try simp only [Act.put,zD,zE,zF])
   refine wpG_one 13 rfl (by kernel_rfl) (fun K hK=>?_)
   go_simp
   refine hK.out _ _ (fun h=>?_) ?_
   ·exact absurd h (by decide)
   clear hK K
   (try simp only [Act.put,zD,zE,zF])
   refine wpG_one 14 rfl (by kernel_rfl) (fun K hK=>?_)
   go_simp
   refine hK.out _ _ (fun h=>?_) ?_
   ·exact absurd h (by decide)
   clear hK K
   (try simp only [Act.put,zD,zE,zF])
   refine wpG_done (by kernel_rfl) ?_ _
   go_wp2
   refine bodyPost_ret (v:=.tuple #[.agg #[.int .i64 q,.int .i64 nv],.bool true]) (by simp [results,Tryz.results69,go_sem,rz0,rz1]) rfl ⟨by rw [HV2.out],?_⟩
   exact (Q1.out.setCell hM2 _).setCell hM2 _
def SpAt (w:World) (b n:Nat) (f:Nat->Int × Int):Prop:=∀ k,k<n->w.cell? ⟨b,k*2,none⟩=some (.int .i64 (f k).1)/\w.cell? ⟨b,k*2+1,none⟩=some (.int .i64 (f k).2)
theorem SpAt.below {w w':World} {b n:Nat} {f:Nat->Int × Int} (h:SpAt w b n f) (hb:b<w.heap.size) (q:Below w.heap.size w w'):SpAt w' b n f:=fun k hk=>⟨(q.cell (p:=⟨b,_,none⟩) hb).trans (h k hk).1,(q.cell (p:=⟨b,_,none⟩) hb).trans (h k hk).2⟩
def Sy.Has (y:Sy) (u:Int × Int):Prop:=belB u.1 y.hn=true/\belB u.2 (y.hL u.1.toNat)=true
noncomputable def arB (y:Sy) (n:Nat) (f:Nat->Int × Int):Bool:=y.okB && qB (∀ k,k<n->y.Has (f k))
theorem arB_one {y:Sy} {f:Nat->Int × Int}:arB y 1 f=hasB y (f 0).1 (f 0).2:=by
 unfold arB hasB
 rcases zK y.okB with h | h
 ·have e:=(Sy.ok_of h).cn.2.2.1
  rw [h,Bool.true_and,Bool.true_and]
  by_cases hc:y.Has (f 0)
  ·rw [qB_true fun k hk=>by rw [show k=0 by omega];exact hc,<- e,hc.1,hc.2]
   rfl
  ·rw [qB_false fun hh=>hc (hh 0 (by omega)),<- e]
   unfold Sy.Has at hc
   cases h1:belB (f 0).1 y.hn
   ·rfl
   ·cases h2:belB (f 0).2 (y.hL (f 0).1.toNat)
    ·rfl
    ·exact absurd ⟨h1,h2⟩ hc
 ·rw [h]
  rfl
theorem areIn_any (x:SysIn) (b n cap:Nat) (f:Nat->Int × Int) (w:World) (hG:SysG w x) (hL:x.Len) (hV:w.cell? ⟨0,0,none⟩=some (.iface 266 (.agg #[.pointer (some ⟨1,211,none⟩)]))) (hb:b<w.heap.size) (hn:n<=1000) (hS:SpAt w b n f):
  Calls Tryz.prog 47 #[x.v,.slice (some ⟨b,0,none⟩) n cap] w fun e w'=>e=.returned (.bool (arB x.y n f))/\Below w.heap.size w w':=by
 have HG:Hid (SysG w x):=hG
 have HSp:Hid (SpAt w b n f):=hS
 have hn':(n:Int)<=1000:=by omega
 have HS:Hid (∀ wx,Below w.heap.size w wx->Calls Tryz.prog 52 #[x.v] wx fun e w'=>e=.returned (.bool x.y.okB)/\Below wx.heap.size wx w'):=fun wx hb=>implSysOk_any x wx (HG.out.below hb) hL ((hb.cell (p:=⟨0,0,none⟩) (zJ w _ hV)).trans hV)
 have BW:Hid (Below w.heap.size w (w.alloc (oQ4 x.pa x.pn x.pc x.sa x.sn x.sc x.wa x.wn x.wc x.ha x.hn x.hc))):=zT _ _
 have NB:Hid (BoxC (w.alloc (oQ4 x.pa x.pn x.pc x.sa x.sn x.sc x.wa x.wn x.wc x.ha x.hn x.hc)) w.heap.size (.slice x.pa x.pn x.pc) (.slice x.sa x.sn x.sc) (.slice x.wa x.wn x.wc) (.slice x.ha x.hn x.hc)):=BoxC.new w _ _ _ _ _
 have HR:Hid (arB x.y n f=(x.y.okB && qB (∀ k,k<n->x.y.Has (f k)))):=rfl
 generalize arB x.y n f=R at *
 clear hG hL hV hS
 go_enter Tryz.func47,Tryz.ntmps47
 go_wp2_with fail
 generalize w.alloc (oQ4 x.pa x.pn x.pc x.sa x.sn x.sc x.wa x.wn x.wc x.ha x.hn x.hc)=W2 at *
 refine (HS.out W2 BW.out).mono ?_
 rintro e w1 ⟨rfl,q1⟩
 have B1:Hid (Below w.heap.size w w1/\BoxC w1 w.heap.size (.slice x.pa x.pn x.pc) (.slice x.sa x.sn x.sc) (.slice x.wa x.wn x.wc) (.slice x.ha x.hn x.hc)):=⟨BW.out.trans (q1.mono BW.out.size),NB.out.below q1⟩
 clear q1 BW NB HS
 rcases zK x.y.okB with t | t
 case inr=>
  have HV:Hid (R=false):=by
   show R=false
   rw [HR.out,t]
   rfl
  rw [t]
  clear t
  go_wp2
  go_ret
  rw [HV.out]
  exact ⟨rfl,B1.out.1⟩
 have HO:Hid x.y.Ok:=Sy.ok_of t
 have HV:Hid (R=qB (∀ k,k<n->x.y.Has (f k))):=by
  show R=_
  rw [HR.out,t]
  rfl
 have h4:(x.hn:Int)<=4:=by
  have h1:x.pn<=4:=HO.out.cn.1.2
  have h2:x.hn=x.pn:=HO.out.cn.2.2.1
  omega
 have HH : Hid (∀ a, a < x.hn → x.hL a ≤ 200) := fun a ha => HO.out.hl200 (by
  show a<x.pn
  have h2:x.hn=x.pn:=HO.out.cn.2.2.1
  omega)
 rw [t]
 clear t HR
 go_wp2_with fail
 go_loopw [12] (fun i wr=>∃ k:Nat,k<=n/\i=.int .i64 k/\Hid (Below w.heap.size w wr/\BoxC wr w.heap.size (.slice x.pa x.pn x.pc) (.slice x.sa x.sn x.sc) (.slice x.wa x.wn x.wc) (.slice x.ha x.hn x.hc)/\∀ j,j<k->x.y.Has (f j))) (fun i _=>n - (intOf i).toNat)
 case atStart=>exact ⟨0,Nat.zero_le _,rfl,B1.out.1,B1.out.2,fun j hj=>by omega⟩
 case round=>
  clear B1
  obtain ⟨k,hk,rfl,HK⟩:=hrel
  by_cases hlt:k<n
  ·have hlt':(k:Int)<(n:Int):=by omega
   obtain ⟨c0,c1⟩:=HSp.out.below hb HK.out.1 k hlt
   have HU:Hid (x.y.Has (f k) ↔ (belB (f k).1 x.hn=true/\belB (f k).2 (x.hL (f k).1.toNat)=true)):=Iff.rfl
   have BA:Hid (Below w.heap.size w (wr.alloc (oQ5 (f k).1 (f k).2))/\BoxC (wr.alloc (oQ5 (f k).1 (f k).2)) w.heap.size (.slice x.pa x.pn x.pc) (.slice x.sa x.sn x.sc) (.slice x.wa x.wn x.wc) (.slice x.ha x.hn x.hc)):=⟨HK.out.1.trans ((zT _ _).mono HK.out.1.size),HK.out.2.1.below (zT _ _)⟩
   have NA:Hid ((wr.alloc (oQ5 (f k).1 (f k).2)).cell? ⟨wr.heap.size,0,none⟩=some (.int .i64 (f k).1)/\(wr.alloc (oQ5 (f k).1 (f k).2)).cell? ⟨wr.heap.size,1,none⟩=some (.int .i64 (f k).2)):=⟨zW wr _ _ 0 rfl,zW wr _ _ 1 rfl⟩
   generalize (f k).1=P at *
   generalize (f k).2=I at *
   go_upto_region 6 with fail
   clear c0 c1
   generalize hNN:wr.heap.size=NN at *
   clear hNN
   generalize wr.alloc (oQ5 P I)=W3 at *
   have z0:=cell_regrown NA.out.1
   have z1:=cell_regrown NA.out.2
   have z3:=cell_regrown BA.out.2.2.2.2
   rcases zK (belB P x.hn) with tp | tp
   case inr=>
    have HT:Hid (belB P x.hn=false):=tp
    have HZ:Hid (R=false):=by
     show R=false
     rw [HV.out,qB_false fun h=>by have:=(HU.out.1 (h k hlt)).1;rw [tp] at this;cases this]
    clear tp
    refine wp_region_quiet_below (by kernel_rfl) (by kernel_rfl) ?_
    iterate 5 (quiet_step (fail))
    quiet_step (first|(go_at_call 95;exact Calls.regrown_same (isBelow_any P x.hn _)))
    rw [HT.out]
    repeat (first | go_big_quiet_skip | quiet_step (fail))
    refine wpQuiet_nil ?_
    intro _ hw'
    obtain ⟨⟨dq,osq⟩,hw''⟩:=hw'
    subst hw''
    have B3:Hid (Below w.heap.size w (grow (redrawn W3 dq) osq)):=BA.out.1.trans ((below_regrown W3 dq osq).mono BA.out.1.size)
    generalize grow (redrawn W3 dq) osq=w3 at *
    clear z0 z1 z3
    go_wp2
    go_ret
    rw [HZ.out]
    exact ⟨rfl,B3.out⟩
   have hP:0<=P/\P<(x.hn:Int):=by simpa [belB] using tp
   obtain ⟨a,rfl⟩:∃ a:Nat,P=a:=⟨P.toNat,by omega⟩
   have ha:a<x.hn:=by omega
   have ha':(a:Int)<(x.hn:Int):=by omega
   have hl:(x.hL a:Int)<=200:=by have:=HH.out a ha;omega
   obtain ⟨bh,oh,eh,ca⟩:=(HG.out.below BA.out.1).h.at ha
   rw [eh] at z3
   clear eh
   have zc:=cell_regrown ca
   have HB1:Hid (∀ wx,Calls Tryz.prog 95 #[.int .i64 a,.int .i64 x.hn] wx fun e w'=>e=.returned (.bool true)/\w'=wx):=fun wx=>by
    have:=isBelow_any a x.hn wx
    rw [tp] at this
    exact this
   have HB2:Hid (∀ wx,Calls Tryz.prog 95 #[.int .i64 I,.int .i64 (x.hL a)] wx fun e w'=>e=.returned (.bool (belB I (x.hL a)))/\w'=wx):=fun wx=>isBelow_any I (x.hL a) wx
   have HU2:Hid (x.y.Has (f k) ↔ belB I (x.hL a)=true):=by
    show x.y.Has (f k) ↔ _
    rw [HU.out,Int.toNat_natCast]
    exact ⟨fun h=>h.2,fun h=>⟨tp,h⟩⟩
   clear HU tp hP
   generalize belB I (x.hL a)=T at *
   refine wp_region_quiet_below (by kernel_rfl) (by kernel_rfl) ?_
   repeat (quiet_step (first|(go_at_call_of 95 (x.hn);exact Calls.regrown_same (HB1.out _))|(go_at_call_of 95 (I);exact Calls.regrown_same (HB2.out _))))
   refine wpQuiet_nil ?_
   intro _ hw'
   obtain ⟨⟨dq,osq⟩,hw''⟩:=hw'
   subst hw''
   have B3:Hid (Below w.heap.size w (grow (redrawn W3 dq) osq)/\BoxC (grow (redrawn W3 dq) osq) w.heap.size (.slice x.pa x.pn x.pc) (.slice x.sa x.sn x.sc) (.slice x.wa x.wn x.wc) (.slice x.ha x.hn x.hc)):=⟨BA.out.1.trans ((below_regrown W3 dq osq).mono BA.out.1.size),BA.out.2.below (below_regrown W3 dq osq)⟩
   generalize grow (redrawn W3 dq) osq=w3 at *
   clear z0 z1 z3 zc NA BA HB1 HB2 ca
   cases T with
   | false=>
    have HZ:Hid (R=false):=by
     show R=false
     rw [HV.out,qB_false fun h=>by have:=HU2.out.1 (h k hlt);cases this]
    go_wp2
    go_ret
    rw [HZ.out]
    exact ⟨rfl,B3.out.1⟩
   | true=>
    have HZ:Hid (∀ j,j<k+1->x.y.Has (f j)):=fun j hj=>by
     by_cases e:j=k
     ·rw [e];exact HU2.out.2 rfl
     ·exact HK.out.2.2 j (by omega)
    clear HU2 HK
    go_wp2
    go_roundw
    case rel=>exact ⟨k+1,by omega,by go_num,B3.out.1,B3.out.2,HZ.out⟩
    case measure=>simp [intOf];omega
  ·have HZ:Hid (R=true):=by
    show R=true
    rw [HV.out,qB_true fun j hj=>HK.out.2.2 j (by omega)]
   have B3:=HK.out.1
   clear HK
   go_wp2
   go_ret
   rw [HZ.out]
   exact ⟨rfl,B3⟩
theorem implSender_any (x:SysIn) (p i:Int) (w:World) (hG:SysG w x) (hL:x.Len) (hcap:∀ i,i<x.hn->x.hL i<=x.hC i) (hV:w.cell? ⟨0,0,none⟩=some (.iface 266 (.agg #[.pointer (some ⟨1,211,none⟩)]))):
  Calls Tryz.prog 25 #[x.v,.int .i64 p,.int .i64 i] w fun e w'=>e=.returned (.int .i64 (sndS x.y p i))/\Below w.heap.size w w':=by
 have HS:Hid (∀ wx b,Below w.heap.size w wx->b<wx.heap.size->SpAt wx b 1 (fun _=>(p,i))->Calls Tryz.prog 47 #[x.v,.slice (some ⟨b,0,none⟩) 1 1] wx fun e w'=>e=.returned (.bool (hasB x.y p i))/\Below wx.heap.size wx w'):=fun wx b hb hbl hs=>by
  have h:=areIn_any x b 1 1 (fun _=>(p,i)) wx (hG.below hb) hL ((hb.cell (p:=⟨0,0,none⟩) (zJ w _ hV)).trans hV) hbl (by omega) hs
  rw [arB_one] at h
  exact h
 have HN:Hid (hasB x.y p i=true->∀ wx,Below w.heap.size w wx->Calls Tryz.prog 69 #[x.v,.agg #[.int .i64 p,.int .i64 i]] wx fun e w'=>(∃ z,(e=.returned (.tuple #[.agg #[.int .i64 z,.int .i64 (sndS x.y p i)],.bool true])\/(e=.returned (.tuple #[.agg #[.int .i64 0,.int .i64 0],.bool false])/\sndS x.y p i = -1)))/\Below wx.heap.size wx w'):=fun h wx hb=>by
  have e:sndS x.y p i=sndN x.y p.toNat i.toNat:=if_pos h
  obtain ⟨ho,a,b,rfl,rfl,ha,hb'⟩:=hasB_parts h
  rw [e,Int.toNat_natCast,Int.toNat_natCast]
  refine (senderIn_any x a b wx (hG.below hb) hcap ho ha hb').mono ?_
  rintro e w' ⟨rfl,q⟩
  refine ⟨⟨(x.y.hH a b).q,?_⟩,q⟩
  unfold snV
  by_cases hk:(x.y.hH a b).k=3
  ·rw [if_pos hk]
   exact .inl rfl
  ·rw [if_neg hk]
   refine .inr ⟨rfl,?_⟩
   unfold sndN
   rw [if_neg hk]
 have HZ:Hid (hasB x.y p i=false->sndS x.y p i = -1):=fun h=>if_neg (by rw [h];decide)
 generalize sndS x.y p i=S at *
 generalize hasB x.y p i=t at *
 have BW:Hid (Below w.heap.size w ((w.alloc (oQ4 x.pa x.pn x.pc x.sa x.sn x.sc x.wa x.wn x.wc x.ha x.hn x.hc)).alloc (oQ5 p i))):=(zT _ _).trans ((zT _ _).mono (by simp))
 have NB:Hid (BoxC ((w.alloc (oQ4 x.pa x.pn x.pc x.sa x.sn x.sc x.wa x.wn x.wc x.ha x.hn x.hc)).alloc (oQ5 p i)) w.heap.size (.slice x.pa x.pn x.pc) (.slice x.sa x.sn x.sc) (.slice x.wa x.wn x.wc) (.slice x.ha x.hn x.hc)):=(BoxC.new w _ _ _ _ _).below (zT _ _)
 have NS:Hid (((w.alloc (oQ4 x.pa x.pn x.pc x.sa x.sn x.sc x.wa x.wn x.wc x.ha x.hn x.hc)).alloc (oQ5 p i)).cell? ⟨w.heap.size+1,0,none⟩=some (.int .i64 p)/\((w.alloc (oQ4 x.pa x.pn x.pc x.sa x.sn x.sc x.wa x.wn x.wc x.ha x.hn x.hc)).alloc (oQ5 p i)).cell? ⟨w.heap.size+1,1,none⟩=some (.int .i64 i)):=⟨zW (w.alloc (oQ4 x.pa x.pn x.pc x.sa x.sn x.sc x.wa x.wn x.wc x.ha x.hn x.hc)) _ _ 0 (by simp),zW (w.alloc (oQ4 x.pa x.pn x.pc x.sa x.sn x.sc x.wa x.wn x.wc x.ha x.hn x.hc)) _ _ 1 (by simp)⟩
 clear hG hL hcap hV
 go_enter Tryz.func25,Tryz.ntmps25
 go_upto_region 2 with fail
 generalize (w.alloc (oQ4 x.pa x.pn x.pc x.sa x.sn x.sc x.wa x.wn x.wc x.ha x.hn x.hc)).alloc (oQ5 p i)=W2 at *
 have BQ : Hid (Below w.heap.size w (W2.alloc (oQ5 p i)) ∧ BoxC (W2.alloc (oQ5 p i)) w.heap.size (.slice x.pa x.pn x.pc) (.slice x.sa x.sn x.sc) (.slice x.wa x.wn x.wc) (.slice x.ha x.hn x.hc) ∧ (W2.alloc (oQ5 p i)).cell? ⟨w.heap.size + 1, 0, none⟩ = some (.int .i64 p) ∧ (W2.alloc (oQ5 p i)).cell? ⟨w.heap.size + 1, 1, none⟩ = some (.int .i64 i) ∧ W2.heap.size < (W2.alloc (oQ5 p i)).heap.size ∧ SpAt (W2.alloc (oQ5 p i)) W2.heap.size 1 (fun _ => (p, i))) := ⟨BW.out.trans ((zT _ _).mono BW.out.size), NB.out.below (zT _ _), cell_allocs NS.out.1 _, cell_allocs NS.out.2 _, by simp, fun k hk => by
  obtain rfl:k=0:=by omega
  exact ⟨zW W2 _ _ 0 rfl,zW W2 _ _ 1 rfl⟩⟩
 obtain ⟨b0,b1,b2,b3⟩:=NB.out
 obtain ⟨d0,d1⟩:=NS.out
 go_wp2_with fail
 clear b0 b1 b2 b3 d0 d1 NB NS BW
 generalize hN2:W2.heap.size=N2 at *
 clear hN2
 generalize W2.alloc (oQ5 p i)=W3 at *
 refine (HS.out W3 N2 BQ.out.1 BQ.out.2.2.2.2.1 BQ.out.2.2.2.2.2).mono ?_
 rintro e w1 ⟨rfl,q1⟩
 have hcl:∀ a v,W3.cell? a=some v->w1.cell? a=some v:=fun a v ha=>(q1.cell (zJ W3 _ ha)).trans ha
 have B1:Hid (Below w.heap.size w w1/\BoxC w1 w.heap.size (.slice x.pa x.pn x.pc) (.slice x.sa x.sn x.sc) (.slice x.wa x.wn x.wc) (.slice x.ha x.hn x.hc)/\w1.cell? ⟨w.heap.size+1,0,none⟩=some (.int .i64 p)/\w1.cell? ⟨w.heap.size+1,1,none⟩=some (.int .i64 i)):=⟨BQ.out.1.trans (q1.mono BQ.out.1.size),BQ.out.2.1.below q1,hcl _ _ BQ.out.2.2.1,hcl _ _ BQ.out.2.2.2.1⟩
 clear q1 HS BQ hcl
 cases t with
 | false=>
  have hv:=HZ.out rfl
  clear HZ HN
  go_wp2
  go_ret
  exact ⟨ret_int hv.symm,B1.out.1⟩
 | true=>
  obtain ⟨b0,b1,b2,b3⟩:=B1.out.2.1
  obtain ⟨d0,d1⟩:=B1.out.2.2
  go_wp2_with fail
  refine (HN.out (by simp) w1 B1.out.1).mono ?_
  rintro e w2 ⟨⟨z,he⟩,q2⟩
  have B2:Hid (Below w.heap.size w w2):=B1.out.1.trans (q2.mono B1.out.1.size)
  clear q2 b0 b1 b2 b3 d0 d1 HN HZ
  rcases he with rfl | ⟨rfl,hv⟩
  ·go_wp2
   go_ret
   exact ⟨rfl,B2.out.trans ((zT _ _).mono B2.out.size)⟩
  ·go_wp2
   go_ret
   exact ⟨ret_int hv.symm,B2.out.trans ((zT _ _).mono B2.out.size)⟩
