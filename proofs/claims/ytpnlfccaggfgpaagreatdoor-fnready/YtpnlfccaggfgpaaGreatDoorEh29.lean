import Derived.Test.YtpnlfccaggfgpaaGreatDoorEh0
import Derived.Test.YtpnlfccaggfgpaaGreatDoorEh21
import Derived.Test.YtpnlfccaggfgpaaGreatDoorEh27
import Derived.Test.YtpnlfccaggfgpaaGreatDoorEh28
import Derived.Test.YtpnlfccaggfgpaaGreatDoorEh26
import Derived.Test.YtpnlfccaggfgpaaGreatDoorEh22
namespace Go.Proofs.YtpnlfccaggfgpaaGreatDoor
set_option maxRecDepth 100000
set_option maxHeartbeats 4000000
open Go.ChangeShapes Go.WideShapes Go.ChangeAt Go.RowKit Go.Deep
theorem OwnSys.formJ {w:World} {B:Nat} {y:Sy} {v:Value} (o:OwnSys true w B y v):∃ pa pc sa sc wa wc ha hc,v=sysV pa y.pn pc sa y.sn sc wa y.wn wc ha y.hn hc:=by
 obtain ⟨c,vp,vs,vw,vh,up,us,uw,uh,rfl,o⟩:=o
 obtain ⟨pa,pc,rfl⟩:=zU o.p.row
 obtain ⟨sa,sc,rfl⟩:=zU o.s.row
 obtain ⟨wa,wc,rfl⟩:=zU o.t.row
 obtain ⟨ha,hc,rfl⟩:=zU o.h.row
 exact ⟨pa,pc,sa,sc,wa,wc,ha,hc,rfl⟩
theorem Sy.Ok.any {y:Sy} (h:y.Ok) {p:Nat} (hp:p<y.pn) (hq:y.nq p=9):y.nk p=3:=by
 by_cases hk:y.nk p=2
 ·have h1:=h.peer hp hk
  have h2:=h.cn.1.2
  omega
 ·unfold Sy.nk nxK at *
  unfold Sy.nq nxP at hq
  by_cases hr:rightB (y.pH p) (y.pL p) (y.sS p).p (y.sS p).rs (y.sS p).os (y.sS p).c=true
  ·rw [if_pos hr] at *
   unfold evP at hq
   unfold evK at *
   by_cases e6:(y.pH p (y.sS p).p.toNat).o=6
   ·rw [if_pos e6] at hk
    exact absurd rfl hk
   ·rw [if_neg e6] at *
    by_cases e7:(y.pH p (y.sS p).p.toNat).o=7
    ·rw [if_pos e7]
    ·rw [if_neg e7] at hq
     cases hq
  ·rw [if_neg hr] at hq
   cases hq
theorem rdL_none {c:Nat->Int}:∀ {n:Nat},(∀ j,j<n->c j≠0)->rdL c n=[]
 | 0,_=>rfl
 | n+1,h=>by rw [rdL_not (h n (by omega)),rdL_none fun j hj=>h j (by omega)]
theorem l5Ready_out (x:SysIn) (p:Int) (w:World) (h1:x.pn<=1048576) (t1:inB p 0 ((x.pn:Int) - 1)=false):
  Calls Tryz.prog 20 #[x.v,.int .i64 p] w fun e w'=>∃ u,e=.returned u/\OwnI w' w.heap.size u []/\Below w.heap.size w w':=by
 have hpn:(x.pn:Int)<=1048576:=by omega
 have OW:Hid (OwnI ((w.alloc (oQ4 x.pa x.pn x.pc x.sa x.sn x.sc x.wa x.wn x.wc x.ha x.hn x.hc)).alloc (.cells #[] 3)) (w.heap.size+1) (.slice (some ⟨w.heap.size+1,0,none⟩) 0 0) []):=own_emptyN (w.alloc (oQ4 x.pa x.pn x.pc x.sa x.sn x.sc x.wa x.wn x.wc x.ha x.hn x.hc)) (by simp)
 have BW:Hid (Below w.heap.size w ((w.alloc (oQ4 x.pa x.pn x.pc x.sa x.sn x.sc x.wa x.wn x.wc x.ha x.hn x.hc)).alloc (.cells #[] 3))):=(zQ _ _).trans ((zQ _ _).mono (by simp))
 go_enter Tryz.func20,Tryz.ntmps20
 go_wp2_with fail
 refine (l1In_any _ _ _ _).mono ?_
 rintro e w1 ⟨rfl,rfl⟩
 rw [t1]
 go_wp2
 go_ret
 exact ⟨_,rfl,OW.out.mono (Nat.le_succ _),BW.out⟩
theorem l5Ready_any (x:SysIn) (p:Nat) (w:World) (hG:SysG w x) (hL:x.Len) (hO:x.y.Ok) (hp:p<x.pn):
  Calls Tryz.prog 20 #[x.v,.int .i64 p] w fun e w'=>∃ u,e=.returned u/\OwnI w' w.heap.size u (rdX x p)/\Below w.heap.size w w':=by
 have HG:Hid (SysG w x):=hG
 have HL:Hid x.Len:=hL
 have HO:Hid x.y.Ok:=hO
 obtain ⟨⟨h1,h4⟩,hs,hh,hw⟩:=hO.cn
 have hps:p<x.sn:=by have:x.sn=x.pn:=hs;omega
 have h4x:x.pn<=4:=h4
 have hp':(p:Int)<(x.pn:Int):=by omega
 have hps':(p:Int)<(x.sn:Int):=by omega
 have h4':(x.pn:Int)<=4:=by omega
 have tA:inB (p:Int) 0 ((x.pn:Int) - 1)=true:=by simp only [inB,decide_eq_true_eq];omega
 have OW:Hid (OwnI ((w.alloc (oQ4 x.pa x.pn x.pc x.sa x.sn x.sc x.wa x.wn x.wc x.ha x.hn x.hc)).alloc (.cells #[] 3)) (w.heap.size+1) (.slice (some ⟨w.heap.size+1,0,none⟩) 0 0) []):=own_emptyN (w.alloc (oQ4 x.pa x.pn x.pc x.sa x.sn x.sc x.wa x.wn x.wc x.ha x.hn x.hc)) (by simp)
 have BW:Hid (Below w.heap.size w ((w.alloc (oQ4 x.pa x.pn x.pc x.sa x.sn x.sc x.wa x.wn x.wc x.ha x.hn x.hc)).alloc (.cells #[] 3))):=(zQ _ _).trans ((zQ _ _).mono (by simp))
 have NB:Hid (BoxC ((w.alloc (oQ4 x.pa x.pn x.pc x.sa x.sn x.sc x.wa x.wn x.wc x.ha x.hn x.hc)).alloc (.cells #[] 3)) w.heap.size (.slice x.pa x.pn x.pc) (.slice x.sa x.sn x.sc) (.slice x.wa x.wn x.wc) (.slice x.ha x.hn x.hc)):=(BoxC.new w _ _ _ _ _).below (zQ _ _)
 have l0:w.heap.size<((w.alloc (oQ4 x.pa x.pn x.pc x.sa x.sn x.sc x.wa x.wn x.wc x.ha x.hn x.hc)).alloc (.cells #[] 3)).heap.size:=by simp;omega
 clear hG hL hO hs hh hw h1 h4
 go_enter Tryz.func20,Tryz.ntmps20
 go_wp2_with fail
 refine (l1In_any _ _ _ _).mono ?_
 rintro e w1 ⟨rfl,rfl⟩
 rw [tA]
 generalize (w.alloc (oQ4 x.pa x.pn x.pc x.sa x.sn x.sc x.wa x.wn x.wc x.ha x.hn x.hc)).alloc (.cells #[] 3)=W2 at *
 obtain ⟨bp,op,ep,cp⟩:=(HG.out.below BW.out).p.at hp
 obtain ⟨b',eb',hbl,hI⟩:=(HG.out.below BW.out).pi p hp
 obtain ⟨bs,os,es,s0,s1,s2,s3⟩:=(HG.out.below BW.out).s.at hps
 have hsl:=(HG.out.below BW.out).s.lst p hps
 obtain ⟨b0,b1,b2,b3⟩:=NB.out
 rw [eb'] at cp
 rw [ep] at b0
 rw [es] at b1
 have lp2:bp<W2.heap.size:=zJ W2 _ cp
 have ls2:bs<W2.heap.size:=zJ W2 _ s0
 have HI:Hid (InsAt W2 b' 0 (x.pL p) (x.pH p)/\b'<W2.heap.size):=⟨hI,hbl⟩
 have SL:Hid (Sl W2 (x.sQ p).ra (x.sQ p).rs/\Sl W2 (x.sQ p).oa (x.sQ p).os):=hsl
 have EP:Hid (x.pa=some ⟨bp,op,none⟩/\x.sa=some ⟨bs,os,none⟩):=⟨ep,es⟩
 clear hI hsl tA eb' hbl ep es
 by_cases hc:(x.sQ p).c=0
 case neg=>
  have HV:Hid (rdX x p=[]):=rdL_none fun j _=>by
   rw [cmC_y,cmS,if_pos (by exact hc)]
   decide
  have t0:((x.sQ p).c == 0)=false:=by simpa using hc
  go_wp2
  go_ret
  rw [HV.out]
  exact ⟨_,rfl,OW.out.mono (Nat.le_succ _),BW.out⟩
 have HR:Hid (rightB (x.pH p) (x.pL p) (x.sQ p).p (x.sQ p).rs (x.sQ p).os 0=true):=HO.out.right hp hc
 rw [hc] at s3
 obtain ⟨hpk,hst,-⟩:=right_parts HR.out
 obtain ⟨⟨q0,q1,q2,q3,ers,-⟩,⟨k,ek,hkl⟩,-⟩:=st_parts hst
 have h4r:(x.sQ p).rs.length=4:=by rw [ers];rfl
 have HX:Hid (x.pL p<=maxLen/\(x.sQ p).rs.length=4/\k<x.pL p/\progOkB (x.pH p) (x.pL p) 4=true):=⟨by have:=(prog_len hpk).2;unfold maxLen;omega,h4r,hkl,hpk⟩
 have HN3:Hid (x.nk p=evK (x.pH p k).o/\x.nq p=evP (x.pH p k).o (x.pH p k).n/\x.nv p=evW (x.pH p k).o (x.pH p k).a (x.sQ p).rs):=by
  have ek':(x.sQ p).p.toNat=k:=by omega
  refine ⟨?_,?_,?_⟩
  ·show nxK _ _ _ _ _ _=_
   rw [hc,nxK,if_pos HR.out,ek']
  ·show nxP _ _ _ _ _ _=_
   rw [hc,nxP,if_pos HR.out,ek']
  ·show nxW _ _ _ _ _ _=_
   rw [hc,nxW,if_pos HR.out,ek']
 rw [ek] at s0
 clear hpk hst ers h4r hkl q0 q1 q2 q3 HR ek hc
 go_wp2_with fail
 go_cut [7] from 31 to 41 (fun s wx=>∃ N:Nat,s=.pointer (some ⟨N,0,none⟩)/\Hid (Below W2.heap.size W2 wx/\W2.heap.size<=N/\EvK wx N (x.nk p) (x.nq p) (x.nv p)))
 case first=>
  refine wp_region_G (fun w'=>w'.cell? ⟨w.heap.size,0,none⟩=some (.slice (some ⟨bp,op,none⟩) x.pn x.pc)/\w'.cell? ⟨w.heap.size,1,none⟩=some (.slice (some ⟨bs,os,none⟩) x.sn x.sc)/\w'.cell? ⟨bp,op+p,none⟩=some (.slice (some ⟨b',0,none⟩) (x.pL p) (x.pC p))/\w'.cell? ⟨bs,os+p*4,none⟩=some (.int .i64 (k:Int))/\w'.cell? ⟨bs,os+p*4+1,none⟩=some (.slice (x.sQ p).ra (x.sQ p).rs.length (x.sQ p).rc)/\w'.cell? ⟨bs,os+p*4+2,none⟩=some (.slice (x.sQ p).oa (x.sQ p).os.length (x.sQ p).oc)/\w'.cell? ⟨bs,os+p*4+3,none⟩=some (.int .i64 0)) (fun i=>i == 12) (by kernel_rfl) ?_
  have hHeld:=And.intro b0 (And.intro b1 (And.intro cp (And.intro s0 (And.intro s1 (And.intro s2 s3)))))
  refine wpGT_of [0,1,2,3,4,5,6,7,8,9] ?_
  iterate 10 (refine wpGT_k rfl hHeld ?_)
  refine wpGT_nil ?_
  refine wpG_two 10 11 rfl rfl (by kernel_rfl) (fun K hK=>?_) (fun K hK=>?_)
  ·refine stepR_call rfl 44 _ _ rfl #[.slice (some ⟨b',0,none⟩) (x.pL p) (x.pC p),stV k (x.sQ p).ra (x.sQ p).rs.length (x.sQ p).rc (x.sQ p).oa (x.sQ p).os.length (x.sQ p).oc 0] (by simp [Act.eval]) (yA Tryz.func44 (by kernel_rfl) rfl) (l2Next_any b' 0 (x.pL p) (x.pC p) k (x.pH p) 0 (x.sQ p).ra (x.sQ p).oa (x.sQ p).rc (x.sQ p).os.length (x.sQ p).oc (x.sQ p).rs (W2.drew) HX.out.1 (zL HI.out.2 ((Below.refl W2.heap.size W2).drew).size) (HI.out.1.below ((Below.refl W2.heap.size W2).drew) HI.out.2) (SL.out.1.below ((Below.refl W2.heap.size W2).drew)) HX.out.2.1 HX.out.2.2.1 HX.out.2.2.2) ?_
   rintro e w5 ⟨he,d5⟩
   rw [<- HN3.out.1,<- HN3.out.2.1,<- HN3.out.2.2] at he
   refine ⟨_,he,?_⟩
   have q5:Below W2.heap.size W2 w5:=below_up ((Below.refl W2.heap.size W2).drew) d5 (by simp)
   have hc5:=(bcell q5).1
   have hHeld5:=And.intro ((hc5 _ _ l0).trans b0) (And.intro ((hc5 _ _ l0).trans b1) (And.intro ((hc5 _ _ lp2).trans cp) (And.intro ((hc5 _ _ ls2).trans s0) (And.intro ((hc5 _ _ ls2).trans s1) (And.intro ((hc5 _ _ ls2).trans s2) ((hc5 _ _ ls2).trans s3))))))
   refine hK.out _ _ (fun _=>hHeld5) ?_
   clear hK K
   (try simp only [Act.put,zD,zE,zF])
   refine wpG_one 11 rfl (by kernel_rfl) (fun K hK=>?_)
   go_simp
   have ba:=zQ w5 (zQ4)
   have z5:=q5.size
   have hca:=(bcell ba).1
   obtain ⟨e0,e1,e2,e3,e4,e5,e6⟩:=hHeld5
   refine hK.out _ _ (fun _=>⟨(hca _ _ (by omega)).trans e0,(hca _ _ (by omega)).trans e1,(hca _ _ (by omega)).trans e2,(hca _ _ (by omega)).trans e3,(hca _ _ (by omega)).trans e4,(hca _ _ (by omega)).trans e5,(hca _ _ (by omega)).trans e6⟩) ?_
   clear hca
   clear hK K
   (try simp only [Act.put,zD,zE,zF])
   refine wpG_one 12 rfl (by kernel_rfl) (fun K hK=>?_)
   go_simp
   refine hK.out _ _ (fun h=>?_) ?_
   ·exact absurd h (by decide)
   clear hK K
   (try simp only [Act.put])
   refine wpG_done (by kernel_rfl) ?_ _
   go_wp2_with fail
   go_meet
   case rel=>
    exact ⟨w5.heap.size,by with_reducible rfl,q5.trans ((zQ _ _).mono q5.size),q5.size,EvK.new _ _ _ _ _⟩
  ·go_simp
   have ba:Below W2.heap.size W2 (W2.drew.alloc (zQ4)):=(Below.refl W2.heap.size W2).drew.trans (zQ W2.drew (zQ4))
   have hca:=(bcell ba).1
   refine hK.out _ _ (fun _=>⟨(hca _ _ l0).trans b0,(hca _ _ l0).trans b1,(hca _ _ lp2).trans cp,(hca _ _ ls2).trans s0,(hca _ _ ls2).trans s1,(hca _ _ ls2).trans s2,(hca _ _ ls2).trans s3⟩) ?_
   clear hK K hca
   (try simp only [Act.put,zD,zE,zF])
   refine wpG_one 10 rfl (by kernel_rfl) (fun K hK=>?_)
   refine stepR_call rfl 44 _ _ rfl #[.slice (some ⟨b',0,none⟩) (x.pL p) (x.pC p),stV k (x.sQ p).ra (x.sQ p).rs.length (x.sQ p).rc (x.sQ p).oa (x.sQ p).os.length (x.sQ p).oc 0] (by simp [Act.eval]) (yA Tryz.func44 (by kernel_rfl) rfl) (l2Next_any b' 0 (x.pL p) (x.pC p) k (x.pH p) 0 (x.sQ p).ra (x.sQ p).oa (x.sQ p).rc (x.sQ p).os.length (x.sQ p).oc (x.sQ p).rs (W2.drew.alloc (zQ4)) HX.out.1 (zL HI.out.2 (ba).size) (HI.out.1.below (ba) HI.out.2) (SL.out.1.below (ba)) HX.out.2.1 HX.out.2.2.1 HX.out.2.2.2) ?_
   rintro e w5 ⟨he,d5⟩
   rw [<- HN3.out.1,<- HN3.out.2.1,<- HN3.out.2.2] at he
   refine ⟨_,he,?_⟩
   have q5:Below W2.heap.size W2 w5:=below_up (ba) d5 (by simp)
   have hc5:=(bcell q5).1
   have hHeld5:=And.intro ((hc5 _ _ l0).trans b0) (And.intro ((hc5 _ _ l0).trans b1) (And.intro ((hc5 _ _ lp2).trans cp) (And.intro ((hc5 _ _ ls2).trans s0) (And.intro ((hc5 _ _ ls2).trans s1) (And.intro ((hc5 _ _ ls2).trans s2) ((hc5 _ _ ls2).trans s3))))))
   refine hK.out _ _ (fun _=>hHeld5) ?_
   clear hK K
   (try simp only [Act.put,zD,zE,zF])
   have g:EvK w5 W2.heap.size 0 0 0:=(EvK.new W2.drew 0 0 0 47).below d5
   obtain ⟨g0,g1,g2,gf⟩:=id g
   refine wpG_one 12 rfl (by kernel_rfl) (fun K hK=>?_)
   go_simp
   refine hK.out _ _ (fun h=>?_) ?_
   ·exact absurd h (by decide)
   clear hK K
   (try simp only [Act.put])
   refine wpG_done (by kernel_rfl) ?_ _
   go_wp2_with fail
   go_meet
   case rel=>
    exact ⟨W2.heap.size,by with_reducible rfl,((q5.setCell (Nat.le_refl _) _).setCell (Nat.le_refl _) _).setCell (Nat.le_refl _) _,Nat.le_refl _,EvK.put g _ _ _⟩
 case rest=>
  obtain ⟨N,rfl,HRr⟩:=hcut
  have hbe:=HRr.out.1
  have EV:EvK wc N (x.nk p) (x.nq p) (x.nv p):=HRr.out.2.2
  have BC:Hid (Below w.heap.size w wc):=BW.out.trans (hbe.mono BW.out.size)
  have NC:Hid (BoxC wc w.heap.size (.slice x.pa x.pn x.pc) (.slice x.sa x.sn x.sc) (.slice x.wa x.wn x.wc) (.slice x.ha x.hn x.hc)):=NB.out.below hbe
  have OC:Hid (OwnI wc (w.heap.size+1) (.slice (some ⟨w.heap.size+1,0,none⟩) 0 0) []):=OW.out.below hbe
  obtain ⟨k0,k1,k2,kf⟩:=EV
  have HA:Hid (x.nq p=9->x.nk p=3):=fun h=>HO.out.any hp h
  have HD:Hid (rdX x p=rdL (fun j=>cmS x.y p j) (if x.nq p=9 then x.pn else 1)):=rfl
  generalize x.nk p=K at k0 HA
  generalize x.nq p=Q at k1 HA HD
  clear hbe HRr cp s0 s1 s2 s3 b0 b1 b2 b3 SL HI NB BW OW HX HN3 l0 lp2 ls2 EP
  rcases zK (Q == 9) with t9 | t9
  ·have hQ:Q=9:=by simpa using t9
   have t3:(K == 3)=true:=by
    have:=HA.out hQ
    simpa using this
   have HE:Hid (rdX x p=rdL (fun j=>cmS x.y p j) x.pn):=by
    show rdX x p=_
    rw [HD.out,if_pos hQ]
   clear HA HD hQ
   go_wp2_with fail
   go_loopw [5,9] (fun o i wr=>∃ j:Nat,j<=x.pn/\i=.int .i64 j/\Hid (OwnI wr (w.heap.size+1) o (rdL (fun j=>cmS x.y p j) j)/\Below w.heap.size w wr/\BoxC wr w.heap.size (.slice x.pa x.pn x.pc) (.slice x.sa x.sn x.sc) (.slice x.wa x.wn x.wc) (.slice x.ha x.hn x.hc))) (fun _ i _=>x.pn - (intOf i).toNat)
   case atStart=>exact ⟨0,Nat.zero_le _,rfl,OC.out,BC.out,NC.out⟩
   case round=>
    obtain ⟨j,hj,rfl,HZ⟩:=hrel
    clear k0 k1 k2 kf OC BC NC
    have hj4:(j:Int)<=4:=by omega
    by_cases hlt:j<x.pn
    ·have hlt':(j:Int)<(x.pn:Int):=by omega
     obtain ⟨b0,b1,b2,b3⟩:=HZ.out.2.2
     go_wp2_with fail
     refine (l4Copy_any x wr (HG.out.below HZ.out.2.1) HL.out).mono ?_
     rintro e w1 ⟨v1,rfl,o1,q1⟩
     obtain ⟨pa1,pc1,sa1,sc1,wa1,wc1,ha1,hc1,rfl⟩:=o1.formJ
     have O1:Hid (OwnSys true w1 wr.heap.size x.y (sysV pa1 x.y.pn pc1 sa1 x.y.sn sc1 wa1 x.y.wn wc1 ha1 x.y.hn hc1)):=o1
     have Q1:Hid (Below wr.heap.size wr w1):=q1
     clear o1 q1 b0 b1 b2 b3
     go_wp2_with fail
     refine (l5Step_code x.y p j w1 wr.heap.size _ O1.out hp HO.out).mono ?_
     rintro e w2 ⟨rfl,q2⟩
     have B2:Below wr.heap.size wr w2:=Q1.out.trans q2
     have ba:=zQ w2 (oQ4 pa1 x.y.pn pc1 sa1 x.y.sn sc1 wa1 x.y.wn wc1 ha1 x.y.hn hc1)
     have B3:Below wr.heap.size wr (w2.alloc (oQ4 pa1 x.y.pn pc1 sa1 x.y.sn sc1 wa1 x.y.wn wc1 ha1 x.y.hn hc1)):=B2.trans (ba.mono B2.size)
     have F3:Hid (OwnI (w2.alloc (oQ4 pa1 x.y.pn pc1 sa1 x.y.sn sc1 wa1 x.y.wn wc1 ha1 x.y.hn hc1)) (w.heap.size+1) u5 (rdL (fun j=>cmS x.y p j) j)/\Below w.heap.size w (w2.alloc (oQ4 pa1 x.y.pn pc1 sa1 x.y.sn sc1 wa1 x.y.wn wc1 ha1 x.y.hn hc1))/\BoxC (w2.alloc (oQ4 pa1 x.y.pn pc1 sa1 x.y.sn sc1 wa1 x.y.wn wc1 ha1 x.y.hn hc1)) w.heap.size (.slice x.pa x.pn x.pc) (.slice x.sa x.sn x.sc) (.slice x.wa x.wn x.wc) (.slice x.ha x.hn x.hc)):=⟨HZ.out.1.below B3,HZ.out.2.1.trans (B3.mono HZ.out.2.1.size),HZ.out.2.2.below B3⟩
     have HLn:Hid ((rdL (fun j=>cmS x.y p j) j).length<=1048576):=zP (rdL_le _ j) (by omega)
     clear q2 O1 Q1 B2 B3 ba HZ
     by_cases hcd:cmS x.y p j=0
     ·have E0:Hid (rdL (fun j=>cmS x.y p j) (j+1)=rdL (fun j=>cmS x.y p j) j ++ [(j:Int)]):=rdL_hit hcd
      rw [hcd]
      clear hcd
      go_wp2_with (at_builtin;refine append_oneN (w2.alloc (oQ4 pa1 x.y.pn pc1 sa1 x.y.sn sc1 wa1 x.y.wn wc1 ha1 x.y.hn hc1)) (by simp) rfl _ _ rfl (w.heap.size+1) u5 (rdL (fun j=>cmS x.y p j) j) rfl F3.out.1 j rfl HLn.out F3.out.2.2.ltM ?_;intro v5 w5 o5 b5;have F5:Hid (OwnI w5 (w.heap.size+1) v5 (rdL (fun j=>cmS x.y p j) j ++ [(j:Int)])/\Below w.heap.size w w5/\BoxC w5 w.heap.size (.slice x.pa x.pn x.pc) (.slice x.sa x.sn x.sc) (.slice x.wa x.wn x.wc) (.slice x.ha x.hn x.hc)):=⟨o5,F3.out.2.1.trans (b5.mono (Nat.le_succ _)),box_low b5 F3.out.2.2⟩;clear o5 b5)
      go_roundw
      case rel=>exact ⟨j+1,by omega,by go_num,by rw [E0.out];exact F5.out.1,F5.out.2.1,F5.out.2.2⟩
      case measure=>simp [intOf];omega
     ·have E0:Hid (rdL (fun j=>cmS x.y p j) (j+1)=rdL (fun j=>cmS x.y p j) j):=rdL_not hcd
      have t0:(cmS x.y p j == 0)=false:=by simpa using hcd
      generalize cmS x.y p (j:Int)=cd at t0
      go_wp2
      go_roundw
      case rel=>exact ⟨j+1,by omega,by go_num,by rw [E0.out];exact F3.out.1,F3.out.2.1,F3.out.2.2⟩
      case measure=>simp [intOf];omega
    ·have hjm:j=x.pn:=by omega
     subst hjm
     go_wp2
     go_ret
     exact ⟨_,rfl,by rw [HE.out];exact HZ.out.1.mono (Nat.le_succ _),HZ.out.2.1⟩
  ·have hQ:¬ Q=9:=by simpa using t9
   have HE:Hid (rdX x p=rdL (fun j=>cmS x.y p j) 1):=by
    show rdX x p=_
    rw [HD.out,if_neg hQ]
   clear HA HD hQ
   rcases zK (K == 3) with t3 | t3
   ·go_wp2_with fail
    go_loopw [5,9] (fun o i wr=>∃ j:Nat,j<=(1:Nat)/\i=.int .i64 j/\Hid (OwnI wr (w.heap.size+1) o (rdL (fun j=>cmS x.y p j) j)/\Below w.heap.size w wr/\BoxC wr w.heap.size (.slice x.pa x.pn x.pc) (.slice x.sa x.sn x.sc) (.slice x.wa x.wn x.wc) (.slice x.ha x.hn x.hc))) (fun _ i _=>(1:Nat) - (intOf i).toNat)
    case atStart=>exact ⟨0,Nat.zero_le _,rfl,OC.out,BC.out,NC.out⟩
    case round=>
     obtain ⟨j,hj,rfl,HZ⟩:=hrel
     clear k0 k1 k2 kf OC BC NC
     have hj4:(j:Int)<=4:=by omega
     by_cases hlt:j<(1:Nat)
     ·have hlt':(j:Int)<((1:Nat):Int):=by omega
      obtain ⟨b0,b1,b2,b3⟩:=HZ.out.2.2
      go_wp2_with fail
      refine (l4Copy_any x wr (HG.out.below HZ.out.2.1) HL.out).mono ?_
      rintro e w1 ⟨v1,rfl,o1,q1⟩
      obtain ⟨pa1,pc1,sa1,sc1,wa1,wc1,ha1,hc1,rfl⟩:=o1.formJ
      have O1:Hid (OwnSys true w1 wr.heap.size x.y (sysV pa1 x.y.pn pc1 sa1 x.y.sn sc1 wa1 x.y.wn wc1 ha1 x.y.hn hc1)):=o1
      have Q1:Hid (Below wr.heap.size wr w1):=q1
      clear o1 q1 b0 b1 b2 b3
      go_wp2_with fail
      refine (l5Step_code x.y p j w1 wr.heap.size _ O1.out hp HO.out).mono ?_
      rintro e w2 ⟨rfl,q2⟩
      have B2:Below wr.heap.size wr w2:=Q1.out.trans q2
      have ba:=zQ w2 (oQ4 pa1 x.y.pn pc1 sa1 x.y.sn sc1 wa1 x.y.wn wc1 ha1 x.y.hn hc1)
      have B3:Below wr.heap.size wr (w2.alloc (oQ4 pa1 x.y.pn pc1 sa1 x.y.sn sc1 wa1 x.y.wn wc1 ha1 x.y.hn hc1)):=B2.trans (ba.mono B2.size)
      have F3:Hid (OwnI (w2.alloc (oQ4 pa1 x.y.pn pc1 sa1 x.y.sn sc1 wa1 x.y.wn wc1 ha1 x.y.hn hc1)) (w.heap.size+1) u5 (rdL (fun j=>cmS x.y p j) j)/\Below w.heap.size w (w2.alloc (oQ4 pa1 x.y.pn pc1 sa1 x.y.sn sc1 wa1 x.y.wn wc1 ha1 x.y.hn hc1))/\BoxC (w2.alloc (oQ4 pa1 x.y.pn pc1 sa1 x.y.sn sc1 wa1 x.y.wn wc1 ha1 x.y.hn hc1)) w.heap.size (.slice x.pa x.pn x.pc) (.slice x.sa x.sn x.sc) (.slice x.wa x.wn x.wc) (.slice x.ha x.hn x.hc)):=⟨HZ.out.1.below B3,HZ.out.2.1.trans (B3.mono HZ.out.2.1.size),HZ.out.2.2.below B3⟩
      have HLn:Hid ((rdL (fun j=>cmS x.y p j) j).length<=1048576):=zP (rdL_le _ j) (by omega)
      clear q2 O1 Q1 B2 B3 ba HZ
      by_cases hcd:cmS x.y p j=0
      ·have E0:Hid (rdL (fun j=>cmS x.y p j) (j+1)=rdL (fun j=>cmS x.y p j) j ++ [(j:Int)]):=rdL_hit hcd
       rw [hcd]
       clear hcd
       go_wp2_with (at_builtin;refine append_oneN (w2.alloc (oQ4 pa1 x.y.pn pc1 sa1 x.y.sn sc1 wa1 x.y.wn wc1 ha1 x.y.hn hc1)) (by simp) rfl _ _ rfl (w.heap.size+1) u5 (rdL (fun j=>cmS x.y p j) j) rfl F3.out.1 j rfl HLn.out F3.out.2.2.ltM ?_;intro v5 w5 o5 b5;have F5:Hid (OwnI w5 (w.heap.size+1) v5 (rdL (fun j=>cmS x.y p j) j ++ [(j:Int)])/\Below w.heap.size w w5/\BoxC w5 w.heap.size (.slice x.pa x.pn x.pc) (.slice x.sa x.sn x.sc) (.slice x.wa x.wn x.wc) (.slice x.ha x.hn x.hc)):=⟨o5,F3.out.2.1.trans (b5.mono (Nat.le_succ _)),box_low b5 F3.out.2.2⟩;clear o5 b5)
       go_roundw
       case rel=>exact ⟨j+1,by omega,by go_num,by rw [E0.out];exact F5.out.1,F5.out.2.1,F5.out.2.2⟩
       case measure=>simp [intOf];omega
      ·have E0:Hid (rdL (fun j=>cmS x.y p j) (j+1)=rdL (fun j=>cmS x.y p j) j):=rdL_not hcd
       have t0:(cmS x.y p j == 0)=false:=by simpa using hcd
       generalize cmS x.y p (j:Int)=cd at t0
       go_wp2
       go_roundw
       case rel=>exact ⟨j+1,by omega,by go_num,by rw [E0.out];exact F3.out.1,F3.out.2.1,F3.out.2.2⟩
       case measure=>simp [intOf];omega
     ·have hjm:j=(1:Nat):=by omega
      subst hjm
      go_wp2
      go_ret
      exact ⟨_,rfl,by rw [HE.out];exact HZ.out.1.mono (Nat.le_succ _),HZ.out.2.1⟩
   ·go_wp2_with fail
    go_loopw [5,9] (fun o i wr=>∃ j:Nat,j<=(1:Nat)/\i=.int .i64 j/\Hid (OwnI wr (w.heap.size+1) o (rdL (fun j=>cmS x.y p j) j)/\Below w.heap.size w wr/\BoxC wr w.heap.size (.slice x.pa x.pn x.pc) (.slice x.sa x.sn x.sc) (.slice x.wa x.wn x.wc) (.slice x.ha x.hn x.hc))) (fun _ i _=>(1:Nat) - (intOf i).toNat)
    case atStart=>exact ⟨0,Nat.zero_le _,rfl,OC.out,BC.out,NC.out⟩
    case round=>
     obtain ⟨j,hj,rfl,HZ⟩:=hrel
     clear k0 k1 k2 kf OC BC NC
     have hj4:(j:Int)<=4:=by omega
     by_cases hlt:j<(1:Nat)
     ·have hlt':(j:Int)<((1:Nat):Int):=by omega
      obtain ⟨b0,b1,b2,b3⟩:=HZ.out.2.2
      go_wp2_with fail
      refine (l4Copy_any x wr (HG.out.below HZ.out.2.1) HL.out).mono ?_
      rintro e w1 ⟨v1,rfl,o1,q1⟩
      obtain ⟨pa1,pc1,sa1,sc1,wa1,wc1,ha1,hc1,rfl⟩:=o1.formJ
      have O1:Hid (OwnSys true w1 wr.heap.size x.y (sysV pa1 x.y.pn pc1 sa1 x.y.sn sc1 wa1 x.y.wn wc1 ha1 x.y.hn hc1)):=o1
      have Q1:Hid (Below wr.heap.size wr w1):=q1
      clear o1 q1 b0 b1 b2 b3
      go_wp2_with fail
      refine (l5Step_code x.y p j w1 wr.heap.size _ O1.out hp HO.out).mono ?_
      rintro e w2 ⟨rfl,q2⟩
      have B2:Below wr.heap.size wr w2:=Q1.out.trans q2
      have ba:=zQ w2 (oQ4 pa1 x.y.pn pc1 sa1 x.y.sn sc1 wa1 x.y.wn wc1 ha1 x.y.hn hc1)
      have B3:Below wr.heap.size wr (w2.alloc (oQ4 pa1 x.y.pn pc1 sa1 x.y.sn sc1 wa1 x.y.wn wc1 ha1 x.y.hn hc1)):=B2.trans (ba.mono B2.size)
      have F3:Hid (OwnI (w2.alloc (oQ4 pa1 x.y.pn pc1 sa1 x.y.sn sc1 wa1 x.y.wn wc1 ha1 x.y.hn hc1)) (w.heap.size+1) u5 (rdL (fun j=>cmS x.y p j) j)/\Below w.heap.size w (w2.alloc (oQ4 pa1 x.y.pn pc1 sa1 x.y.sn sc1 wa1 x.y.wn wc1 ha1 x.y.hn hc1))/\BoxC (w2.alloc (oQ4 pa1 x.y.pn pc1 sa1 x.y.sn sc1 wa1 x.y.wn wc1 ha1 x.y.hn hc1)) w.heap.size (.slice x.pa x.pn x.pc) (.slice x.sa x.sn x.sc) (.slice x.wa x.wn x.wc) (.slice x.ha x.hn x.hc)):=⟨HZ.out.1.below B3,HZ.out.2.1.trans (B3.mono HZ.out.2.1.size),HZ.out.2.2.below B3⟩
      have HLn:Hid ((rdL (fun j=>cmS x.y p j) j).length<=1048576):=zP (rdL_le _ j) (by omega)
      clear q2 O1 Q1 B2 B3 ba HZ
      by_cases hcd:cmS x.y p j=0
      ·have E0:Hid (rdL (fun j=>cmS x.y p j) (j+1)=rdL (fun j=>cmS x.y p j) j ++ [(j:Int)]):=rdL_hit hcd
       rw [hcd]
       clear hcd
       go_wp2_with (at_builtin;refine append_oneN (w2.alloc (oQ4 pa1 x.y.pn pc1 sa1 x.y.sn sc1 wa1 x.y.wn wc1 ha1 x.y.hn hc1)) (by simp) rfl _ _ rfl (w.heap.size+1) u5 (rdL (fun j=>cmS x.y p j) j) rfl F3.out.1 j rfl HLn.out F3.out.2.2.ltM ?_;intro v5 w5 o5 b5;have F5:Hid (OwnI w5 (w.heap.size+1) v5 (rdL (fun j=>cmS x.y p j) j ++ [(j:Int)])/\Below w.heap.size w w5/\BoxC w5 w.heap.size (.slice x.pa x.pn x.pc) (.slice x.sa x.sn x.sc) (.slice x.wa x.wn x.wc) (.slice x.ha x.hn x.hc)):=⟨o5,F3.out.2.1.trans (b5.mono (Nat.le_succ _)),box_low b5 F3.out.2.2⟩;clear o5 b5)
       go_roundw
       case rel=>exact ⟨j+1,by omega,by go_num,by rw [E0.out];exact F5.out.1,F5.out.2.1,F5.out.2.2⟩
       case measure=>simp [intOf];omega
      ·have E0:Hid (rdL (fun j=>cmS x.y p j) (j+1)=rdL (fun j=>cmS x.y p j) j):=rdL_not hcd
       have t0:(cmS x.y p j == 0)=false:=by simpa using hcd
       generalize cmS x.y p (j:Int)=cd at t0
       go_wp2
       go_roundw
       case rel=>exact ⟨j+1,by omega,by go_num,by rw [E0.out];exact F3.out.1,F3.out.2.1,F3.out.2.2⟩
       case measure=>simp [intOf];omega
     ·have hjm:j=(1:Nat):=by omega
      subst hjm
      go_wp2
      go_ret
      exact ⟨_,rfl,by rw [HE.out];exact HZ.out.1.mono (Nat.le_succ _),HZ.out.2.1⟩
theorem specHalted_any (x:SysIn) (w:World) (hG:SysG w x) (hL:x.Len) (hcap:∀ i,i<x.hn->x.hL i<=x.hC i):
  Calls Tryz.prog 11 #[x.v] w fun e w'=>e=.returned (.bool (hltB x))/\Below w.heap.size w w':=by
 have HG:Hid (SysG w x):=hG
 have HL:Hid x.Len:=hL
 have HS:Hid (∀ wx,Below w.heap.size w wx->Calls Tryz.prog 19 #[x.v] wx fun e w'=>e=.returned (.bool x.y.okB)/\Below wx.heap.size wx w'):=fun wx hb=>specSysOk_any x wx (HG.out.below hb) hL hcap
 have BW:Hid (Below w.heap.size w (w.alloc (oQ4 x.pa x.pn x.pc x.sa x.sn x.sc x.wa x.wn x.wc x.ha x.hn x.hc))):=zQ _ _
 have NB:Hid (BoxC (w.alloc (oQ4 x.pa x.pn x.pc x.sa x.sn x.sc x.wa x.wn x.wc x.ha x.hn x.hc)) w.heap.size (.slice x.pa x.pn x.pc) (.slice x.sa x.sn x.sc) (.slice x.wa x.wn x.wc) (.slice x.ha x.hn x.hc)):=BoxC.new w _ _ _ _ _
 have hpn:(x.pn:Int)<=1048576:=by have:=hL.p.1;omega
 clear hG hL hcap
 go_enter Tryz.func11,Tryz.ntmps11
 go_wp2_with fail
 generalize w.alloc (oQ4 x.pa x.pn x.pc x.sa x.sn x.sc x.wa x.wn x.wc x.ha x.hn x.hc)=W2 at *
 refine (HS.out W2 BW.out).mono ?_
 rintro e w1 ⟨rfl,q1⟩
 have B1:Hid (Below w.heap.size w w1/\BoxC w1 w.heap.size (.slice x.pa x.pn x.pc) (.slice x.sa x.sn x.sc) (.slice x.wa x.wn x.wc) (.slice x.ha x.hn x.hc)):=⟨BW.out.trans (q1.mono BW.out.size),NB.out.below q1⟩
 clear q1 BW NB HS
 rcases zK x.y.okB with t | t
 case inr=>
  have HV:Hid (hltB x=false):=by
   show hltB x=false
   rw [hltB,t]
   rfl
  rw [t]
  clear t
  go_wp2
  go_ret
  rw [HV.out]
  exact ⟨rfl,B1.out.1⟩
 have HO:Hid x.y.Ok:=Sy.ok_of t
 have HD:Hid (hltB x=(List.range x.pn).all fun p=>(rdX x p).isEmpty):=by
  show hltB x=_
  rw [hltB,t]
  rfl
 rw [t]
 clear t
 go_wp2_with fail
 go_loopw [3] (fun i wr=>∃ k:Nat,k<=x.pn/\i=.int .i64 k/\Hid ((∀ j,j<k->(rdX x j).isEmpty=true)/\Below w.heap.size w wr/\BoxC wr w.heap.size (.slice x.pa x.pn x.pc) (.slice x.sa x.sn x.sc) (.slice x.wa x.wn x.wc) (.slice x.ha x.hn x.hc))) (fun i _=>x.pn - (intOf i).toNat)
 case atStart=>exact ⟨0,Nat.zero_le _,rfl,fun j hj=>by omega,B1.out.1,B1.out.2⟩
 case round=>
  obtain ⟨k,hk,rfl,HZ⟩:=hrel
  clear B1
  obtain ⟨b0,b1,b2,b3⟩:=HZ.out.2.2
  by_cases hlt:k<x.pn
  ·have hlt':(k:Int)<(x.pn:Int):=by omega
   go_wp2_with fail
   refine (l5Ready_any x k wr (HG.out.below HZ.out.2.1) HL.out HO.out hlt).mono ?_
   rintro e w2 ⟨u2,rfl,o2,q2⟩
   obtain ⟨a2,c2,rfl,-⟩:=o2.form
   have F2:Hid (Below w.heap.size w w2/\BoxC w2 w.heap.size (.slice x.pa x.pn x.pc) (.slice x.sa x.sn x.sc) (.slice x.wa x.wn x.wc) (.slice x.ha x.hn x.hc)):=⟨HZ.out.2.1.trans (q2.mono HZ.out.2.1.size),HZ.out.2.2.below q2⟩
   clear o2 q2 b0 b1 b2 b3
   by_cases hr:(rdX x k).length=0
   ·have HZ':Hid (∀ j,j<k+1->(rdX x j).isEmpty=true):=fun j hj=>by
     by_cases e:j=k
     ·subst e
      simpa using hr
     ·exact HZ.out.1 j (by omega)
    rw [hr]
    clear HZ hr
    go_wp2
    go_roundw
    case rel=>exact ⟨k+1,by omega,by go_num,HZ'.out,F2.out.1,F2.out.2⟩
    case measure=>simp [intOf];omega
   ·have HV:Hid (hltB x=false):=by
     show hltB x=false
     rw [HD.out]
     simp only [List.all_eq_false,List.mem_range]
     exact ⟨k,hlt,by simpa using hr⟩
    have hpos:(0:Int)<((rdX x k).length:Int):=by omega
    clear HZ
    go_wp2
    go_ret
    rw [HV.out]
    exact ⟨rfl,F2.out.1⟩
  ·have HV:Hid (hltB x=true):=by
    show hltB x=true
    rw [HD.out]
    simp only [List.all_eq_true,List.mem_range]
    exact fun j hj=>HZ.out.1 j (by omega)
   have FZ:Hid (Below w.heap.size w wr):=HZ.out.2.1
   clear HZ
   go_wp2
   go_ret
   rw [HV.out]
   exact ⟨rfl,FZ.out⟩
def chS (y:Sy) (p:Nat):Nat:=if y.nq p=9 then y.pn else 1
def rdS (y:Sy) (p:Nat):List Int:=rdL (fun j=>cmS y p j) (chS y p)
noncomputable def hltS (y:Sy):Bool:=y.okB && (List.range y.pn).all fun p=>(rdS y p).isEmpty
theorem rdX_y (x:SysIn) (p:Nat):rdX x p=rdS x.y p:=rfl
open Classical in
noncomputable def rdQ (y:Sy) (p:Int):List Int:=if y.okB=true/\belB p y.pn=true then rdS y p.toNat else []
theorem specReady_any (x:SysIn) (p:Int) (w:World) (hG:SysG w x) (hL:x.Len) (hcap:∀ i,i<x.hn->x.hL i<=x.hC i):
  Calls Tryz.prog 8 #[x.v,.int .i64 p] w fun e w'=>∃ u,e=.returned u/\OwnI w' w.heap.size u (rdQ x.y p)/\Below w.heap.size w w':=by
 have HG:Hid (SysG w x):=hG
 have HL:Hid x.Len:=hL
 have HS:Hid (∀ wx,Below w.heap.size w wx->Calls Tryz.prog 19 #[x.v] wx fun e w'=>e=.returned (.bool x.y.okB)/\Below wx.heap.size wx w'):=fun wx hb=>specSysOk_any x wx (HG.out.below hb) hL hcap
 have BW:Hid (Below w.heap.size w (w.alloc (oQ4 x.pa x.pn x.pc x.sa x.sn x.sc x.wa x.wn x.wc x.ha x.hn x.hc))):=zQ _ _
 have NB:Hid (BoxC (w.alloc (oQ4 x.pa x.pn x.pc x.sa x.sn x.sc x.wa x.wn x.wc x.ha x.hn x.hc)) w.heap.size (.slice x.pa x.pn x.pc) (.slice x.sa x.sn x.sc) (.slice x.wa x.wn x.wc) (.slice x.ha x.hn x.hc)):=BoxC.new w _ _ _ _ _
 clear hG hL hcap
 go_enter Tryz.func8,Tryz.ntmps8
 go_wp2_with fail
 generalize w.alloc (oQ4 x.pa x.pn x.pc x.sa x.sn x.sc x.wa x.wn x.wc x.ha x.hn x.hc)=W2 at *
 refine (HS.out W2 BW.out).mono ?_
 rintro e w1 ⟨rfl,q1⟩
 have B1:Hid (Below w.heap.size w w1/\BoxC w1 w.heap.size (.slice x.pa x.pn x.pc) (.slice x.sa x.sn x.sc) (.slice x.wa x.wn x.wc) (.slice x.ha x.hn x.hc)):=⟨BW.out.trans (q1.mono BW.out.size),NB.out.below q1⟩
 clear q1 BW NB HS
 rcases zK x.y.okB with t | t
 case inr=>
  have HV:Hid (rdQ x.y p=[]):=by
   show rdQ x.y p=[]
   rw [rdQ,if_neg (by rw [t];simp)]
  have OE:Hid (OwnI (w1.alloc (.cells #[] 3)) w.heap.size (.slice (some ⟨w1.heap.size,0,none⟩) 0 0) []/\Below w.heap.size w (w1.alloc (.cells #[] 3))):=⟨(own_empty w1).mono B1.out.1.size,B1.out.1.trans ((zQ _ _).mono B1.out.1.size)⟩
  rw [t]
  clear t
  go_wp2
  go_ret
  rw [HV.out]
  exact ⟨_,rfl,OE.out⟩
 have HO:Hid x.y.Ok:=Sy.ok_of t
 have HC:Hid (Calls Tryz.prog 20 #[x.v,.int .i64 p] w1 fun e w'=>∃ u,e=.returned u/\OwnI w' w1.heap.size u (rdQ x.y p)/\Below w1.heap.size w1 w'):=by
  show Calls Tryz.prog 20 _ _ _
  by_cases hb:belB p x.pn=true
  ·have hb':0<=p/\p<(x.pn:Int):=by simpa [belB] using hb
   obtain ⟨k,rfl⟩:∃ k:Nat,p=k:=⟨p.toNat,by omega⟩
   have e:rdQ x.y (k:Int)=rdX x k:=by
    rw [rdQ,if_pos ⟨t,hb⟩,rdX_y]
    rfl
   rw [e]
   exact l5Ready_any x k w1 (HG.out.below B1.out.1) HL.out HO.out (by omega)
  ·have e:rdQ x.y p=[]:=by
    rw [rdQ,if_neg]
    exact fun h=>hb h.2
   rw [e]
   exact l5Ready_out x p w1 HL.out.p.1 (by
    simp only [inB,decide_eq_false_iff_not]
    simp only [belB,decide_eq_true_eq] at hb
    omega)
 rw [t]
 clear t
 obtain ⟨b0,b1,b2,b3⟩:=B1.out.2
 go_wp2_with fail
 refine HC.out.mono ?_
 rintro e w2 ⟨u2,rfl,o2,q2⟩
 have F2:Hid (OwnI w2 w.heap.size u2 (rdQ x.y p)/\Below w.heap.size w w2):=⟨o2.mono B1.out.1.size,B1.out.1.trans (q2.mono B1.out.1.size)⟩
 clear o2 q2 HC
 go_wp2
 go_ret
 exact ⟨_,rfl,F2.out⟩
theorem implReady_any (x:SysIn) (p:Int) (w:World) (hG:SysG w x) (hL:x.Len) (hV:w.cell? ⟨0,0,none⟩=some (.iface 204 (.agg #[.pointer (some ⟨1,150,none⟩)]))):
  Calls Tryz.prog 6 #[x.v,.int .i64 p] w fun e w'=>∃ u,e=.returned u/\OwnI w' w.heap.size u (rdQ x.y p)/\Below w.heap.size w w':=by
 have HG:Hid (SysG w x):=hG
 have HL:Hid x.Len:=hL
 have HS:Hid (∀ wx,Below w.heap.size w wx->Calls Tryz.prog 17 #[x.v] wx fun e w'=>e=.returned (.bool x.y.okB)/\Below wx.heap.size wx w'):=fun wx hb=>implSysOk_any x wx (HG.out.below hb) hL ((hb.cell (p:=⟨0,0,none⟩) (zJ w _ hV)).trans hV)
 have BW:Hid (Below w.heap.size w (w.alloc (oQ4 x.pa x.pn x.pc x.sa x.sn x.sc x.wa x.wn x.wc x.ha x.hn x.hc))):=zQ _ _
 have NB:Hid (BoxC (w.alloc (oQ4 x.pa x.pn x.pc x.sa x.sn x.sc x.wa x.wn x.wc x.ha x.hn x.hc)) w.heap.size (.slice x.pa x.pn x.pc) (.slice x.sa x.sn x.sc) (.slice x.wa x.wn x.wc) (.slice x.ha x.hn x.hc)):=BoxC.new w _ _ _ _ _
 clear hG hL hV
 go_enter Tryz.func6,Tryz.ntmps6
 go_wp2_with fail
 generalize w.alloc (oQ4 x.pa x.pn x.pc x.sa x.sn x.sc x.wa x.wn x.wc x.ha x.hn x.hc)=W2 at *
 refine (HS.out W2 BW.out).mono ?_
 rintro e w1 ⟨rfl,q1⟩
 have B1:Hid (Below w.heap.size w w1/\BoxC w1 w.heap.size (.slice x.pa x.pn x.pc) (.slice x.sa x.sn x.sc) (.slice x.wa x.wn x.wc) (.slice x.ha x.hn x.hc)):=⟨BW.out.trans (q1.mono BW.out.size),NB.out.below q1⟩
 clear q1 BW NB HS
 rcases zK x.y.okB with t | t
 case inr=>
  have HV:Hid (rdQ x.y p=[]):=by
   show rdQ x.y p=[]
   rw [rdQ,if_neg (by rw [t];simp)]
  have OE:Hid (OwnI (w1.alloc (.cells #[] 3)) w.heap.size (.slice (some ⟨w1.heap.size,0,none⟩) 0 0) []/\Below w.heap.size w (w1.alloc (.cells #[] 3))):=⟨(own_empty w1).mono B1.out.1.size,B1.out.1.trans ((zQ _ _).mono B1.out.1.size)⟩
  rw [t]
  clear t
  go_wp2
  go_ret
  rw [HV.out]
  exact ⟨_,rfl,OE.out⟩
 have HO:Hid x.y.Ok:=Sy.ok_of t
 have HC:Hid (Calls Tryz.prog 18 #[x.v,.int .i64 p] w1 fun e w'=>∃ u,e=.returned u/\OwnI w' w1.heap.size u (rdQ x.y p)/\Below w1.heap.size w1 w'):=by
  show Calls Tryz.prog 18 _ _ _
  by_cases hb:belB p x.pn=true
  ·have hb':0<=p/\p<(x.pn:Int):=by simpa [belB] using hb
   obtain ⟨k,rfl⟩:∃ k:Nat,p=k:=⟨p.toNat,by omega⟩
   have e:rdQ x.y (k:Int)=rdX x k:=by
    rw [rdQ,if_pos ⟨t,hb⟩,rdX_y]
    rfl
   rw [e]
   exact readyIn_any x k w1 (HG.out.below B1.out.1) HL.out HO.out (by omega)
  ·have e:rdQ x.y p=[]:=by
    rw [rdQ,if_neg]
    exact fun h=>hb h.2
   rw [e]
   exact readyIn_out x p w1 (by simpa using hb)
 rw [t]
 clear t
 obtain ⟨b0,b1,b2,b3⟩:=B1.out.2
 go_wp2_with fail
 refine HC.out.mono ?_
 rintro e w2 ⟨u2,rfl,o2,q2⟩
 have F2:Hid (OwnI w2 w.heap.size u2 (rdQ x.y p)/\Below w.heap.size w w2):=⟨o2.mono B1.out.1.size,B1.out.1.trans (q2.mono B1.out.1.size)⟩
 clear o2 q2 HC
 go_wp2
 go_ret
 exact ⟨_,rfl,F2.out⟩
theorem l5Step_out (y:Sy) (p f:Int) (w:World) (B:Nat) (v:Value) (o:OwnSys true w B y v) (hB:B<=w.heap.size) (hn:y.pn<=1048576) (t1:inB p 0 ((y.pn:Int) - 1)=false):
  Calls Tryz.prog 45 #[v,.int .i64 p,.int .i64 f] w fun e w'=>e=.returned (.tuple #[v,.int .i64 2])/\Below B w w'/\OwnSys true w' B y v:=by
 obtain ⟨c,vp,vs,vw,vh,up,us,uw,uh,rfl,o⟩:=o
 obtain ⟨pa,pc,rfl⟩:=zU o.p.row
 obtain ⟨sa,sc,rfl⟩:=zU o.s.row
 obtain ⟨wa,wc,rfl⟩:=zU o.t.row
 obtain ⟨ha,hc,rfl⟩:=zU o.h.row
 have hpn:(y.pn:Int)<=1048576:=by omega
 have hM:B<=w.heap.size+1:=by omega
 have BW:Hid (Below w.heap.size w ((w.alloc (oQ4 pa y.pn pc sa y.sn sc wa y.wn wc ha y.hn hc)).alloc (zQ3))):=(zQ _ _).trans ((zQ _ _).mono (by simp))
 have NB:Hid (BoxC ((w.alloc (oQ4 pa y.pn pc sa y.sn sc wa y.wn wc ha y.hn hc)).alloc (zQ3)) w.heap.size (.slice pa y.pn pc) (.slice sa y.sn sc) (.slice wa y.wn wc) (.slice ha y.hn hc)):=(BoxC.new w _ _ _ _ _).below (zQ _ _)
 have RB:Hid (BoxC ((w.alloc (oQ4 pa y.pn pc sa y.sn sc wa y.wn wc ha y.hn hc)).alloc (zQ3)) (w.heap.size+1) (.slice none 0 0) (.slice none 0 0) (.slice none 0 0) (.slice none 0 0)/\∀ j,((w.alloc (oQ4 pa y.pn pc sa y.sn sc wa y.wn wc ha y.hn hc)).alloc (zQ3)).frozen? ⟨w.heap.size+1,j,none⟩=false):=⟨⟨zW _ _ _ 0 (by simp),zW _ _ _ 1 (by simp),zW _ _ _ 2 (by simp),zW _ _ _ 3 (by simp)⟩,fun j=>yB _ _ _ _ (by simp)⟩
 have l1:w.heap.size+1<((w.alloc (oQ4 pa y.pn pc sa y.sn sc wa y.wn wc ha y.hn hc)).alloc (zQ3)).heap.size:=by simp
 have OO:Hid (OwnS true w B c y (.slice pa y.pn pc) (.slice sa y.sn sc) (.slice wa y.wn wc) (.slice ha y.hn hc) up us uw uh):=o
 clear o
 go_enter Tryz.func45,Tryz.ntmps45
 go_wp2_with fail
 refine (l1In_any _ _ _ _).mono ?_
 rintro e w1 ⟨rfl,rfl⟩
 rw [t1]
 generalize (w.alloc (oQ4 pa y.pn pc sa y.sn sc wa y.wn wc ha y.hn hc)).alloc (zQ3)=W2 at *
 obtain ⟨b0,b1,b2,b3⟩:=NB.out
 obtain ⟨⟨r0,r1,r2,r3⟩,rf⟩:=RB.out
 have O2:Hid (OwnS true W2 B (rcol c w.heap.size 0) y (.slice pa y.pn pc) (.slice sa y.sn sc) (.slice wa y.wn wc) (.slice ha y.hn hc) up us uw uh):=(OO.out.recol 0).below BW.out
 have BB:Hid (Below B w W2):=BW.out.mono hB
 go_wp2
 exact bodyPost_ret (v:=.tuple #[sysV pa y.pn pc sa y.sn sc wa y.wn wc ha y.hn hc,.int .i64 2]) (by simp [results,Tryz.results45,go_sem,r0,r1,r2,r3]) rfl ⟨rfl,(((BB.out.setCell hM _).setCell hM _).setCell hM _).setCell hM _,_,_,_,_,_,_,_,_,_,rfl,(((O2.out.setOut (rcol_new (Nat.le_succ _)) 0 _).setOut (rcol_new (Nat.le_succ _)) 1 _).setOut (rcol_new (Nat.le_succ _)) 2 _).setOut (rcol_new (Nat.le_succ _)) 3 _⟩
noncomputable def stC (y:Sy) (p f:Int):Int:=if y.okB=true then (if belB p y.pn=true then cmS y p.toNat f else 2) else 1
noncomputable def stY (y:Sy) (p f:Int):Sy:=if y.okB=true then (if belB p y.pn=true then y.step p.toNat f else y) else { y with pn:=0,sn:=0,wn:=0,hn:=0 }
theorem specStep_any (x:SysIn) (p f:Int) (w:World) (hG:SysG w x) (hL:x.Len) (hcap:∀ i,i<x.hn->x.hL i<=x.hC i):
  Calls Tryz.prog 109 #[x.v,.int .i64 p,.int .i64 f] w fun e w'=>∃ v,e=.returned (.tuple #[v,.int .i64 (stC x.y p f)])/\OwnSys true w' w.heap.size (stY x.y p f) v/\Below w.heap.size w w':=by
 have HG:Hid (SysG w x):=hG
 have HL:Hid x.Len:=hL
 have HS:Hid (∀ wx,Below w.heap.size w wx->Calls Tryz.prog 19 #[x.v] wx fun e w'=>e=.returned (.bool x.y.okB)/\Below wx.heap.size wx w'):=fun wx hb=>specSysOk_any x wx (HG.out.below hb) hL hcap
 have HC4:Hid (∀ wx,Below w.heap.size w wx->Calls Tryz.prog 46 #[x.v] wx fun e w'=>∃ v,e=.returned v/\OwnSys true w' wx.heap.size x.y v/\Below wx.heap.size wx w'):=fun wx hb=>l4Copy_any x wx (HG.out.below hb) hL
 have BW:Hid (Below w.heap.size w ((w.alloc (oQ4 x.pa x.pn x.pc x.sa x.sn x.sc x.wa x.wn x.wc x.ha x.hn x.hc)).alloc (zQ3))):=(zQ _ _).trans ((zQ _ _).mono (by simp))
 have NB:Hid (BoxC ((w.alloc (oQ4 x.pa x.pn x.pc x.sa x.sn x.sc x.wa x.wn x.wc x.ha x.hn x.hc)).alloc (zQ3)) w.heap.size (.slice x.pa x.pn x.pc) (.slice x.sa x.sn x.sc) (.slice x.wa x.wn x.wc) (.slice x.ha x.hn x.hc)):=(BoxC.new w _ _ _ _ _).below (zQ _ _)
 have RB:Hid (BoxC ((w.alloc (oQ4 x.pa x.pn x.pc x.sa x.sn x.sc x.wa x.wn x.wc x.ha x.hn x.hc)).alloc (zQ3)) (w.heap.size+1) (.slice none 0 0) (.slice none 0 0) (.slice none 0 0) (.slice none 0 0)/\∀ j,((w.alloc (oQ4 x.pa x.pn x.pc x.sa x.sn x.sc x.wa x.wn x.wc x.ha x.hn x.hc)).alloc (zQ3)).frozen? ⟨w.heap.size+1,j,none⟩=false):=⟨⟨zW _ _ _ 0 (by simp),zW _ _ _ 1 (by simp),zW _ _ _ 2 (by simp),zW _ _ _ 3 (by simp)⟩,fun j=>yB _ _ _ _ (by simp)⟩
 have hM:w.heap.size<=w.heap.size+1:=Nat.le_succ _
 clear hG hL hcap
 go_enter Tryz.func109,Tryz.ntmps109
 go_wp2_with fail
 generalize (w.alloc (oQ4 x.pa x.pn x.pc x.sa x.sn x.sc x.wa x.wn x.wc x.ha x.hn x.hc)).alloc (zQ3)=W2 at *
 refine (HS.out W2 BW.out).mono ?_
 rintro e w1 ⟨rfl,q1⟩
 have B1:Hid (Below w.heap.size w w1/\BoxC w1 w.heap.size (.slice x.pa x.pn x.pc) (.slice x.sa x.sn x.sc) (.slice x.wa x.wn x.wc) (.slice x.ha x.hn x.hc)/\BoxC w1 (w.heap.size+1) (.slice none 0 0) (.slice none 0 0) (.slice none 0 0) (.slice none 0 0)/\∀ j,w1.frozen? ⟨w.heap.size+1,j,none⟩=false):=⟨BW.out.trans (q1.mono BW.out.size),NB.out.below q1,RB.out.1.below q1,fun j=>((bcell q1).2 _ j (zJ _ _ RB.out.1.1)).trans (RB.out.2 j)⟩
 clear q1 BW NB RB HS
 have l1:w.heap.size+1<w1.heap.size:=zJ _ _ B1.out.2.2.1.1
 obtain ⟨b0,b1,b2,b3⟩:=B1.out.2.1
 rcases zK x.y.okB with t | t
 case inr=>
  have HV:Hid (stC x.y p f=1/\stY x.y p f={ x.y with pn:=0,sn:=0,wn:=0,hn:=0 }):=⟨if_neg (by rw [t];simp),if_neg (by rw [t];simp)⟩
  obtain ⟨⟨r0,r1,r2,r3⟩,rf⟩:=B1.out.2.2
  rw [t]
  clear t
  go_wp2
  exact bodyPost_ret (v:=.tuple #[sysV none 0 0 none 0 0 none 0 0 none 0 0,.int .i64 1]) (by simp [results,Tryz.results109,go_sem,r0,r1,r2,r3]) rfl ⟨_,by rw [HV.out.1],by rw [HV.out.2];exact OwnSys.zero _ _ _,(((B1.out.1.setCell hM _).setCell hM _).setCell hM _).setCell hM _⟩
 have HO:Hid x.y.Ok:=Sy.ok_of t
 have HC:Hid (∀ wx v,w1.heap.size<=wx.heap.size->OwnSys true wx w1.heap.size x.y v->Calls Tryz.prog 45 #[v,.int .i64 p,.int .i64 f] wx fun e w'=>e=.returned (.tuple #[v,.int .i64 (stC x.y p f)])/\Below w1.heap.size wx w'/\OwnSys true w' w1.heap.size (stY x.y p f) v):=by
  show ∀ wx v,_
  intro wx v hwx o
  have hc4:x.y.pn<=4:=HO.out.cn.1.2
  by_cases hb:belB p x.y.pn=true
  ·have hb':0<=p/\p<(x.y.pn:Int):=by simpa [belB] using hb
   obtain ⟨k,rfl⟩:∃ k:Nat,p=k:=⟨p.toNat,by omega⟩
   rw [stC,if_pos t,if_pos hb,stY,if_pos t,if_pos hb]
   exact l5Step_any x.y k f wx _ v o (by omega) HO.out
  ·rw [stC,if_pos t,if_neg hb,stY,if_pos t,if_neg hb]
   exact l5Step_out x.y p f wx _ v o hwx (by omega) (by
    simp only [inB,decide_eq_false_iff_not]
    simp only [belB,decide_eq_true_eq] at hb
    omega)
 have HZ:Hid (stC x.y p f≠0->stY x.y p f=x.y):=fun h=>by
  rw [stC,if_pos t] at h
  rw [stY,if_pos t]
  by_cases hb:belB p x.y.pn=true
  ·rw [if_pos hb] at h ⊢
   exact Sy.step_no h
  ·rw [if_neg hb]
 rw [t]
 clear t
 go_wp2_with fail
 refine (HC4.out w1 B1.out.1).mono ?_
 rintro e w3 ⟨v3,rfl,o3,q3⟩
 obtain ⟨pa,pc,sa,sc,wa,wc,ha,hc,rfl⟩:=o3.form
 have HC':=HC.out w3 _ q3.size o3
 clear HC
 generalize hC:stC x.y p f=C at *
 generalize hY:stY x.y p f=Y at *
 go_wp2_with fail
 refine HC'.mono ?_
 rintro e w5 ⟨rfl,q5,o5⟩
 have Q5:Below w1.heap.size w1 w5:=q3.trans q5
 have B5:Hid (Below w.heap.size w w5/\BoxC w5 w.heap.size (.slice x.pa x.pn x.pc) (.slice x.sa x.sn x.sc) (.slice x.wa x.wn x.wc) (.slice x.ha x.hn x.hc)/\BoxC w5 (w.heap.size+1) (.slice none 0 0) (.slice none 0 0) (.slice none 0 0) (.slice none 0 0)/\(∀ j,w5.frozen? ⟨w.heap.size+1,j,none⟩=false)/\w1.heap.size<=w5.heap.size/\OwnSys true w5 w1.heap.size Y (sysV pa x.y.pn pc sa x.y.sn sc wa x.y.wn wc ha x.y.hn hc)):=⟨B1.out.1.trans (Q5.mono B1.out.1.size),B1.out.2.1.below Q5,B1.out.2.2.1.below Q5,fun j=>((bcell Q5).2 _ j l1).trans (B1.out.2.2.2 j),Q5.size,o5⟩
 clear o3 q3 q5 o5 Q5 HC' B1 b0 b1 b2 b3
 obtain ⟨b0,b1,b2,b3⟩:=B5.out.2.1
 obtain ⟨r0,r1,r2,r3⟩:=B5.out.2.2.1
 have rf:=B5.out.2.2.2.1
 have l5:w.heap.size+1<w5.heap.size:=zJ _ _ r0
 have l50:w.heap.size<w5.heap.size:=by omega
 by_cases hc0:C=0
 ·subst hc0
  go_wp2
  exact bodyPost_ret (v := .tuple #[sysV pa x.y.pn pc sa x.y.sn sc wa x.y.wn wc ha x.y.hn hc, .int .i64 0]) (by simp [results, Tryz.results109, go_sem, r0, r1, r2, r3, l5]) rfl ⟨_, by rw [hC], by
   rw [hY]
   exact (((((B5.out.2.2.2.2.2.setBelow l1 0 _).setBelow l1 1 _).setBelow l1 2 _).setBelow l1 3 _).below (zQ _ _)).base (by omega),((((B5.out.1.setCell hM _).setCell hM _).setCell hM _).setCell hM _).trans ((zQ _ _).mono (by simp;omega))⟩
 ·have tc:(C == 0)=false:=by simpa using hc0
  go_wp2_with fail
  refine (HC4.out _ (B5.out.1.trans ((zQ _ _).mono (Nat.le_of_lt l50)))).mono ?_
  rintro e w7 ⟨v7,rfl,o7,q7⟩
  obtain ⟨pa7,pc7,sa7,sc7,wa7,wc7,ha7,hc7,rfl⟩:=o7.form
  have Q7:Below w5.heap.size w5 w7:=(zQ _ _).trans (q7.mono (by simp))
  have hc:=(bcell Q7).1
  replace r0:=(hc _ _ l5).trans r0
  replace r1:=(hc _ _ l5).trans r1
  replace r2:=(hc _ _ l5).trans r2
  replace r3:=(hc _ _ l5).trans r3
  replace rf:∀ j,w7.frozen? ⟨w.heap.size+1,j,none⟩=false:=fun j=>((bcell Q7).2 _ j l5).trans (rf j)
  have l7:w.heap.size+1<w7.heap.size:=zL l5 Q7.size
  have B7:Hid (Below w.heap.size w w7/\OwnSys true w7 w5.heap.size x.y (sysV pa7 x.y.pn pc7 sa7 x.y.sn sc7 wa7 x.y.wn wc7 ha7 x.y.hn hc7)):=⟨B5.out.1.trans (Q7.mono (Nat.le_of_lt l50)),o7.base (by simp)⟩
  clear o7 q7 Q7 hc B5 b0 b1 b2 b3
  go_wp2
  exact bodyPost_ret (v := .tuple #[sysV pa7 x.y.pn pc7 sa7 x.y.sn sc7 wa7 x.y.wn wc7 ha7 x.y.hn hc7, .int .i64 C]) (by simp [results, Tryz.results109, go_sem, r0, r1, r2, r3]) rfl ⟨_, by rw [hC], by
   rw [hY,HZ.out hc0]
   exact ((((B7.out.2.setBelow l5 0 _).setBelow l5 1 _).setBelow l5 2 _).setBelow l5 3 _).base (by omega),(((B7.out.1.setCell hM _).setCell hM _).setCell hM _).setCell hM _⟩
def SysT (w:World) (B T:Nat) (y:Sy) (v:Value):Prop:=∃ c vp vs vw vh up us uw uh,v=.agg #[vp,vs,vw,vh]/\OwnS false w B c y vp vs vw vh up us uw uh/\∀ b,T<=b->c b=0
theorem OwnS.sysT {z:Bool} {w:World} {B:Nat} {c:Nat->Nat} {y:Sy} {vp vs vw vh:Value} {up us uw uh:Nat->Value} (o:OwnS z w B c y vp vs vw vh up us uw uh):SysT w B w.heap.size y (.agg #[vp,vs,vw,vh]):=by
 have o:=o.weak
 have h : ∀ i k, Cl B c i k → k < w.heap.size → Cl B (fun b => if b < w.heap.size then c b else 0) i k := fun i k hk hl => ⟨hk.1, by
  show (if k<w.heap.size then c k else 0)=i
  rw [if_pos hl]
  exact hk.2⟩
 exact ⟨fun b=>if b<w.heap.size then c b else 0,vp,vs,vw,vh,up,us,uw,uh,rfl,⟨o.p.mono (h 1),o.s.mono (h 2),o.t.mono (h 3),o.h.mono (h 4)⟩,fun b hb=>if_neg (by omega)⟩
theorem OwnSys.sysT {z:Bool} {w:World} {B:Nat} {y:Sy} {v:Value} (o:OwnSys z w B y v):SysT w B w.heap.size y v:=by
 obtain ⟨c,vp,vs,vw,vh,up,us,uw,uh,rfl,o⟩:=o
 exact OwnS.sysT o
theorem Own1.sysT {w:World} {B T n:Nat} {L:Nat->Nat} {H:Nat->Nat->I5} {vp vs vw vh:Value} (o:Own1 w B T n L H vp vs vw vh):SysT w B w.heap.size (nwY n L H) (.agg #[vp,vs,vw,vh]):=by
 obtain ⟨c,up,us,o⟩:=o.s
 exact OwnS.sysT o
theorem SysT.keep {w w':World} {B T:Nat} {y:Sy} {v:Value} (o:SysT w B T y v) (h:∀ b,B<=b->b<T->b<w.heap.size->w'.heap[b]? = w.heap[b]?):SysT w' B T y v:=by
 obtain ⟨c,vp,vs,vw,vh,up,us,uw,uh,e,o,ht⟩:=o
 have key : ∀ i, i ≠ 0 → ∀ k, Cl B c i k → k < w.heap.size → w'.heap[k]? = w.heap[k]? := fun i hi k hk hl => h k hk.1 (by
  apply Classical.byContradiction
  intro hn
  have h1:=ht k (by omega)
  have h2:c k=i:=hk.2
  omega) hl
 exact ⟨c,vp,vs,vw,vh,up,us,uw,uh,e,⟨o.p.keep (key 1 (by decide)),o.s.keep (key 2 (by decide)),o.t.keep (key 3 (by decide)),o.h.keep (key 4 (by decide))⟩,ht⟩
theorem SysT.below {w w':World} {B T:Nat} {y:Sy} {v:Value} (o:SysT w B T y v) (hb:Below w.heap.size w w'):SysT w' B T y v:=o.keep fun b _ _ hl=>hb.block b hl
theorem SysT.base {w:World} {B B' T:Nat} {y:Sy} {v:Value} (o:SysT w B T y v) (h:B'<=B):SysT w B' T y v:=by
 obtain ⟨c,vp,vs,vw,vh,up,us,uw,uh,e,o,ht⟩:=o
 exact ⟨c,vp,vs,vw,vh,up,us,uw,uh,e,⟨o.p.mono fun _ q _=>⟨zP h q.1,q.2⟩,o.s.mono fun _ q _=>⟨zP h q.1,q.2⟩,o.t.mono fun _ q _=>⟨zP h q.1,q.2⟩,o.h.mono fun _ q _=>⟨zP h q.1,q.2⟩⟩,ht⟩
theorem SysT.top {w:World} {B T T':Nat} {y:Sy} {v:Value} (o:SysT w B T y v) (h:T<=T'):SysT w B T' y v:=by
 obtain ⟨c,vp,vs,vw,vh,up,us,uw,uh,e,o,ht⟩:=o
 exact ⟨c,vp,vs,vw,vh,up,us,uw,uh,e,o,fun b hb=>ht b (by omega)⟩
theorem cap_own {w:World} {B sz n:Nat} {e:TypeId} {u:Value} {xs:List Value} (o:w.ownsRow B e sz u n xs):n<=cpOf u:=by
 rcases o.2 with ⟨rfl,h⟩ | ⟨g,cap,cur,rfl,_,_,hnc,_⟩
 ·rw [h];exact Nat.zero_le _
 ·exact hnc
structure SysX (w:World) (B T:Nat) (x:SysIn):Prop where
 g:∀ w',(∀ b,B<=b->b<T->b<w.heap.size->w'.heap[b]? = w.heap[b]?)->SysG w' x
 cap:∀ i,i<x.hn->x.hL i<=x.hC i
 nn:x.Nn false
theorem SysT.x {w:World} {B T:Nat} {y:Sy} {v:Value} (o:SysT w B T y v):∃ x:SysIn,v=x.v/\x.y=y/\SysX w B T x:=by
 obtain ⟨c,vp,vs,vw,vh,up,us,uw,uh,rfl,o,ht⟩:=o
 refine ⟨y.sysIn vp vs vw vh up us uw uh,o.v.symm,rfl,fun w' h=>?_,fun i hi=>cap_own (o.h.own i hi),o.nf⟩
 have key : ∀ i, i ≠ 0 → ∀ k, Cl B c i k → k < w.heap.size → w'.heap[k]? = w.heap[k]? := fun i hi k hk hl => h k hk.1 (by
  apply Classical.byContradiction
  intro hn
  have h1:=ht k (by omega)
  have h2:c k=i:=hk.2
  omega) hl
 exact OwnS.g (z:=false) (B:=B) (c:=c) ⟨o.p.keep (key 1 (by decide)),o.s.keep (key 2 (by decide)),o.t.keep (key 3 (by decide)),o.h.keep (key 4 (by decide))⟩
theorem SysX.abv {w w':World} {B T c:Nat} {x:SysIn} (h:SysX w B T x) (hc:c<B) (ha:Abv c w w'):SysG w' x:=h.g w' fun b hb _ hl=>ha.2 b (by omega) hl
theorem SysX.below {w w':World} {B T:Nat} {x:SysIn} (h:SysX w B T x) (hb:Below w.heap.size w w'):SysG w' x:=h.g w' fun b _ _ hl=>hb.block b hl
theorem SysX.self {w:World} {B T:Nat} {x:SysIn} (h:SysX w B T x):SysG w x:=h.g w fun _ _ _ _=>rfl
theorem Sy.Sm.inLen {x:SysIn} (h:x.y.Sm):x.Len:=by
 obtain ⟨⟨h1,h2,h3,h4⟩,hp,hs,hw,hh⟩:=h
 have h1':x.pn<=16:=h1
 have h2':x.sn<=16:=h2
 have h3':x.wn<=16:=h3
 have h4':x.hn<=16:=h4
 refine ⟨⟨by omega,fun i hi=>?_⟩,⟨by omega,fun i hi=>?_⟩,⟨by omega,fun i hi=>?_⟩,⟨by omega,fun i hi=>?_⟩⟩
 ·have:x.pL i<=1000:=hp i hi
  omega
 ·have:(x.sQ i).rs.length<=1000/\(x.sQ i).os.length<=1000:=hs i hi
  omega
 ·have:x.wL i<=1000:=hw i hi
  omega
 ·have:x.hL i<=1000:=hh i hi
  omega
def Sy.Good (y:Sy):Prop:=y.Ok\/(y.pn=0/\y.sn=0/\y.wn=0/\y.hn=0)
theorem Sy.Good.sm {y:Sy} (h:y.Good):y.Sm:=by
 rcases h with h | ⟨h1,h2,h3,h4⟩
 ·exact h.sm
 ·exact ⟨by omega,fun i hi=>by omega,fun i hi=>by omega,fun i hi=>by omega,fun i hi=>by omega⟩
theorem Sy.Good.step {y:Sy} (_h:y.Good) {p f:Int} (hc:stC y p f=0):(stY y p f).Good:=by
 unfold stC at hc
 unfold stY
 by_cases ho:y.okB=true
 ·rw [if_pos ho] at hc ⊢
  by_cases hb:belB p y.pn=true
  ·rw [if_pos hb] at hc ⊢
   have hb':0<=p/\p<(y.pn:Int):=by simpa [belB] using hb
   exact .inl ((Sy.ok_of ho).step (by omega) hc)
  ·rw [if_neg hb] at hc
   cases hc
 ·rw [if_neg ho] at hc
  cases hc
structure DK (w wr:World) (W0 c:Nat) (a0:Option Addr) (len cap B T:Nat) (y:Sy) (v:Value):Prop where
 cu:Cur wr W0 c a0 len cap
 sy:SysT wr B T y v
 gr:w.grownBy wr (some c)
 lt:c<B
theorem DK.draw {w wr w':World} {W0 c:Nat} {a0:Option Addr} {len cap B T:Nat} {y:Sy} {v:Value} (h:DK w wr W0 c a0 len cap B T y v) (hc:Cur w' W0 c a0 len cap) (hg:wr.grownBy w' (some c)):DK w w' W0 c a0 len cap B T y v:=
 ⟨hc,h.sy.keep fun b hb _ hl=>hg.block b hl (by have:=h.lt;simp;omega),h.gr.trans hg,h.lt⟩
theorem DK.below {w wr w':World} {W0 c:Nat} {a0:Option Addr} {len cap B T:Nat} {y:Sy} {v:Value} (h:DK w wr W0 c a0 len cap B T y v) (hb:Below wr.heap.size wr w'):DK w w' W0 c a0 len cap B T y v:=
 ⟨h.cu.kept (zZ hb) (by simp) (fun k hk=>by cases hk),h.sy.below hb,h.gr.andThen (zZ hb) (fun j hj=>by cases hj),h.lt⟩
theorem DK.alloc {w wr:World} {W0 c:Nat} {a0:Option Addr} {len cap B T:Nat} {y:Sy} {v:Value} (h:DK w wr W0 c a0 len cap B T y v) (o:Obj):DK w (wr.alloc o) W0 c a0 len cap B T y v:=h.below (zQ _ _)
theorem DK.set {w wr:World} {W0 c:Nat} {a0:Option Addr} {len cap B T:Nat} {y:Sy} {v:Value} (h:DK w wr W0 c a0 len cap B T y v) {N:Nat} (hN:w.heap.size<=N) (hc:c≠N) (hT:N<B\/T<=N) (hW:W0<=N) (j:Nat) (u:Value):DK w (wr.setCell ⟨N,j,none⟩ u) W0 c a0 len cap B T y v:=by
 have hg:wr.grownBy (wr.setCell ⟨N,j,none⟩ u) (some N):=zV (World.grownBy.refl _ _) (.inl rfl) u
 exact ⟨h.cu.kept hg (fun e=>hc (by simpa using e)) (fun k hk=>by cases hk;exact hW),h.sy.keep fun b hb ht hl=>hg.block b hl (by simp;omega),h.gr.andThen hg (fun k hk=>by cases hk;exact .inl hN),h.lt⟩
structure DrM (w wr:World) (W0 len cap:Nat) (a0:Option Addr) (c:Nat) (v:Value) (k:Nat):Prop where
 ll:∃ u L H,LI true wr (fun b=>w.heap.size<=b) v k u L H/\∀ i,i<k->L i<=31
 cu:Cur wr W0 c a0 len cap
 gr:w.grownBy wr (some c)
 nn:v≠.slice none 0 0
theorem DrM.start {w wr:World} {W0 len cap c:Nat} {a0:Option Addr} (hc:Cur wr W0 c a0 len cap) (hg:w.grownBy wr (some c)):DrM w (wr.alloc (.cells #[] 60)) W0 len cap a0 c (.slice (some ⟨wr.heap.size,0,none⟩) 0 0) 0:=
 ⟨⟨fun _=>.slice none 0 0,fun _=>0,fun _ _=>⟨0,0,0,0,0⟩,LL.new _ _ _ _ _ hg.size _ _ _,fun i hi=>by omega⟩,hc.alloc _,hg.andThen (World.grownBy_alloc _ _ none) (fun j hj=>by cases hj),fun e=>by cases e⟩
theorem DrM.push {w wr w1 w2:World} {W0 len cap c k m:Nat} {a0:Option Addr} {v v' x:Value} {u:Nat->Value} {L:Nat->Nat} {H:Nat->Nat->I5} (hl:LI true wr (fun b=>w.heap.size<=b) v k u L H) (h31:∀ i,i<k->L i<=31) (g0:w.grownBy wr (some c)) (hc0:c<w.heap.size) (g1:wr.grownBy w1 (some c)) (hc1:Cur w1 W0 c a0 len cap) (hx:Lst w1 wr.heap.size x m) (hm:m<=31) (hne:x≠.slice none 0 0)
  (hv:w2.ownsRow 0 60 1 v' (k+1) ((List.range k).map u ++ [x])) (g2:w1.grownBy w2 v.ownBlock) (hv':∀ j,v'.ownBlock=some j->v.ownBlock=some j\/w1.heap.size<=j) (hn':v'≠.slice none 0 0):DrM w w2 W0 len cap a0 c v' (k+1):=by
 obtain ⟨G,hG⟩:=hx.known
 have hvb:∀ j,v.ownBlock=some j->w.heap.size<=j:=hl.rb
 have hsz:=g0.size
 refine ⟨⟨_,fun j=>if j=k then m else L j,fun j=>if j=k then G else H j,(LL.ext (L':=fun j=>if j=k then m else L j) (c':=fun i=>fI (if i=k then G else H i) (if i=k then m else L i)) hl fun i hi=>?_).pushG g1.size (fun b hb hlt=>g1.block b hlt (by simp;omega)) ?_ (fun _=>hne) hv g2 hv' (fun b hb _=>hb) (fun b hb _=>by omega),fun i hi=>?_⟩,hc1.kept g2 (fun e=>?_) (fun j hj=>?_),(g0.trans g1).andThen g2 (fun j hj=>.inl ?_),hn'⟩
 ·simp only [if_neg (show ¬ i=k by omega),and_self]
 ·simp only [if_true]
  exact hG
 ·show (if i=k then m else L i)<=31
  by_cases e:i=k
  ·rw [if_pos e]
   exact hm
  ·rw [if_neg e]
   exact h31 i (by omega)
 ·have:=hvb c e.symm
  omega
 ·have:=hvb j hj
  have:=hc1.ge
  omega
 ·have:=hvb j hj
  omega
theorem append_progM {ops:Array Oper} {rest:List Oper} {op:Oper} {act:Act} {Q:Exit->Act->World->Prop} {w wr:World} (w1:World) {W0 len cap c k m N:Nat} {a0:Option Addr} {v y:Value} (hN:N=w1.heap.size) (hgd:op.guard=none) (s x:Operand)
  (ho:op.op=.call { callee:=.builtin .append,args:=#[s,x],argTypes:=#[24,24] }) (hs:act.eval s=v) (hxv:act.eval x=.slice (some ⟨N,0,none⟩) 1 1)
  (DR:DrM w wr W0 len cap a0 c v k) (hW:c<w.heap.size) (hk:k<=5) (g1:wr.grownBy w1 (some c)) (hc1:Cur w1 W0 c a0 len cap) (hx:Lst w1 wr.heap.size y m) (hm:m<=31) (hne:y≠.slice none 0 0)
  (h:∀ v' w',DrM w w' W0 len cap a0 c v' (k+1)->wpList Tryz.prog ops Q rest (act.put op.dst v') w'):
  wpList Tryz.prog ops Q (op :: rest) act (w1.alloc (.cells #[y] 60)):=by
 obtain ⟨u,L,H,hl,h31⟩:=DR.ll
 have hone:∀ z ∈ (#[y]:Array Value).toList,z.oneCell'=true:=by
  intro z hz
  simp at hz
  rw [hz]
  obtain ⟨xs,ho,_⟩:=hx
  rcases ho.2 with ⟨e,_⟩ | ⟨g,cp,cur,e,_⟩
  ·exact absurd e hne
  ·rw [e]
   rfl
 refine step_append_val kndII w1 hN hgd s x ho 0 v k ((List.range k).map u) hs (ownsRow_blkL hl.row fun b hb=>g1.block b (hl.row.lt b hb).2 (by have:=hl.rb b hb;simp;omega)) #[y] hxv rfl hone (by omega) (Nat.zero_le _) ?_
 intro v' w' o g hv' hn'
 exact h v' w' (DrM.push hl h31 DR.gr hW g1 hc1 hx hm hne o g hv' hn')
theorem DK.weak {w wr:World} {W0 c:Nat} {a0:Option Addr} {len cap B B' T T':Nat} {y:Sy} {v:Value} (h:DK w wr W0 c a0 len cap B T y v) (hB:B'<=B) (hc:c<B') (hT:T<=T'):DK w wr W0 c a0 len cap B' T' y v:=⟨h.cu,(h.sy.base hB).top hT,h.gr,hc⟩
theorem nwY_good (n:Nat) (L:Nat->Nat) (H:Nat->Nat->I5):(nwY (nwN n L H) L H).Good:=by
 unfold nwN
 by_cases h:snB n L H=true
 ·rw [if_pos h]
  simp only [snB,Bool.and_eq_true] at h
  exact .inl (Sy.ok_of h.2)
 ·rw [if_neg h]
  exact .inr ⟨rfl,rfl,rfl,rfl⟩
theorem NwR.form {w w':World} {n:Nat} {L:Nat->Nat} {H:Nat->Nat->I5} {e:Ending} (h:NwR w n L H e w'):∃ pa sa wa ha pc sc wc hc,∃ (Y:Sy) (b:Bool),e=.returned (.tuple #[sysV pa Y.pn pc sa Y.sn sc wa Y.wn wc ha Y.hn hc,.bool b])/\Y.Good/\SysT w' w.heap.size w'.heap.size Y (sysV pa Y.pn pc sa Y.sn sc wa Y.wn wc ha Y.hn hc)/\Below w.heap.size w w':=by
 obtain ⟨pa,pc,sa,sc,wa,wc,ha,hc,rfl,o,b⟩:=h
 exact ⟨pa,sa,wa,ha,pc,sc,wc,hc,nwY (nwN n L H) L H,snB n L H,rfl,nwY_good n L H,o.sysT,b⟩
theorem l6DrawNew_any (W0 c len cap:Nat) (a0:Option Addr) (w:World) (hc:Cur w W0 c a0 len cap):
  Calls Tryz.prog 107 #[.pointer (some ⟨c,0,none⟩)] w fun e w'=>∃ pa sa wa ha pc sc wc hc y,e=.returned (sysV pa y.pn pc sa y.sn sc wa y.wn wc ha y.hn hc)/\y.Good/\DK w w' W0 c a0 len cap w.heap.size w'.heap.size y (sysV pa y.pn pc sa y.sn sc wa y.wn wc ha y.hn hc):=by
 have hcl:c<w.heap.size:=hc.lt
 have hcg:W0<=c:=hc.ge
 have C0:Hid (Cur (w.alloc (zQ3)) W0 c a0 len cap/\w.grownBy (w.alloc (zQ3)) (some c)/\BoxC (w.alloc (zQ3)) w.heap.size (.slice none 0 0) (.slice none 0 0) (.slice none 0 0) (.slice none 0 0)/\(∀ j,(w.alloc (zQ3)).frozen? ⟨w.heap.size,j,none⟩=false)/\(w.alloc (zQ3)).heap.size=w.heap.size+1):=⟨hc.alloc _,World.grownBy_alloc _ _ _,BoxC.new w _ _ _ _ _,fun j=>yB _ _ _ _ rfl,by simp⟩
 clear hc
 go_enter Tryz.func107,Tryz.ntmps107
 go_wp2_with fail
 generalize w.alloc (zQ3)=W2 at *
 refine (zY W0 c len cap a0 4 W2 C0.out.1 (by omega) (by omega)).mono ?_
 rintro e w1 ⟨z,rfl,⟨z0,z1⟩,hc1,hg1⟩
 have D1:Hid (DrM W2 (w1.alloc (.cells #[] 60)) W0 len cap a0 c (.slice (some ⟨w1.heap.size,0,none⟩) 0 0) 0):=DrM.start hc1 hg1
 obtain ⟨n,hn,hn4⟩:∃ n:Nat,1+z=(n:Int)/\n<=4:=⟨(1+z).toNat,by omega,by omega⟩
 have hn4':(n:Int)<=4:=by omega
 clear hc1 hg1
 go_wp2_with fail
 clear hn z0 z1
 generalize w1.alloc (.cells #[] 60)=W3 at *
 go_loopw [4,5] (fun out i wr=>∃ k:Nat,k<=n/\i=.int .i64 k/\Hid (DrM W2 wr W0 len cap a0 c out k)) (fun _ i _=>n - (intOf i).toNat)
 case atStart=>exact ⟨0,Nat.zero_le _,rfl,D1.out⟩
 case round=>
  clear D1
  obtain ⟨k,hk,rfl,HR⟩:=hrel
  by_cases hlt:k<n
  ·have hlt':(k:Int)<(n:Int):=by omega
   go_wp2_with fail
   refine (l1DrawProg_gen W0 c len cap a0 n k wr HR.out.cu (by omega) hlt' hn4').mono ?_
   rintro e w5 ⟨x5,m5,rfl,⟨m50,m51⟩,hx5,hc5,hg5⟩
   obtain ⟨xa,xc,ex5⟩:∃ xa xc,x5=.slice xa m5 xc:=by
    obtain ⟨xs,ho,_⟩:=hx5
    obtain ⟨a,cc,e⟩:=zU ho
    exact ⟨a,cc,e⟩
   have hne5:x5≠.slice none 0 0:=fun e=>by
    rw [ex5] at e
    simp only [Value.slice.injEq] at e
    omega
   subst ex5
   have H5:Hid (Lst w5 wr.heap.size (.slice xa m5 xc) m5/\m5<=31/\Value.slice xa m5 xc≠.slice none 0 0/\Cur w5 W0 c a0 len cap/\wr.grownBy w5 (some c)/\k<=5/\c<W2.heap.size):=⟨hx5,by omega,hne5,hc5,hg5,by omega,by rw [C0.out.2.2.2.2];omega⟩
   clear hx5 m50 m51 hne5 hc5 hg5
   go_wp2_with (at_builtin;refine append_progM w5 rfl rfl _ _ rfl rfl rfl HR.out H5.out.2.2.2.2.2.2 H5.out.2.2.2.2.2.1 H5.out.2.2.2.2.1 H5.out.2.2.2.1 H5.out.1 H5.out.2.1 H5.out.2.2.1 ?_;intro v' w6 d6;have D6:Hid (DrM W2 w6 W0 len cap a0 c v' (k+1)):=d6;clear d6)
   go_roundw
   case rel=>exact ⟨k+1,by omega,by go_num,D6.out⟩
   case measure=>simp [intOf];omega
  ·have hkn:k=n:=by omega
   have hD:=HR.out
   rw [hkn] at hD
   have HD:Hid (DrM W2 wr W0 len cap a0 c u4 n):=hD
   clear hD HR
   obtain ⟨⟨u,L,H,hl,h31⟩,hcu,hgr,hnn⟩:=HD.out
   have hrow:=rowS_of hl
   obtain ⟨g,pc,cur,eu,-⟩:∃ g pc cur,u4=.slice (some ⟨g,0,none⟩) n pc/\cur=(0:Nat):=by
    rcases hl.row.2 with ⟨e,_⟩ | ⟨g,pc,cur,e,_⟩
    ·exact absurd e hnn
    ·exact ⟨g,pc,0,e,rfl⟩
   subst eu
   have HN:Hid (∀ wx,wx=wr->Calls Tryz.prog 139 #[.slice (some ⟨g,0,none⟩) n pc] wx (NwR wx n L H)):=fun wx e=>by
    subst e
    exact specSysNew_any (some ⟨g,0,none⟩) n pc (fun i=>adOf (u i)) L (fun i=>cpOf (u i)) H _ (by omega) (fun i hi=>by have:=h31 i hi;omega) hrow fun i hi=>by
     obtain ⟨b,cap,e2,hb,hI,-⟩:=atI (hl.own i hi) (hl.nn nzI i hi)
     rw [e2]
     exact srcI hb hI
   have hblk:wr.heap[w.heap.size]? = W2.heap[w.heap.size]?:=hgr.block _ (by rw [C0.out.2.2.2.2];omega) (by simp;omega)
   have B5:Hid (w.grownBy wr (some c)/\Cur wr W0 c a0 len cap/\BoxC wr w.heap.size (.slice none 0 0) (.slice none 0 0) (.slice none 0 0) (.slice none 0 0)/\(∀ j,wr.frozen? ⟨w.heap.size,j,none⟩=false)/\w.heap.size<wr.heap.size):=by
    obtain ⟨h0,h1,h2,h3⟩:=C0.out.2.2.1
    exact ⟨C0.out.2.1.trans hgr,hcu,⟨(zH hblk).trans h0,(zH hblk).trans h1,(zH hblk).trans h2,(zH hblk).trans h3⟩,fun j=>(zI hblk).trans (C0.out.2.2.2.1 j),by have:=hgr.size;have:=C0.out.2.2.2.2;omega⟩
   clear hl h31 hcu hgr hnn hrow hblk C0 HD hkn
   go_wp2_with fail
   refine (HN.out _ rfl).mono ?_
   rintro e w6 h6
   obtain ⟨pa,sa,wa,ha,pc6,sc,wc,hc6,Y,bb,rfl,hY,o6,q6⟩:=h6.form
   have K6:Hid (DK w w6 W0 c a0 len cap wr.heap.size w6.heap.size Y (sysV pa Y.pn pc6 sa Y.sn sc wa Y.wn wc ha Y.hn hc6)):=⟨B5.out.2.1.kept (zZ q6) (by simp) (fun k hk=>by cases hk),o6,B5.out.1.andThen (zZ q6) (fun j hj=>by cases hj),by have:=B5.out.2.2.2.2;omega⟩
   have B6:Hid (BoxC w6 w.heap.size (.slice none 0 0) (.slice none 0 0) (.slice none 0 0) (.slice none 0 0)/\(∀ j,w6.frozen? ⟨w.heap.size,j,none⟩=false)/\w.heap.size<wr.heap.size/\wr.heap.size<=w6.heap.size):=⟨B5.out.2.2.1.below q6,fun j=>((bcell q6).2 _ j B5.out.2.2.2.2).trans (B5.out.2.2.2.1 j),B5.out.2.2.2.2,q6.size⟩
   have HG:Hid Y.Good:=hY
   clear h6 hY o6 q6 B5 HN
   obtain ⟨⟨r0,r1,r2,r3⟩,rf,lw,lr⟩:=B6.out
   have l6:w.heap.size<w6.heap.size:=by omega
   have hcN:c≠w.heap.size:=by omega
   have hcM:c≠w6.heap.size:=by omega
   go_wp2
   refine bodyPost_ret (v:=sysV pa Y.pn pc6 sa Y.sn sc wa Y.wn wc ha Y.hn hc6) (by simp [results,Tryz.results107,go_sem,r0,r1,r2,r3,l6]) rfl ⟨pa,sa,wa,ha,pc6,sc,wc,hc6,Y,rfl,HG.out,DK.weak (B:=wr.heap.size) (T:=w6.heap.size) ?_ (by omega) hcl (by simp)⟩
   repeat (first | exact K6.out | (refine DK.alloc ?_ _)|(refine DK.set ?_ (by first | omega | simp) (by first | omega | simp) (by first | omega | simp) (by omega) _ _))
theorem rdQ_four (y:Sy) (p:Int):(rdQ y p).length<=4:=by
 unfold rdQ
 split
 ·rename_i h
  have h4:=(Sy.ok_of h.1).cn.1
  refine zP (rdL_le _ _) ?_
  unfold chS
  split <;> omega
 ·simp
structure DP (w wr:World) (x:SysIn):Prop where
 bx:BoxC wr w.heap.size (.slice x.pa x.pn x.pc) (.slice x.sa x.sn x.sc) (.slice x.wa x.wn x.wc) (.slice x.ha x.hn x.hc)
 p0:wr.cell? ⟨w.heap.size+1,0,none⟩=some (.int .i64 0)
 p1:wr.cell? ⟨w.heap.size+1,1,none⟩=some (.int .i64 0)
 fr:∀ j,wr.frozen? ⟨w.heap.size+1,j,none⟩=false
theorem DP.blk {w wr w':World} {x:SysIn} (h:DP w wr x) (h0:w'.heap[w.heap.size]? = wr.heap[w.heap.size]?) (h1:w'.heap[w.heap.size+1]? = wr.heap[w.heap.size+1]?):DP w w' x:=by
 obtain ⟨⟨b0,b1,b2,b3⟩,p0,p1,fr⟩:=h
 exact ⟨⟨(zH h0).trans b0,(zH h0).trans b1,(zH h0).trans b2,(zH h0).trans b3⟩,(zH h1).trans p0,(zH h1).trans p1,fun j=>(zI h1).trans (fr j)⟩
theorem DP.lt {w wr:World} {x:SysIn} (h:DP w wr x):w.heap.size+1<wr.heap.size:=zJ wr _ h.p0
theorem DP.below {w wr w':World} {x:SysIn} (h:DP w wr x) (hb:Below wr.heap.size wr w'):DP w w' x:=h.blk (hb.block _ (by have:=h.lt;omega)) (hb.block _ h.lt)
theorem DP.draw {w wr w':World} {x:SysIn} {c:Nat} (h:DP w wr x) (hg:wr.grownBy w' (some c)) (hc:c<w.heap.size):DP w w' x:=h.blk (hg.block _ (by have:=h.lt;omega) (by simp;omega)) (hg.block _ h.lt (by simp;omega))
theorem l6DrawPick_any (W0 c len cap B T:Nat) (a0:Option Addr) (y:Sy) (v:Value) (w:World) (hy:y.Sm) (hc:Cur w W0 c a0 len cap) (hs:SysT w B T y v) (hT:T<=w.heap.size) (hB:c<B):
  Calls Tryz.prog 108 #[.pointer (some ⟨c,0,none⟩),v] w fun e w'=>∃ p q:Int,e=.returned (.agg #[.int .i64 p,.int .i64 q])/\DK w w' W0 c a0 len cap B T y v:=by
 obtain ⟨x,rfl,rfl,hX⟩:=hs.x
 have hcl:c<w.heap.size:=hc.lt
 have hcg:W0<=c:=hc.ge
 have hpn:x.pn<=16:=hy.n.1
 have hpn':(x.pn:Int)<=16:=by omega
 have HL:Hid x.Len:=hy.inLen
 have HK:Hid ((∀ w',Abv c w w'->SysG w' x)/\∀ i,i<x.hn->x.hL i<=x.hC i):=⟨fun w' h=>hX.abv hB h,hX.cap⟩
 have K0:Hid (DK w ((w.alloc (oQ4 x.pa x.pn x.pc x.sa x.sn x.sc x.wa x.wn x.wc x.ha x.hn x.hc)).alloc (.cells #[.int .i64 0,.int .i64 0] 145)) W0 c a0 len cap B T x.y x.v/\DP w ((w.alloc (oQ4 x.pa x.pn x.pc x.sa x.sn x.sc x.wa x.wn x.wc x.ha x.hn x.hc)).alloc (.cells #[.int .i64 0,.int .i64 0] 145)) x/\Abv c w ((w.alloc (oQ4 x.pa x.pn x.pc x.sa x.sn x.sc x.wa x.wn x.wc x.ha x.hn x.hc)).alloc (.cells #[.int .i64 0,.int .i64 0] 145))):=by
  have k0:DK w w W0 c a0 len cap B T x.y x.v:=⟨hc,hs,World.grownBy.refl _ _,hB⟩
  refine ⟨(k0.alloc _).alloc _,⟨(BoxC.new w _ _ _ _ _).below (zQ _ _),zW _ _ _ 0 (by simp),zW _ _ _ 1 (by simp),fun j=>yB _ _ _ _ (by simp)⟩,(Abv.below (zQ _ _)).trans (Abv.below (zQ _ _))⟩
 clear hc hs hX hy
 go_enter Tryz.func108,Tryz.ntmps108
 go_upto_region 1 with fail
 generalize (w.alloc (oQ4 x.pa x.pn x.pc x.sa x.sn x.sc x.wa x.wn x.wc x.ha x.hn x.hc)).alloc (.cells #[.int .i64 0,.int .i64 0] 145)=W2 at *
 obtain ⟨b0,-,-,-⟩:=K0.out.2.1.bx
 go_wp2_with fail
 refine (l1Max_any _ _ _).mono ?_
 rintro e w1 ⟨n,rfl,⟨n1,n2,n3⟩,rfl⟩
 clear b0
 have hn16:n<=16:=by omega
 go_wp2_with fail
 refine (zY W0 c len cap a0 n w1 K0.out.1.cu n2 (by omega)).mono ?_
 rintro e w2 ⟨p,rfl,⟨p0,p1⟩,hc2,hg2⟩
 have K2:Hid (DK w w2 W0 c a0 len cap B T x.y x.v/\DP w w2 x/\Abv c w w2):=⟨K0.out.1.draw hc2 hg2,K0.out.2.1.draw hg2 hcl,K0.out.2.2.trans (Abv.grown hg2)⟩
 clear hc2 hg2 K0
 obtain ⟨b0,b1,b2,b3⟩:=K2.out.2.1.bx
 go_wp2_with fail
 refine (specReady_any x p w2 (HK.out.1 w2 K2.out.2.2) HL.out HK.out.2).mono ?_
 rintro e w3 ⟨u3,rfl,o3,q3⟩
 obtain ⟨ra,rc,rfl,rsl⟩:=o3.form
 have hr4:=rdQ_four x.y p
 generalize rdQ x.y p=R at *
 have hr4':(R.length:Int)<=4:=by omega
 have K3:Hid (DK w w3 W0 c a0 len cap B T x.y x.v/\DP w w3 x/\OwnI w3 w2.heap.size (.slice ra R.length rc) R):=⟨K2.out.1.below q3,K2.out.2.1.below q3,o3⟩
 have LT2:Hid (w.heap.size+1<w2.heap.size):=K2.out.2.1.lt
 clear b0 b1 b2 b3 o3 q3 K2 rsl
 by_cases h0:R.length=0
 ·have h0':¬ (0:Int)<(R.length:Int):=by omega
  go_wp2_with fail
  refine (zY W0 c len cap a0 (n+1) w3 K3.out.1.cu (by omega) (by omega)).mono ?_
  rintro e w4 ⟨q,rfl,⟨q0,q1⟩,hc4,hg4⟩
  have K4:Hid (DK w w4 W0 c a0 len cap B T x.y x.v/\DP w w4 x):=⟨K3.out.1.draw hc4 hg4,K3.out.2.1.draw hg4 hcl⟩
  clear hc4 hg4 K3
  obtain ⟨-,z0,z1,zf⟩:=K4.out.2
  go_wp2
  refine bodyPost_ret (v:=.agg #[.int .i64 p,.int .i64 q]) (by simp [results,Tryz.results108,go_sem,z0,z1]) rfl ⟨p,q,rfl,?_⟩
  exact (K4.out.1.set (by omega) (by omega) (by omega) (by omega) _ _).set (by omega) (by omega) (by omega) (by omega) _ _
 ·have h0':(0:Int)<(R.length:Int):=by omega
  go_wp2_with fail
  refine (l1Once_any W0 c len cap a0 9 w3 K3.out.1.cu (by omega) (by omega)).mono ?_
  rintro e w4 ⟨t,rfl,hc4,hg4⟩
  have K4:Hid (DK w w4 W0 c a0 len cap B T x.y x.v/\DP w w4 x/\OwnI w4 w2.heap.size (.slice ra R.length rc) R):=⟨K3.out.1.draw hc4 hg4,K3.out.2.1.draw hg4 hcl,K3.out.2.2.ofBlock fun k hk=>hg4.block k (K3.out.2.2.lt k hk).2 (by have:=(K3.out.2.2.lt k hk).1;have:=LT2.out;simp;omega)⟩
  clear hc4 hg4 K3
  rcases t with _ | _
  ·go_wp2_with fail
   refine (zY W0 c len cap a0 (R.length:Nat) w4 K4.out.1.cu (by omega) (by omega)).mono ?_
   rintro e w5 ⟨j,rfl,⟨j0,j1⟩,hc5,hg5⟩
   have K5:Hid (DK w w5 W0 c a0 len cap B T x.y x.v/\DP w w5 x/\OwnI w5 w2.heap.size (.slice ra R.length rc) R):=⟨K4.out.1.draw hc5 hg5,K4.out.2.1.draw hg5 hcl,K4.out.2.2.ofBlock fun k hk=>hg5.block k (K4.out.2.2.lt k hk).2 (by have:=(K4.out.2.2.lt k hk).1;have:=LT2.out;simp;omega)⟩
   clear hc5 hg5 K4
   obtain ⟨i,rfl⟩:∃ i:Nat,j=i:=⟨j.toNat,by omega⟩
   obtain ⟨gb,go,rfl,-,gc⟩:=K5.out.2.2.slOf.at (k:=i) (by omega)
   obtain ⟨-,z0,z1,zf⟩:=K5.out.2.1
   generalize zi R i=q at *
   go_wp2
   refine bodyPost_ret (v:=.agg #[.int .i64 p,.int .i64 q]) (by simp [results,Tryz.results108,go_sem,z0,z1]) rfl ⟨p,q,rfl,?_⟩
   exact (K5.out.1.set (by omega) (by omega) (by omega) (by omega) _ _).set (by omega) (by omega) (by omega) (by omega) _ _
  ·go_wp2_with fail
   refine (zY W0 c len cap a0 (n+1) w4 K4.out.1.cu (by omega) (by omega)).mono ?_
   rintro e w5 ⟨q,rfl,⟨q0,q1⟩,hc5,hg5⟩
   have K5:Hid (DK w w5 W0 c a0 len cap B T x.y x.v/\DP w w5 x):=⟨K4.out.1.draw hc5 hg5,K4.out.2.1.draw hg5 hcl⟩
   clear hc5 hg5 K4
   obtain ⟨-,z0,z1,zf⟩:=K5.out.2
   go_wp2
   refine bodyPost_ret (v:=.agg #[.int .i64 p,.int .i64 q]) (by simp [results,Tryz.results108,go_sem,z0,z1]) rfl ⟨p,q,rfl,?_⟩
   exact (K5.out.1.set (by omega) (by omega) (by omega) (by omega) _ _).set (by omega) (by omega) (by omega) (by omega) _ _
theorem kndP:Kind 101 145 2 16:=by
 refine ⟨Tryz.underlying101,?_,by omega,by omega⟩
 have hinfo:(Tryz.prog.info? 145).map (fun i=>(i.zero,i.size,i.bytes))=some (some (.agg #[.int .i64 0,.int .i64 0]),2,16):=by kernel_rfl
 cases hi:Tryz.prog.info? 145 with
 | none=>rw [hi] at hinfo;cases hinfo
 | some i=>
  rw [hi] at hinfo
  simp only [Option.map_some,Option.some.injEq,Prod.mk.injEq] at hinfo
  obtain ⟨hz,hs,hb⟩:=hinfo
  exact ⟨i,_,rfl,hz,hs,hb,rfl⟩
structure Bx (w:World) (N:Nat) (v0 v1 v2 v3:Value):Prop where
 bx:BoxC w N v0 v1 v2 v3
 fr:∀ j,w.frozen? ⟨N,j,none⟩=false
theorem Bx.blk {w w':World} {N:Nat} {v0 v1 v2 v3:Value} (h:Bx w N v0 v1 v2 v3) (hb:w'.heap[N]? = w.heap[N]?):Bx w' N v0 v1 v2 v3:=by
 obtain ⟨⟨h0,h1,h2,h3⟩,hf⟩:=h
 exact ⟨⟨(zH hb).trans h0,(zH hb).trans h1,(zH hb).trans h2,(zH hb).trans h3⟩,fun j=>(zI hb).trans (hf j)⟩
theorem Bx.lt {w:World} {N:Nat} {v0 v1 v2 v3:Value} (h:Bx w N v0 v1 v2 v3):N<w.heap.size:=zJ w _ h.bx.1
theorem Bx.new (w:World) (v0 v1 v2 v3:Value) (t:TypeId):Bx (w.alloc (.cells #[v0,v1,v2,v3] t)) w.heap.size v0 v1 v2 v3:=⟨BoxC.new w _ _ _ _ _,fun _j=>yB _ _ _ _ rfl⟩
theorem Bx.below {w w':World} {N:Nat} {v0 v1 v2 v3:Value} (h:Bx w N v0 v1 v2 v3) (hb:Below w.heap.size w w'):Bx w' N v0 v1 v2 v3:=h.blk (hb.block N h.lt)
theorem Bx.grown {w w':World} {N:Nat} {v0 v1 v2 v3:Value} {r:Option Nat} (h:Bx w N v0 v1 v2 v3) (hg:w.grownBy w' r) (hr:r≠some N):Bx w' N v0 v1 v2 v3:=h.blk (hg.block N h.lt (fun e=>hr e.symm))
theorem Bx.set {w:World} {N M j:Nat} {v0 v1 v2 v3 u:Value} (h:Bx w N v0 v1 v2 v3) (hM:N≠M):Bx (w.setCell ⟨M,j,none⟩ u) N v0 v1 v2 v3:=h.blk (zO _ _ _ _ hM)
theorem Bx.put {w:World} {N:Nat} {v0 v1 v2 v3:Value} (h:Bx w N v0 v1 v2 v3) (u0 u1 u2 u3:Value):Bx ((((w.setCell ⟨N,0,none⟩ u0).setCell ⟨N,1,none⟩ u1).setCell ⟨N,2,none⟩ u2).setCell ⟨N,3,none⟩ u3) N u0 u1 u2 u3:=by
 obtain ⟨⟨h0,h1,h2,h3⟩,hf⟩:=h
 exact ⟨⟨by go_cell,by go_cell,by go_cell,by go_cell⟩,fun j=>by simpa using hf j⟩
theorem own_at {N n c k:Nat} (h:(Value.slice (some ⟨N,0,none⟩) n c).ownBlock=some k):N=k:=by
 cases h
 rfl
theorem own_new2 (w:World) {N:Nat} (hN:N=w.heap.size):(w.alloc (.cells #[] 145)).ownsRow 0 145 2 (.slice (some ⟨N,0,none⟩) 0 0) 0 []:=by
 subst hN
 exact World.ownsRow_made (base:=0) (e:=145) (size:=2) w #[] 0 (Nat.zero_le _) (by unfold maxLen;omega) (by simp)
theorem Bx.newN (w:World) {N:Nat} (hN:N=w.heap.size) (v0 v1 v2 v3:Value) (t:TypeId):Bx (w.alloc (.cells #[v0,v1,v2,v3] t)) N v0 v1 v2 v3:=by
 subst hN
 exact Bx.new w v0 v1 v2 v3 t
structure DR (w wr:World) (W0 c:Nat) (a0:Option Addr) (len cap M:Nat) (s0 s1 s2 s3 v9:Value) (k:Nat):Prop where
 ex:∃ (B T:Nat) (y:Sy) (pa sa wa ha:Option Addr) (pc sc wc hc:Nat),DK w wr W0 c a0 len cap B T y (sysV pa y.pn pc sa y.sn sc wa y.wn wc ha y.hn hc)/\y.Good/\Bx wr (M+1) (.slice pa y.pn pc) (.slice sa y.sn sc) (.slice wa y.wn wc) (.slice ha y.hn hc)/\(M+1<B\/T<=M)/\T<=wr.heap.size/\w.heap.size+2<=B/\∀ g,v9.ownBlock=some g->g<B\/T<=g
 b4:Bx wr w.heap.size (.slice none 0 0) (.slice none 0 0) (.slice none 0 0) (.slice none 0 0)
 b6:Bx wr (w.heap.size+1) (.slice none 0 0) (.slice none 0 0) (.slice none 0 0) (.slice none 0 0)
 b7:Bx wr M s0 s1 s2 s3
 li:∃ m xs,m<=k/\wr.ownsRow 0 145 2 v9 m xs
 lo:∀ g,v9.ownBlock=some g->M+1<g
 le:w.heap.size+1<M/\c<w.heap.size/\W0<=c
section
variable {w wr w':World} {W0 c len cap M k:Nat} {a0:Option Addr} {s0 s1 s2 s3 v9:Value}
theorem DR.keep (h:DR w wr W0 c a0 len cap M s0 s1 s2 s3 v9 k) (hc:Cur w' W0 c a0 len cap) (hs:wr.heap.size<=w'.heap.size) (hb:∀ b,b≠c->b<wr.heap.size->w'.heap[b]? = wr.heap[b]?) (hg:wr.grownBy w' (some c)):DR w w' W0 c a0 len cap M s0 s1 s2 s3 v9 k:=by
 obtain ⟨⟨B,T,y,pa,sa,wa,ha,pc,sc,wc,hh,dk,gd,b8,h1,h2,h3,h4⟩,b4,b6,b7,⟨m,xs,hm,hl⟩,lo,le⟩:=h
 refine ⟨⟨B,T,y,pa,sa,wa,ha,pc,sc,wc,hh,dk.draw hc hg,gd,b8.blk (hb _ (by omega) b8.lt),h1,by omega,h3,h4⟩,b4.blk (hb _ (by omega) b4.lt),b6.blk (hb _ (by omega) b6.lt),b7.blk (hb _ (by omega) b7.lt),⟨m,xs,hm,ownsRow_blkL hl fun g hg=>hb g (by have:=lo g hg;omega) (hl.lt g hg).2⟩,lo,le⟩
theorem DR.draw (h:DR w wr W0 c a0 len cap M s0 s1 s2 s3 v9 k) (hc:Cur w' W0 c a0 len cap) (hg:wr.grownBy w' (some c)):DR w w' W0 c a0 len cap M s0 s1 s2 s3 v9 k:=h.keep hc hg.size (fun b hb hl=>hg.block b hl (by simpa using hb)) hg
theorem DR.cur (h:DR w wr W0 c a0 len cap M s0 s1 s2 s3 v9 k):Cur wr W0 c a0 len cap:=by
 obtain ⟨⟨B,T,y,pa,sa,wa,ha,pc,sc,wc,hh,dk,-⟩,-⟩:=h
 exact dk.cu
theorem DR.below (h:DR w wr W0 c a0 len cap M s0 s1 s2 s3 v9 k) (hb:Below wr.heap.size wr w'):DR w w' W0 c a0 len cap M s0 s1 s2 s3 v9 k:=
 h.keep (h.cur.kept (zZ hb) (by simp) (fun k hk=>by cases hk)) hb.size (fun b _ hl=>hb.block b hl) ⟨hb.os,hb.tape,hb.output,hb.size,fun k hk _=>hb.block k hk⟩
theorem DR.app {w1:World} {v':Value} {m:Nat} {xs:List Value} (h:DR w wr W0 c a0 len cap M s0 s1 s2 s3 v9 k) (ho:w1.ownsRow 0 145 2 v' m xs) (hm:m<=k+1) (g:wr.grownBy w1 v9.ownBlock) (hv:∀ j,v'.ownBlock=some j->v9.ownBlock=some j\/wr.heap.size<=j):DR w w1 W0 c a0 len cap M s0 s1 s2 s3 v' (k+1):=by
 obtain ⟨⟨B,T,y,pa,sa,wa,ha,pc,sc,wc,hh,dk,gd,b8,h1,h2,h3,h4⟩,b4,b6,b7,-,lo,le⟩:=h
 have hne:∀ b,b<=M+1->v9.ownBlock≠some b:=fun b hb e=>by have:=lo b e;omega
 have l8:=b8.lt
 have hT1:=g.size
 refine ⟨⟨B,T,y,pa,sa,wa,ha,pc,sc,wc,hh,⟨dk.cu.kept g (fun e=>hne c (by omega) e.symm) (fun j hj=>by have:=lo j hj;omega),dk.sy.keep fun b hB hT hl=>g.block b hl (fun e=>by have:=h4 b e.symm;omega),dk.gr.andThen g (fun j hj=>.inl (by have:=lo j hj;omega)),dk.lt⟩,gd,b8.grown g (hne _ (by omega)),h1,by omega,h3,fun j hj=>(hv j hj).elim (h4 j) fun h=>.inr (by omega)⟩,b4.grown g (hne _ (by omega)),b6.grown g (hne _ (by omega)),b7.grown g (hne _ (by omega)),⟨m,xs,hm,ho⟩,fun j hj=>(hv j hj).elim (lo j) fun h=>by omega,le⟩
end
theorem DK.drew {w wr:World} {W0 c:Nat} {a0:Option Addr} {len cap B T:Nat} {y:Sy} {v:Value} (h:DK w wr W0 c a0 len cap B T y v):DK w wr.drew W0 c a0 len cap B T y v:=⟨h.cu.drew,h.sy.keep fun _ _ _ _=>rfl,⟨h.gr.os,h.gr.tape,h.gr.output,h.gr.size,h.gr.block⟩,h.lt⟩
theorem l6DrawRun_any (W0 c len cap:Nat) (a0:Option Addr) (most:Int) (w:World) (hc:Cur w W0 c a0 len cap) (m0:0<=most) (m1:most<=200):
  Calls Tryz.prog 64 #[.pointer (some ⟨c,0,none⟩),.int .i64 most] w fun e w'=>∃ (B T:Nat) (y:Sy) (qa qb qc qd:Option Addr) (n0 n1 n2 n3 e0 e1 e2 e3:Nat) (v1:Value) (pa sa wa ha:Option Addr) (pc sc wc hc:Nat),e=.returned (.tuple #[.agg #[.slice qa n0 e0,.slice qb n1 e1,.slice qc n2 e2,.slice qd n3 e3],v1,sysV pa y.pn pc sa y.sn sc wa y.wn wc ha y.hn hc])/\y.Good/\DK w w' W0 c a0 len cap B T y (sysV pa y.pn pc sa y.sn sc wa y.wn wc ha y.hn hc)/\w.heap.size<=B/\T<=w'.heap.size:=by
 have hcl:c<w.heap.size:=hc.lt
 have hcg:W0<=c:=hc.ge
 have C0:Hid (Cur ((w.alloc (zQ3)).alloc (zQ3)) W0 c a0 len cap/\w.grownBy ((w.alloc (zQ3)).alloc (zQ3)) (some c)/\Bx ((w.alloc (zQ3)).alloc (zQ3)) w.heap.size (.slice none 0 0) (.slice none 0 0) (.slice none 0 0) (.slice none 0 0)/\Bx ((w.alloc (zQ3)).alloc (zQ3)) (w.heap.size+1) (.slice none 0 0) (.slice none 0 0) (.slice none 0 0) (.slice none 0 0)/\((w.alloc (zQ3)).alloc (zQ3)).heap.size=w.heap.size+2):=⟨(hc.alloc _).alloc _,(World.grownBy_alloc _ _ _).trans (World.grownBy_alloc _ _ _),(Bx.new w _ _ _ _ _).below (zQ _ _),Bx.newN _ (by simp) _ _ _ _ _,by simp⟩
 clear hc
 go_enter Tryz.func64,Tryz.ntmps64
 go_wp2_with fail
 generalize (w.alloc (zQ3)).alloc (zQ3)=W2 at *
 refine (l6DrawNew_any W0 c len cap a0 W2 C0.out.1).mono ?_
 rintro e w1 ⟨pa,sa,wa,ha,pc,sc,wc,hh,y,rfl,hy,k1⟩
 have D4:Hid (DR w (((w1.alloc (oQ4 pa y.pn pc sa y.sn sc wa y.wn wc ha y.hn hh)).alloc (oQ4 pa y.pn pc sa y.sn sc wa y.wn wc ha y.hn hh)).alloc (.cells #[] 145)) W0 c a0 len cap w1.heap.size (.slice pa y.pn pc) (.slice sa y.sn sc) (.slice wa y.wn wc) (.slice ha y.hn hh) (.slice (some ⟨w1.heap.size+2,0,none⟩) 0 0) 0):=by
  have hs2:=C0.out.2.2.2.2
  have hs1:=k1.gr.size
  have k2:DK w w1 W0 c a0 len cap W2.heap.size w1.heap.size y (sysV pa y.pn pc sa y.sn sc wa y.wn wc ha y.hn hh):=⟨k1.cu,k1.sy,C0.out.2.1.trans k1.gr,k1.lt⟩
  refine ⟨⟨_,_,y,pa,sa,wa,ha,pc,sc,wc,hh,((k2.alloc _).alloc _).alloc _,hy,(Bx.newN _ (by simp) _ _ _ _ _).below (zQ _ _),.inr (Nat.le_refl _),by simp;omega,by omega,fun g hg=>?_⟩,(((C0.out.2.2.1.grown k1.gr (by simp;omega)).below (zQ _ _)).below (zQ _ _)).below (zQ _ _),(((C0.out.2.2.2.1.grown k1.gr (by simp;omega)).below (zQ _ _)).below (zQ _ _)).below (zQ _ _),((Bx.new _ _ _ _ _ _).below (zQ _ _)).below (zQ _ _),⟨0,[],Nat.le_refl _,?_⟩,fun g hg=>?_,by omega,hcl,hcg⟩
  ·have:=own_at hg
   omega
  ·exact own_new2 _ (by simp)
  ·have:=own_at hg
   omega
 clear k1 hy C0
 go_wp2_with fail
 generalize ((w1.alloc (oQ4 pa y.pn pc sa y.sn sc wa y.wn wc ha y.hn hh)).alloc (oQ4 pa y.pn pc sa y.sn sc wa y.wn wc ha y.hn hh)).alloc (.cells #[] 145)=W4 at *
 generalize w1.heap.size=M at *
 generalize y.pn=sn0 at *
 generalize y.sn=sn1 at *
 generalize y.wn=sn2 at *
 generalize y.hn=sn3 at *
 refine (zY W0 c len cap a0 (most+1) W4 D4.out.cur (by omega) (by omega)).mono ?_
 rintro e w5 ⟨n,rfl,⟨n0,n1⟩,hc5,hg5⟩
 have D5:Hid (DR w w5 W0 c a0 len cap M (.slice pa sn0 pc) (.slice sa sn1 sc) (.slice wa sn2 wc) (.slice ha sn3 hh) (.slice (some ⟨M+2,0,none⟩) 0 0) 0):=D4.out.draw hc5 hg5
 clear hc5 hg5 D4
 obtain ⟨nn,rfl⟩:∃ nn:Nat,n=nn:=⟨n.toNat,by omega⟩
 have hnn:(nn:Int)<=200:=by omega
 clear n0 n1
 go_wp2_with fail
 go_loopw [9,11] (fun v i wr=>∃ k:Nat,k<=nn/\i=.int .i64 k/\Hid (DR w wr W0 c a0 len cap M (.slice pa sn0 pc) (.slice sa sn1 sc) (.slice wa sn2 wc) (.slice ha sn3 hh) v k)) (fun _ i _=>nn - (intOf i).toNat)
 case atStart=>exact ⟨0,Nat.zero_le _,rfl,D5.out⟩
 case round=>
  clear D5
  obtain ⟨k,hk,rfl,HR⟩:=hrel
  obtain ⟨B,T,y',pa',sa',wa',ha',pc',sc',wc',hh',dk,gd,b8,h1,h2,h3,h4⟩:=HR.out.ex
  have DKr:Hid (DK w wr W0 c a0 len cap B T y' (sysV pa' y'.pn pc' sa' y'.sn sc' wa' y'.wn wc' ha' y'.hn hh')/\y'.Good/\T<=wr.heap.size/\w.heap.size+2<=B):=⟨dk,gd,h2,h3⟩
  by_cases hlt:k<nn
  ·have hlt':(k:Int)<(nn:Int):=by omega
   obtain ⟨r0,r1,r2,r3⟩:=b8.bx
   clear dk gd b8 h1 h2 h3 h4
   go_wp2_with fail
   refine (l6DrawPick_any W0 c len cap B T a0 y' _ wr DKr.out.2.1.sm DKr.out.1.cu DKr.out.1.sy DKr.out.2.2.1 DKr.out.1.lt).mono ?_
   rintro e w2 ⟨p,q,rfl,k2⟩
   have E2:Hid (DR w (w2.alloc (.cells #[.int .i64 p,.int .i64 q] 145)) W0 c a0 len cap M (.slice pa sn0 pc) (.slice sa sn1 sc) (.slice wa sn2 wc) (.slice ha sn3 hh) u9 k):=(HR.out.draw k2.cu k2.gr).below (zQ _ _)
   have P2:Hid ((w2.alloc (.cells #[.int .i64 p,.int .i64 q] 145)).cell? ⟨w2.heap.size,0,none⟩=some (.int .i64 p)/\(w2.alloc (.cells #[.int .i64 p,.int .i64 q] 145)).cell? ⟨w2.heap.size,1,none⟩=some (.int .i64 q)):=⟨zW _ _ _ 0 rfl,zW _ _ _ 1 rfl⟩
   have L2:Hid (∀ g,u9.ownBlock=some g->g<w2.heap.size):=fun g hg=>by
    obtain ⟨m,xs,-,ho⟩:=(HR.out.draw k2.cu k2.gr).li
    exact (ho.lt g hg).2
   clear k2 r0 r1 r2 r3 HR DKr
   go_upto_region 9 with fail
   generalize hW3:w2.alloc (.cells #[.int .i64 p,.int .i64 q] 145)=w3 at *
   have hs3:w3.heap.size=w2.heap.size+1:=by rw [<- hW3];simp
   have HS3:Hid (w3.heap.size=w2.heap.size+1):=hs3
   clear hW3 hs3
   generalize w2.heap.size=N at *
   obtain ⟨c0,c1⟩:=P2.out
   obtain ⟨m,xs,hm,lo9⟩:=E2.out.li
   have LO:Hid (w3.ownsRow 0 145 2 u9 m xs/\m<=2000000/\m+1<=k+1):=⟨lo9,by omega,by omega⟩
   clear hm lo9
   go_upto_region 10 with (at_builtin;refine step_append_val kndP w3 rfl rfl _ _ rfl 0 u9 m xs rfl LO.out.1 #[.int .i64 p,.int .i64 q] rfl rfl (by intro u hu;simp at hu;rcases hu with rfl | rfl <;> rfl) LO.out.2.1 (Nat.zero_le _) ?_;intro v5 w5 o5 g5 q5 _;have E5:Hid (DR w w5 W0 c a0 len cap M (.slice pa sn0 pc) (.slice sa sn1 sc) (.slice wa sn2 wc) (.slice ha sn3 hh) v5 (k+1)/\w5.cell? ⟨N,0,none⟩=some (.int .i64 p)/\w5.cell? ⟨N,1,none⟩=some (.int .i64 q)):=⟨E2.out.app o5 LO.out.2.2 g5 q5,(zH (g5.block N (by rw [HS3.out];omega) (fun e=>by have:=L2.out N e.symm;omega))).trans P2.out.1,(zH (g5.block N (by rw [HS3.out];omega) (fun e=>by have:=L2.out N e.symm;omega))).trans P2.out.2⟩;clear o5 g5 q5)
   clear c0 c1 E2 P2 L2 LO
   obtain ⟨B,T,y',pa',sa',wa',ha',pc',sc',wc',hh',dk,gd,b8,h1,h2,h3,h4⟩:=E5.out.1.ex
   obtain ⟨r0,r1,r2,r3⟩:=b8.bx
   obtain ⟨c0,c1⟩:=E5.out.2
   have HStep:Hid (Calls Tryz.prog 109 #[sysV pa' y'.pn pc' sa' y'.sn sc' wa' y'.wn wc' ha' y'.hn hh',.int .i64 p,.int .i64 q] w5 fun e w'=>∃ v,e=.returned (.tuple #[v,.int .i64 (stC y' p q)])/\OwnSys true w' w5.heap.size (stY y' p q) v/\Below w5.heap.size w5 w'):=by
    obtain ⟨x,ev,ey,hX⟩:=dk.sy.x
    have:=specStep_any x p q w5 hX.self (Sy.Sm.inLen (by rw [ey];exact gd.sm)) hX.cap
    rw [<- ev,ey] at this
    exact this
   have HGood:Hid (stC y' p q=0->(stY y' p q).Good):=fun h=>gd.step h
   clear dk gd b8 h1 h2 h3 h4
   go_wp2_with fail
   refine HStep.out.mono ?_
   rintro e w6 ⟨v6,rfl,o6,q6⟩
   generalize hC:stC y' p q=C at *
   generalize hY:stY y' p q=Y at *
   obtain ⟨pa6,pc6,sa6,sc6,wa6,wc6,ha6,hc6,rfl⟩:=o6.form
   have E6:Hid (DR w w6 W0 c a0 len cap M (.slice pa sn0 pc) (.slice sa sn1 sc) (.slice wa sn2 wc) (.slice ha sn3 hh) v5 (k+1)):=E5.out.1.below q6
   have O6:Hid (SysT w6 w5.heap.size w6.heap.size Y (sysV pa6 Y.pn pc6 sa6 Y.sn sc6 wa6 Y.wn wc6 ha6 Y.hn hc6)/\w5.heap.size<=w6.heap.size/\M+1<w5.heap.size/\(∀ g,v5.ownBlock=some g->g<w5.heap.size)):=⟨o6.sysT,q6.size,by obtain ⟨B,T,y',pa',sa',wa',ha',pc',sc',wc',hh',-,-,b8,-⟩:=E5.out.1.ex;exact b8.lt,fun g hg=>by obtain ⟨m,xs,-,ho⟩:=E5.out.1.li;exact (ho.lt g hg).2⟩
   clear hC hY o6 q6 r0 r1 r2 r3 c0 c1 HStep E5
   by_cases hc0:C=0
   ·subst hc0
    have gY:=HGood.out rfl
    obtain ⟨B,T,y',pa',sa',wa',ha',pc',sc',wc',hh',dk,gd,b8,h1,h2,h3,h4⟩:=E6.out.ex
    obtain ⟨⟨r0,r1,r2,r3⟩,rf⟩:=b8
    have l8:M+1<w6.heap.size:=by have:=O6.out;omega
    have E7:Hid (DR w ((((w6.setCell ⟨M+1,0,none⟩ (.slice pa6 Y.pn pc6)).setCell ⟨M+1,1,none⟩ (.slice sa6 Y.sn sc6)).setCell ⟨M+1,2,none⟩ (.slice wa6 Y.wn wc6)).setCell ⟨M+1,3,none⟩ (.slice ha6 Y.hn hc6)) W0 c a0 len cap M (.slice pa sn0 pc) (.slice sa sn1 sc) (.slice wa sn2 wc) (.slice ha sn3 hh) v5 (k+1)):=by
     obtain ⟨o7,hs7,hs8,hg7⟩:=O6.out
     obtain ⟨-,b4,b6,b7,⟨m,xs,hm,hl⟩,lo,le⟩:=E6.out
     have k7:DK w w6 W0 c a0 len cap w5.heap.size w6.heap.size Y (sysV pa6 Y.pn pc6 sa6 Y.sn sc6 wa6 Y.wn wc6 ha6 Y.hn hc6):=⟨dk.cu,o7,dk.gr,by omega⟩
     refine ⟨⟨_,_,Y,pa6,sa6,wa6,ha6,pc6,sc6,wc6,hc6,(((k7.set (by omega) (by omega) (.inl hs8) (by omega) _ _).set (by omega) (by omega) (.inl hs8) (by omega) _ _).set (by omega) (by omega) (.inl hs8) (by omega) _ _).set (by omega) (by omega) (.inl hs8) (by omega) _ _,gY,(show Bx w6 (M+1) _ _ _ _ from ⟨⟨r0,r1,r2,r3⟩,rf⟩).put _ _ _ _,.inl hs8,by simp,by omega,fun g hg=>.inl (hg7 g hg)⟩,(((b4.set (by omega)).set (by omega)).set (by omega)).set (by omega),(((b6.set (by omega)).set (by omega)).set (by omega)).set (by omega),(((b7.set (by omega)).set (by omega)).set (by omega)).set (by omega),⟨m,xs,hm,?_⟩,lo,le⟩
     exact ownsRow_blkL hl fun g hg=>by
      have hne:g≠M+1:=by have:=lo g hg;omega
      exact (zO _ _ _ _ hne).trans ((zO _ _ _ _ hne).trans ((zO _ _ _ _ hne).trans (zO _ _ _ _ hne)))
    clear dk gd h1 h2 h3 h4 gY HGood E6
    go_wp2
    go_roundw
    case rel=>exact ⟨k+1,by omega,by go_num,E7.out.below (zQ _ _)⟩
    case measure=>simp [intOf];omega
   ·have tc:(C == 0)=false:=by simpa using hc0
    go_wp2
    go_roundw
    case rel=>exact ⟨k+1,by omega,by go_num,E6.out.below (zQ _ _)⟩
    case measure=>simp [intOf];omega
  ·obtain ⟨r0,r1,r2,r3⟩:=b8.bx
   obtain ⟨⟨x0,x1,x2,x3⟩,xf⟩:=HR.out.b4
   obtain ⟨⟨z0,z1,z2,z3⟩,zf⟩:=HR.out.b6
   obtain ⟨⟨d0,d1,d2,d3⟩,df⟩:=HR.out.b7
   have hM:=HR.out.le
   have n1:w.heap.size≠M:=by omega
   have n2:w.heap.size≠M+1:=by omega
   have n3:w.heap.size+1≠M:=by omega
   have n4:w.heap.size+1≠M+1:=by omega
   have l4:w.heap.size<wr.heap.size:=zJ wr _ x0
   have l6:w.heap.size+1<wr.heap.size:=zJ wr _ z0
   clear dk gd b8 h1 h2 h3 h4 HR
   go_wp2_with fail
   go_region
   all_goals
    go_wp2
    refine bodyPost_ret (v:=.tuple #[.agg #[.slice pa sn0 pc,.slice sa sn1 sc,.slice wa sn2 wc,.slice ha sn3 hh],u9,sysV pa' y'.pn pc' sa' y'.sn sc' wa' y'.wn wc' ha' y'.hn hh']) (by simp [results,Tryz.results64,go_sem,x0,x1,x2,x3,z0,z1,z2,z3]) rfl ⟨B,T,y',pa,sa,wa,ha,sn0,sn1,sn2,sn3,pc,sc,wc,hh,u9,pa',sa',wa',ha',pc',sc',wc',hh',rfl,DKr.out.2.1,?_,by have:=DKr.out.2.2.2;omega,?_⟩
    ·refine DK.drew ?_
     iterate 8 (refine DK.set ?_ (by omega) (by omega) (by have:=DKr.out;omega) (by omega) _ _)
     exact DKr.out.1
    ·have:=DKr.out.2.2.1
     simpa using this
theorem l1Long_any (a0:Option Addr) (len cap:Nat) (w:World) (hl:len<=1048576):Calls Tryz.prog 65 #[.slice a0 len cap,.int .i64 25,.int .i64 70] w fun e w'=>∃ z:Int,e=.returned (.int .i64 z)/\(25<=z/\z<=70)/\w'=w:=by
 have hl':(len:Int)<=1048576:=by omega
 have ed:Int.tdiv (len:Int) 4=((len / 4:Nat):Int):=(Int.ofNat_tdiv len 4).symm
 have hq:len / 4<=1048576:=by omega
 generalize len / 4=q at *
 have hq':(q:Int)<=1048576:=by omega
 by_cases t:(70:Int)<25+(q:Int)
 ·go_enter Tryz.func65,Tryz.ntmps65
  go_wp2
  go_ret
  exact ⟨_,rfl,by omega,rfl⟩
 ·go_enter Tryz.func65,Tryz.ntmps65
  go_wp2
  go_ret
  exact ⟨_,rfl,by omega,rfl⟩
theorem l6DrawRight_any (W0 c len cap:Nat) (a0:Option Addr) (w:World) (hc:Cur w W0 c a0 len cap):
  Calls Tryz.prog 26 #[.pointer (some ⟨c,0,none⟩),.slice a0 len cap] w fun e w'=>∃ (B T:Nat) (y:Sy) (pa sa wa ha:Option Addr) (pc sc wc hc:Nat),e=.returned (sysV pa y.pn pc sa y.sn sc wa y.wn wc ha y.hn hc)/\y.Good/\DK w w' W0 c a0 len cap B T y (sysV pa y.pn pc sa y.sn sc wa y.wn wc ha y.hn hc)/\w.heap.size<=B/\T<=w'.heap.size:=by
 have hcl:c<w.heap.size:=hc.lt
 have hcg:W0<=c:=hc.ge
 have hln:len<=1048576:=hc.ln
 have C0:Hid (Cur (w.alloc (zQ3)) W0 c a0 len cap/\w.grownBy (w.alloc (zQ3)) (some c)/\Bx (w.alloc (zQ3)) w.heap.size (.slice none 0 0) (.slice none 0 0) (.slice none 0 0) (.slice none 0 0)/\(w.alloc (zQ3)).heap.size=w.heap.size+1):=⟨hc.alloc _,World.grownBy_alloc _ _ _,Bx.new w _ _ _ _ _,by simp⟩
 clear hc
 go_enter Tryz.func26,Tryz.ntmps26
 go_wp2_with fail
 generalize w.alloc (zQ3)=W2 at *
 refine (l1Long_any a0 len cap W2 hln).mono ?_
 rintro e w1 ⟨z,rfl,⟨z0,z1⟩,rfl⟩
 go_wp2_with fail
 refine (l6DrawRun_any W0 c len cap a0 z w1 C0.out.1 (by omega) (by omega)).mono ?_
 rintro e w3 ⟨B,T,y,qa,qb,qc,qd,n0,n1,n2,n3,e0,e1,e2,e3,v1,pa,sa,wa,ha,pc,sc,wc,hh,rfl,gd,dk,hB,hT⟩
 have K3:Hid (DK w w3 W0 c a0 len cap B T y (sysV pa y.pn pc sa y.sn sc wa y.wn wc ha y.hn hh)/\y.Good/\w.heap.size<B/\T<=w3.heap.size/\Bx w3 w.heap.size (.slice none 0 0) (.slice none 0 0) (.slice none 0 0) (.slice none 0 0)):=⟨⟨dk.cu,dk.sy,C0.out.2.1.trans dk.gr,dk.lt⟩,gd,by have:=C0.out.2.2.2;omega,hT,C0.out.2.2.1.grown dk.gr (by simp;omega)⟩
 clear gd dk hB hT C0
 obtain ⟨⟨r0,r1,r2,r3⟩,rf⟩:=K3.out.2.2.2.2
 have l3:w.heap.size<w3.heap.size:=zJ w3 _ r0
 have hN:=K3.out.2.2.1
 have hTT:=K3.out.2.2.2.1
 go_wp2
 refine bodyPost_ret (v:=sysV pa y.pn pc sa y.sn sc wa y.wn wc ha y.hn hh) (by simp [results,Tryz.results26,go_sem,r0,r1,r2,r3,l3]) rfl ⟨B,T,y,pa,sa,wa,ha,pc,sc,wc,hh,rfl,K3.out.2.1,?_,by omega,by simp;omega⟩
 repeat (first | exact K3.out.1 | (refine DK.alloc ?_ _)|(refine DK.set ?_ (by first | omega | simp) (by first | omega | simp) (by first | omega | simp) (by omega) _ _))
theorem hasBlock_regs {p code:Int} {ra oa:Option Addr} {rn rc on oc k:Nat} (h:(Value.slice ra rn rc).ownBlock=some k):hasBlock (stV p ra rn rc oa on oc code) k:=⟨_,_,_,_,rfl,.inl h⟩
theorem LS.reg {w:World} {P:Nat->Prop} {v:Value} {n:Nat} {vs:Nat->Value} {S:Nat->S4} (o:LS w P v n vs S) {i:Nat} (hi:i<n) (h2:(S i).rs.length=4) (x:Int):∃ g cap rb rn rc oa oc,v=.slice (some ⟨g,0,none⟩) n cap/\w.cell? ⟨g,i*4+1,none⟩=some (.slice (some ⟨rb,0,none⟩) 4 rc)/\rn=4/\oa=0/\oc=0/\w.cell? ⟨rb,1,none⟩=some (.int .i64 (zi (S i).rs 1))/\w.frozen? ⟨rb,1,none⟩=false/\P g/\P rb/\rb<w.heap.size/\g<w.heap.size/\LS (w.setCell ⟨rb,1,none⟩ (.int .i64 x)) P v n vs (fun j=>if j=i then ⟨(S i).p,(S i).rs.set 1 x,(S i).os,(S i).c⟩ else S j):=by
 obtain ⟨g,cap,rfl,hPg,hg,⟨a1,c1,a2,c2,ev,-,hc1,-,-⟩,-⟩:=o.cell hi
 have hso:=o.own i hi
 rw [ev] at hso
 obtain ⟨o1,o2,hap⟩:=hso.parts
 obtain ⟨rb,cap1,er,hb1,hb2⟩:=o1.block (by rw [h2];omega)
 have hhas:hasBlock (vs i) rb:=by
  rw [ev]
  exact hasBlock_regs (by rw [er];rfl)
 rw [h2] at er
 simp only [Value.slice.injEq] at er
 obtain ⟨rfl,-,ec⟩:=er
 subst ec
 have o1':OwnI w 0 (.slice (some ⟨rb,0,none⟩) (S i).rs.length c1) (S i).rs:=o1
 have hcell:=o1'.cell (j:=1) (by rw [h2];omega)
 have hfr:=o1'.frozen 1
 rw [h2] at hc1
 refine ⟨g,cap,rb,4,c1,0,0,rfl,hc1,rfl,rfl,rfl,hcell,hfr,hPg,o.ob i hi rb hhas,hb2,hg,?_⟩
 have hkeep:∀ k,k≠rb->(w.setCell ⟨rb,1,none⟩ (.int .i64 x)).heap[k]? = w.heap[k]?:=fun k hk=>zO _ _ _ _ hk
 refine ⟨ownsRow_blkL o.row fun k hk=>hkeep k fun e=>o.ra i hi rb hhas (by rw [<- e];exact hk),fun j hj=>?_,o.rb,o.ob,o.ra,o.oa⟩
 by_cases ej:j=i
 ·subst ej
  simp only [if_true]
  have hs:=(o1'.set (n:=(S j).rs.length) rfl 1 x).1
  rw [ev]
  exact ⟨_,_,rfl,hs,o2.blk fun k hk=>hkeep k fun e=>hap rb rfl (by rw [<- e];exact hk),hap⟩
 ·simp only [if_neg ej]
  exact (o.own j hj).blk fun k hk=>hkeep k fun e=>o.oa i j hi hj (fun h=>ej h.symm) rb hhas (by rw [<- e];exact hk)
theorem src_own {w:World} {B n c sz:Nat} {e:TypeId} {a:Option Addr} {xs:List Value} (o:w.ownsRow B e sz (.slice a n c) n xs) (hl:xs.length=n*sz):Src w a xs:=by
 rcases o.2 with ⟨e1,h0⟩ | ⟨g,cap,cur,e1,hb,_⟩
 ·exact .inl (List.eq_nil_of_length_eq_zero (by rw [hl,h0,Nat.zero_mul]))
 ·simp only [Value.slice.injEq] at e1
  obtain ⟨rfl,-,rfl⟩:=e1
  refine .inr ⟨g,0,rfl,(o.lt g rfl).2,fun j u hj=>?_⟩
  have hlt:j<xs.length:=by
   rcases Nat.lt_or_ge j xs.length with h | h
   ·exact h
   ·rw [List.getElem?_eq_none h] at hj
    cases hj
  rw [Nat.zero_add,World.ownsRow.cellAt o j (by omega)]
  exact hj
theorem flat_cons (f:Nat->List Value):∀ n,flat f (n+1)=f 0 ++ flat (fun i=>f (i+1)) n
 | 0=>by simp [flat]
 | n+1=>by
  rw [flat,flat_cons f n,List.append_assoc]
  rfl
theorem fT_cons (H:Nat->I2) (x:I2) (n:Nat):fT (fun i=>if i=0 then x else H (i - 1)) (n+1)=cT x ++ fT H n:=by
 show flat (fun i=>cT (if i=0 then x else H (i - 1))) (n+1)=_
 rw [flat_cons]
 rfl
def SysIn.shift (x:SysIn) (A:Option Addr) (C:Nat):SysIn:={ x with wa:=A,wn:=x.wn - 1,wc:=C,wA:=fun i=>x.wA (i+1),wL:=fun i=>x.wL (i+1),wC:=fun i=>x.wC (i+1),wH:=fun i=>x.wH (i+1) }
theorem SysG.shift {w:World} {x:SysIn} (h:SysG w x) {g:Nat} {A:Option Addr} {C:Nat} (hw:x.wa=some ⟨g,0,none⟩) (hA:x.wn<=1\/A=some ⟨g,1,none⟩):SysG w (x.shift A C):=by
 refine ⟨h.p,h.pi,h.s,?_,fun i hi=>h.wi (i+1) (by have h1:i<x.wn - 1:=hi;omega),h.h,h.hi⟩
 show RowS w A (x.wn - 1) fun i=>.slice (x.wA (i+1)) (x.wL (i+1)) (x.wC (i+1))
 rcases hA with h1 | rfl
 ·exact .inl (by omega)
 ·rcases h.w with h0 | ⟨b,off,e,hlt,hc⟩
  ·exact .inl (by omega)
  ·rw [hw] at e
   simp only [Option.some.injEq,Addr.mk.injEq] at e
   obtain ⟨rfl,rfl,-⟩:=e
   refine .inr ⟨g,1,rfl,hlt,fun i hi=>?_⟩
   have:=hc (i+1) (by omega)
   rwa [show 0+(i+1)=1+i by omega] at this
theorem SysX.shift {w:World} {B T:Nat} {x:SysIn} (h:SysX w B T x) {g:Nat} {A:Option Addr} {C:Nat} (hw:x.wa=some ⟨g,0,none⟩) (hA:x.wn<=1\/A=some ⟨g,1,none⟩):SysX w B T (x.shift A C):=
 ⟨fun w' hb=>(h.g w' hb).shift hw hA,h.cap,⟨fun i hi=>h.nn.w (i+1) (by have h1:i<x.wn - 1:=hi;omega),h.nn.h⟩⟩
def Sy.setP (y:Sy) (i m:Nat) (H:Nat->I5):Sy:={ y with pL:=fun j=>if j=i then m else y.pL j,pH:=fun j=>if j=i then H else y.pH j }
theorem OwnS.putP {z:Bool} {w w1:World} {B:Nat} {c:Nat->Nat} {y:Sy} {vs vw vh:Value} {g cap:Nat} {up us uw uh:Nat->Value} (o:OwnS z w B c y (.slice (some ⟨g,0,none⟩) y.pn cap) vs vw vh up us uw uh) {i:Nat} (hi:i<y.pn) {u':Value} {m:Nat} {H':Nat->I5} (hB:B<=w.heap.size) (hs:w.heap.size<=w1.heap.size) (g1:∀ k,k<w.heap.size->(up i).ownBlock≠some k->w1.heap[k]? = w.heap[k]?)
  (hu:w1.ownsRow 0 84 5 u' m (fI H' m)) (hne:u'≠.slice none 0 0) (hb:∀ k,u'.ownBlock=some k->(up i).ownBlock=some k\/w.heap.size<=k):
  OwnS z (w1.setCell ⟨g,i,none⟩ u') B (rcol c w.heap.size 1) (y.setP i m H') (.slice (some ⟨g,0,none⟩) y.pn cap) vs vw vh (fun j=>if j=i then u' else up j) us uw uh:=by
 have hP:∀ q k,Cl B c q k->k<w.heap.size->Cl B (rcol c w.heap.size 1) q k:=fun q k h hl=>h.old hl
 have hg:Cl B c 1 g:=o.p.rb g rfl
 have hk:∀ q,q≠1->∀ k,Cl B (rcol c w.heap.size 1) q k->k<w.heap.size->(w1.setCell ⟨g,i,none⟩ u').heap[k]? = w.heap[k]?:=fun q hq k h hl=>by
  have e:c k=q:=(rcol_old hl).symm.trans h.2
  refine (zO _ _ _ _ fun ek=>hq ?_).trans (g1 k hl fun ek=>hq ?_)
  ·rw [<- e,ek];exact hg.2
  ·rw [<- e];exact (o.p.ob i hi k ek).2
 refine ⟨?_,(o.s.mono (hP 2)).keep (hk 2 (by decide)),(o.t.mono (hP 3)).keep (hk 3 (by decide)),(o.h.mono (hP 4)).keep (hk 4 (by decide))⟩
 have h:=LL.put o.p hi hs g1 hu (fun _=>hne) hb (P':=Cl B (rcol c w.heap.size 1) 1) (hP 1) fun k h _=>⟨zP hB h,rcol_new h⟩
 have e:(fun j=>if j=i then fI H' m else fI (y.pH j) (y.pL j))=fun j=>fI ((y.setP i m H').pH j) ((y.setP i m H').pL j):=funext fun j=>by
  by_cases q:j=i
  ·simp [Sy.setP,q]
  ·simp [Sy.setP,q]
 rw [e] at h
 exact h
def World.cut (w:World) (n:Nat):World:={ w with heap:=w.heap.extract 0 n }
theorem cut_size (w:World) {n:Nat} (h:n<=w.heap.size):(World.cut w n).heap.size=n:=by simp [World.cut];omega
theorem cut_block (w:World) {n k:Nat} (h:n<=w.heap.size) (hk:k<n):(World.cut w n).heap[k]? = w.heap[k]?:=by
 simp only [World.cut]
 rw [Array.getElem?_extract]
 simp
 omega
def DrwS (w:World) (W0 c:Nat) (a0:Option Addr) (len cap:Nat) (e:Ending) (w':World):Prop:=∃ (x:SysIn) (B T:Nat),e=.returned x.v/\x.y.Sm/\SysX w' B T x/\Cur w' W0 c a0 len cap/\w.grownBy w' (some c)/\c<B/\T<=w'.heap.size
theorem SysX.keep {w w':World} {B T:Nat} {x:SysIn} (h:SysX w B T x) (hs:w.heap.size<=w'.heap.size) (hb:∀ b,B<=b->b<T->b<w.heap.size->w'.heap[b]? = w.heap[b]?):SysX w' B T x:=
 ⟨fun w2 h2=>h.g w2 fun b h1 h3 h4=>(h2 b h1 h3 (by omega)).trans (hb b h1 h3 h4),h.cap,h.nn⟩
