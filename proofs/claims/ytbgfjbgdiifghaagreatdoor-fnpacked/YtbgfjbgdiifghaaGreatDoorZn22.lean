import Derived.Test.YtbgfjbgdiifghaaGreatDoorZn19
import Derived.Test.YtbgfjbgdiifghaaGreatDoorZn20
namespace Go.Proofs.YtbgfjbgdiifghaaGreatDoor
open Go.Proofs.Tryz
set_option maxRecDepth 100000
set_option maxHeartbeats 4000000
open Go.ChangeShapes Go.WideShapes Go.ChangeAt Go.RowKit Go.Deep Go.Sort
def chN (x:SysIn) (p:Nat):Nat:=if x.nq p=9 then x.pn else 1
def rdL (c:Nat->Int):Nat->List Int
 | 0=>[]
 | k+1=>if c k=0 then rdL c k ++ [(k:Int)] else rdL c k
theorem qom {c:Nat->Int} {k:Nat} (h:c k=0):rdL c (k+1)=rdL c k ++ [(k:Int)]:=by rw [rdL,nC h]
theorem qkk {c:Nat->Int} {k:Nat} (h:¬ c k=0):rdL c (k+1)=rdL c k:=by rw [rdL,nB h]
theorem qpn (c:Nat->Int) (k:Nat):(rdL c k).length<=k:=by
 induction k with
 | zero=>simp [rdL]
 | succ k ih=>
  rw [rdL]
  split
  ·rw [List.length_append];simp;exact ih
  ·omega
theorem qnl {w w':World} {N:Nat} {a b c d:Value} (h:Below (N+1) w w') (o:BoxC w N a b c d):BoxC w' N a b c d:=
 ⟨(h.cell (p:=(aQ N 0)) (Nat.lt_succ_self _)).trans o.1,(h.cell (p:=(aQ N 1)) (Nat.lt_succ_self _)).trans o.2.1,(h.cell (p:=(aQ N 2)) (Nat.lt_succ_self _)).trans o.2.2.1,(h.cell (p:=(aQ N 3)) (Nat.lt_succ_self _)).trans o.2.2.2⟩
def rdX (x:SysIn) (p:Nat):List Int:=rdL (fun j=>cmC x p j) (chN x p)
theorem qan.formJ {w:World} {B:Nat} {y:Sy} {v:Value} (o:qan true w B y v):∃ pa pc sa sc wa wc ha hc,v=sysV pa y.pn pc sa y.sn sc wa y.wn wc ha y.hn hc:=by
 obtain ⟨c,vp,vs,vw,vh,up,us,uw,uh,rfl,o⟩:=o;obtain ⟨pa,pc,rfl⟩:=zU o.p.row;obtain ⟨sa,sc,rfl⟩:=zU o.s.row;obtain ⟨wa,wc,rfl⟩:=zU o.t.row;obtain ⟨ha,hc,rfl⟩:=zU o.h.row;exact ⟨pa,pc,sa,sc,wa,wc,ha,hc,rfl⟩
theorem Sy.Ok.any {y:Sy} (h:y.Ok) {p:Nat} (hp:p<y.pn) (hq:y.nq p=9):y.nk p=3:=by
 by_cases hk:y.nk p=2
 ·have h1:=h.peer hp hk
  have h2:=h.cn.1.2;omega
 ·unfold Sy.nk nxK at *
  unfold Sy.nq nxP at hq;by_cases hr:qbj (y.pH p) (y.pL p) (y.sS p).p (y.sS p).rs (y.sS p).os (y.sS p).c=true
  ·rw [nC hr] at *
   unfold evP at hq;unfold evK at *;by_cases e6:(y.pH p (y.sS p).p.toNat).o=6
   ·rw [nC e6] at hk
    exact absurd rfl hk
   ·rw [nB e6] at *
    by_cases e7:(y.pH p (y.sS p).p.toNat).o=7
    ·rw [nC e7]
    ·rw [nB e7] at hq
     cases hq
  ·rw [nB hr] at hq
   cases hq
theorem qpo {c:Nat->Int}:∀ {n:Nat},(∀ j,j<n->c j≠0)->rdL c n=[]
 | 0,_=>rfl
 | n+1,h=>by rw [qkk (h n (by omega)),qpo fun j hj=>h j (by omega)]
theorem qn6 (x:SysIn) (p:Int) (w:World) (h1:x.pn<=1048576) (t1:inB p 0 ((x.pn:Int) - 1)=false):
  Calls prog 139 #[x.v,iV p] w fun e w'=>∃ u,e=.returned u/\OwnI w' w.heap.size u []/\Bw w w':=by
 have hpn:(x.pn:Int)<=1048576:=by omega
 have OW:Hid (OwnI ((w.alloc (x.oX)).alloc (.cells #[] 3)) (w.heap.size+1) (.slice (some ⟨w.heap.size+1,0,none⟩) 0 0) []):=qgl (w.alloc (x.oX)) (by simp);have BW:Hid (Bw w ((w.alloc (x.oX)).alloc (.cells #[] 3))):=(zQ _ _).trans ((zQ _ _).mono (by simp))
 go_enter func139,ntmps139
 go_wp2_with fail
 refine (l1In_any _ _ _ _).mono ?_;rintro e w1 ⟨rfl,rfl⟩;rw [t1];go_wp2;go_ret;exact ⟨_,rfl,OW.mono (nK _),BW.out⟩
theorem qn5 (x:SysIn) (p:Nat) (w:World) (hG:SysG w x) (hL:x.Len) (hO:x.y.Ok) (hp:p<x.pn):
  Calls prog 139 #[x.v,iV p] w fun e w'=>∃ u,e=.returned u/\OwnI w' w.heap.size u (rdX x p)/\Bw w w':=by
 have HG:Hid (SysG w x):=hG;have HL:Hid x.Len:=hL;have HO:Hid x.y.Ok:=hO;obtain ⟨⟨h1,h4⟩,hs,hh,hw⟩:=hO.cn;have hps:p<x.sn:=by have:x.sn=x.pn:=hs;omega
 have h4x:x.pn<=4:=h4;have hp':(p:Int)<(x.pn:Int):=by omega
 have hps':(p:Int)<(x.sn:Int):=by omega
 have h4':(x.pn:Int)<=4:=by omega
 have tA:inB (p:Int) 0 ((x.pn:Int) - 1)=true:=by simp only [inB,nI];omega
 have OW:Hid (OwnI ((w.alloc (x.oX)).alloc (.cells #[] 3)) (w.heap.size+1) (.slice (some ⟨w.heap.size+1,0,none⟩) 0 0) []):=qgl (w.alloc (x.oX)) (by simp);have BW:Hid (Bw w ((w.alloc (x.oX)).alloc (.cells #[] 3))):=(zQ _ _).trans ((zQ _ _).mono (by simp));have NB:Hid (x.bX ((w.alloc (x.oX)).alloc (.cells #[] 3)) w.heap.size):=(BoxC.new w _ _ _ _ _).bw (zQ _ _);have l0:w.heap.size<((w.alloc (x.oX)).alloc (.cells #[] 3)).heap.size:=by simp;omega
 clear hG hL hO hs hh hw h1 h4
 go_enter func139,ntmps139
 go_wp2_with fail
 refine (l1In_any _ _ _ _).mono ?_;rintro e w1 ⟨rfl,rfl⟩;rw [tA];generalize (w.alloc (x.oX)).alloc (.cells #[] 3)=W2 at *;obtain ⟨bp,op,ep,cp⟩:=(HG.bw BW.out).p.at hp;obtain ⟨b',eb',hbl,hI⟩:=(HG.bw BW.out).pi p hp;obtain ⟨bs,os,es,s0,s1,s2,s3⟩:=(HG.bw BW.out).s.at hps;have hsl:=(HG.bw BW.out).s.lst p hps;obtain ⟨b0,b1,b2,b3⟩:=NB.out;rw [eb'] at cp;rw [ep] at b0;rw [es] at b1;have lp2:bp<W2.heap.size:=zJ W2 _ cp;have ls2:bs<W2.heap.size:=zJ W2 _ s0;have HI:Hid (qaq W2 b' 0 (x.pL p) (x.pH p)/\b'<W2.heap.size):=⟨hI,hbl⟩
 have SL:Hid (Sl W2 (x.sQ p).ra (x.sQ p).rs/\Sl W2 (x.sQ p).oa (x.sQ p).os):=hsl;have EP:Hid (x.pa=some (aQ bp op)/\x.sa=some (aQ bs os)):=⟨ep,es⟩
 clear hI hsl tA eb' hbl ep es;by_cases hc:(x.sQ p).c=0
 case neg=>
  have HV:Hid (rdX x p=[]):=qpo fun j _=>by
   rw [qzi,cmS,nC (by exact hc)];decide
  have t0:((x.sQ p).c == 0)=false:=by simpa using hc
  go_wp2;go_ret;rw [HV.out];exact ⟨_,rfl,OW.mono (nK _),BW.out⟩
 have HR:Hid (qbj (x.pH p) (x.pL p) (x.sQ p).p (x.sQ p).rs (x.sQ p).os 0=true):=HO.right hp hc;rw [hc] at s3;obtain ⟨hpk,hst,-⟩:=qa7 HR.out;obtain ⟨⟨q0,q1,q2,q3,ers,-⟩,⟨k,ek,hkl⟩,-⟩:=qbq hst;have h4r:(x.sQ p).rs.length=4:=by rw [ers];rfl
 have HX:Hid (x.pL p<=maxLen/\(x.sQ p).rs.length=4/\k<x.pL p/\qaa (x.pH p) (x.pL p) 4=true):=⟨by have:=(qki hpk).2;unfold maxLen;omega,h4r,hkl,hpk⟩
 have HN3:Hid (x.nk p=evK (x.pH p k).o/\x.nq p=evP (x.pH p k).o (x.pH p k).n/\x.nv p=evW (x.pH p k).o (x.pH p k).a (x.sQ p).rs):=by
  have ek':(x.sQ p).p.toNat=k:=by omega
  refine ⟨?_,?_,?_⟩
  ·show nxK _ _ _ _ _ _=_
   rw [hc,nxK,nC HR.out,ek']
  ·show nxP _ _ _ _ _ _=_
   rw [hc,nxP,nC HR.out,ek']
  ·show nxW _ _ _ _ _ _=_
   rw [hc,nxW,nC HR.out,ek']
 rw [ek] at s0;clear hpk hst ers h4r hkl q0 q1 q2 q3 HR ek hc;go_wp2_with fail
 go_cut [7] from 31 to 41 (fun s wx=>∃ N:Nat,s=.pointer (some (aQ N 0))/\Hid (Bw W2 wx/\W2.heap.size<=N/\EvK wx N (x.nk p) (x.nq p) (x.nv p)))
 case first=>
  refine qag (fun w'=>w'.cell? (aQ w.heap.size 0)=some (.slice (some (aQ bp op)) x.pn x.pc)/\w'.cell? (aQ w.heap.size 1)=some (.slice (some (aQ bs os)) x.sn x.sc)/\w'.cell? ⟨bp,op+p,none⟩=some (.slice (some (aQ b' 0)) (x.pL p) (x.pC p))/\w'.cell? ⟨bs,os+p*4,none⟩=some (iV (k:Int))/\w'.cell? ⟨bs,os+p*4+1,none⟩=some (.slice (x.sQ p).ra (x.sQ p).rs.length (x.sQ p).rc)/\w'.cell? ⟨bs,os+p*4+2,none⟩=some (.slice (x.sQ p).oa (x.sQ p).os.length (x.sQ p).oc)/\w'.cell? ⟨bs,os+p*4+3,none⟩=some (iV 0)) (fun i=>i == 12) (by kernel_rfl) ?_;have hHeld:=And.intro b0 (And.intro b1 (And.intro cp (And.intro s0 (And.intro s1 (And.intro s2 s3)))));refine qbb [0,1,2,3,4,5,6,7,8,9] ?_;iterate 10 (refine qbr rfl hHeld ?_)
  refine qa2 ?_;refine qk5 10 11 rfl rfl (by kernel_rfl) (fun K hK=>?_) (fun K hK=>?_)
  ·refine qat rfl 129 _ _ rfl #[.slice (some (aQ b' 0)) (x.pL p) (x.pC p),stV k (x.sQ p).ra (x.sQ p).rs.length (x.sQ p).rc (x.sQ p).oa (x.sQ p).os.length (x.sQ p).oc 0] (by simp [Act.eval]) (yA func129) (qbg b' 0 (x.pL p) (x.pC p) k (x.pH p) 0 (x.sQ p).ra (x.sQ p).oa (x.sQ p).rc (x.sQ p).os.length (x.sQ p).oc (x.sQ p).rs (W2.drew) HX.1 (zL HI.2 ((nE W2.heap.size W2).drew).size) (HI.1.bw ((nE W2.heap.size W2).drew) HI.2) (SL.1.bw ((nE W2.heap.size W2).drew)) HX.2.1 HX.2.2.1 HX.2.2.2) ?_
   rintro e w5 ⟨he,d5⟩;rw [<- HN3.1,<- HN3.2.1,<- HN3.2.2] at he;refine ⟨_,he,?_⟩;have q5:Bw W2 w5:=qah ((nE W2.heap.size W2).drew) d5 (by simp);have hc5:=(qal q5).1;have hHeld5:=And.intro ((hc5 _ _ l0).trans b0) (And.intro ((hc5 _ _ l0).trans b1) (And.intro ((hc5 _ _ lp2).trans cp) (And.intro ((hc5 _ _ ls2).trans s0) (And.intro ((hc5 _ _ ls2).trans s1) (And.intro ((hc5 _ _ ls2).trans s2) ((hc5 _ _ ls2).trans s3))))));refine hK.out _ _ (fun _=>hHeld5) ?_;clear hK K
   (try simp only [Act.put,zD,zE,zF])
   refine yW 11 rfl fun K hK=>?_;go_simp;have ba:=zQ w5 (zQ6);have z5:=q5.size;have hca:=(qal ba).1;obtain ⟨e0,e1,e2,e3,e4,e5,e6⟩:=hHeld5;refine hK.out _ _ (fun _=>⟨(hca _ _ (by omega)).trans e0,(hca _ _ (by omega)).trans e1,(hca _ _ (by omega)).trans e2,(hca _ _ (by omega)).trans e3,(hca _ _ (by omega)).trans e4,(hca _ _ (by omega)).trans e5,(hca _ _ (by omega)).trans e6⟩) ?_;clear hca;clear hK K
   (try simp only [Act.put,zD,zE,zF])
   refine yW 12 rfl fun K hK=>?_;go_simp;refine hK.out _ _ (fun h=>?_) ?_
   ·exact absurd h (by decide)
   clear hK K
   (try simp only [Act.put])
   refine yX ?_ _;go_wp2_with fail
   go_meet
   case rel=>
    exact ⟨w5.heap.size,by with_reducible rfl,q5.trans ((zQ _ _).mono q5.size),q5.size,EvK.new _ _ _ _ _⟩
  ·go_simp
   have ba:Bw W2 (W2.drew.alloc (zQ6)):=(nE W2.heap.size W2).drew.trans (zQ W2.drew (zQ6));have hca:=(qal ba).1;refine hK.out _ _ (fun _=>⟨(hca _ _ l0).trans b0,(hca _ _ l0).trans b1,(hca _ _ lp2).trans cp,(hca _ _ ls2).trans s0,(hca _ _ ls2).trans s1,(hca _ _ ls2).trans s2,(hca _ _ ls2).trans s3⟩) ?_;clear hK K hca
   (try simp only [Act.put,zD,zE,zF])
   refine yW 10 rfl fun K hK=>?_;refine qat rfl 129 _ _ rfl #[.slice (some (aQ b' 0)) (x.pL p) (x.pC p),stV k (x.sQ p).ra (x.sQ p).rs.length (x.sQ p).rc (x.sQ p).oa (x.sQ p).os.length (x.sQ p).oc 0] (by simp [Act.eval]) (yA func129) (qbg b' 0 (x.pL p) (x.pC p) k (x.pH p) 0 (x.sQ p).ra (x.sQ p).oa (x.sQ p).rc (x.sQ p).os.length (x.sQ p).oc (x.sQ p).rs (W2.drew.alloc (zQ6)) HX.1 (zL HI.2 (ba).size) (HI.1.bw (ba) HI.2) (SL.1.bw (ba)) HX.2.1 HX.2.2.1 HX.2.2.2) ?_;rintro e w5 ⟨he,d5⟩;rw [<- HN3.1,<- HN3.2.1,<- HN3.2.2] at he;refine ⟨_,he,?_⟩;have q5:Bw W2 w5:=qah (ba) d5 (by simp);have hc5:=(qal q5).1;have hHeld5:=And.intro ((hc5 _ _ l0).trans b0) (And.intro ((hc5 _ _ l0).trans b1) (And.intro ((hc5 _ _ lp2).trans cp) (And.intro ((hc5 _ _ ls2).trans s0) (And.intro ((hc5 _ _ ls2).trans s1) (And.intro ((hc5 _ _ ls2).trans s2) ((hc5 _ _ ls2).trans s3))))));refine hK.out _ _ (fun _=>hHeld5) ?_;clear hK K
   (try simp only [Act.put,zD,zE,zF])
   have g:EvK w5 W2.heap.size 0 0 0:=(EvK.new W2.drew 0 0 0 49).bw d5;obtain ⟨g0,g1,g2,gf⟩:=id g;refine yW 12 rfl fun K hK=>?_;go_simp;refine hK.out _ _ (fun h=>?_) ?_
   ·exact absurd h (by decide)
   clear hK K
   (try simp only [Act.put])
   refine yX ?_ _;go_wp2_with fail
   go_meet
   case rel=>
    exact ⟨W2.heap.size,by with_reducible rfl,((q5.setCell (nA _) _).setCell (nA _) _).setCell (nA _) _,nA _,EvK.put g _ _ _⟩
 case rest=>
  obtain ⟨N,rfl,HRr⟩:=hcut;have hbe:=HRr.1;have EV:EvK wc N (x.nk p) (x.nq p) (x.nv p):=HRr.2.2;have BC:Hid (Bw w wc):=BW.trans (hbe.mono BW.size);have NC:Hid (x.bX wc w.heap.size):=NB.bw hbe;have OC:Hid (OwnI wc (w.heap.size+1) (.slice (some ⟨w.heap.size+1,0,none⟩) 0 0) []):=OW.bw hbe;obtain ⟨k0,k1,k2,kf⟩:=EV;have HA:Hid (x.nq p=9->x.nk p=3):=fun h=>HO.any hp h;have HD:Hid (rdX x p=rdL (fun j=>cmS x.y p j) (if x.nq p=9 then x.pn else 1)):=rfl;generalize x.nk p=K at k0 HA;generalize x.nq p=Q at k1 HA HD;clear hbe HRr cp s0 s1 s2 s3 b0 b1 b2 b3 SL HI NB BW OW HX HN3 l0 lp2 ls2 EP
  rcases zK (Q == 9) with t9 | t9
  ·have hQ:Q=9:=by simpa using t9
   have t3:(K == 3)=true:=by
    have:=HA.out hQ;simpa using this
   have HE:Hid (rdX x p=rdL (fun j=>cmS x.y p j) x.pn):=by
    show rdX x p=_;rw [HD.out,nC hQ]
   clear HA HD hQ;go_wp2_with fail
   go_loopw [5,9] (fun o i wr=>∃ j:Nat,j<=x.pn/\i=.int .i64 j/\Hid (OwnI wr (w.heap.size+1) o (rdL (fun j=>cmS x.y p j) j)/\Bw w wr/\x.bX wr w.heap.size)) (fun _ i _=>x.pn - (intOf i).toNat)
   case atStart=>exact ⟨0,nD _,rfl,OC.out,BC.out,NC.out⟩
   case round=>
    obtain ⟨j,hj,rfl,HZ⟩:=hrel;clear k0 k1 k2 kf OC BC NC;have hj4:(j:Int)<=4:=by omega
    by_cases hlt:j<x.pn
    ·have hlt':(j:Int)<(x.pn:Int):=by omega
     obtain ⟨b0,b1,b2,b3⟩:=HZ.2.2;go_wp2_with fail
     refine (qew x wr (HG.bw HZ.2.1) HL.out).mono ?_;rintro e w1 ⟨v1,rfl,o1,q1⟩;obtain ⟨pa1,pc1,sa1,sc1,wa1,wc1,ha1,hc1,rfl⟩:=o1.formJ;have O1:Hid (qan true w1 wr.heap.size x.y (sysV pa1 x.y.pn pc1 sa1 x.y.sn sc1 wa1 x.y.wn wc1 ha1 x.y.hn hc1)):=o1;have Q1:Hid (Bw wr w1):=q1;clear o1 q1 b0 b1 b2 b3;go_wp2_with fail
     refine (qff x.y p j w1 wr.heap.size _ O1.out hp HO.out).mono ?_;rintro e w2 ⟨rfl,q2⟩;have B2:Bw wr w2:=Q1.trans q2;have ba:=zQ w2 (oQ4 pa1 x.y.pn pc1 sa1 x.y.sn sc1 wa1 x.y.wn wc1 ha1 x.y.hn hc1);have B3:Bw wr (w2.alloc (oQ4 pa1 x.y.pn pc1 sa1 x.y.sn sc1 wa1 x.y.wn wc1 ha1 x.y.hn hc1)):=B2.trans (ba.mono B2.size);have F3:Hid (OwnI (w2.alloc (oQ4 pa1 x.y.pn pc1 sa1 x.y.sn sc1 wa1 x.y.wn wc1 ha1 x.y.hn hc1)) (w.heap.size+1) u5 (rdL (fun j=>cmS x.y p j) j)/\Bw w (w2.alloc (oQ4 pa1 x.y.pn pc1 sa1 x.y.sn sc1 wa1 x.y.wn wc1 ha1 x.y.hn hc1))/\x.bX (w2.alloc (oQ4 pa1 x.y.pn pc1 sa1 x.y.sn sc1 wa1 x.y.wn wc1 ha1 x.y.hn hc1)) w.heap.size):=⟨HZ.1.bw B3,HZ.2.1.trans (B3.mono HZ.2.1.size),HZ.2.2.bw B3⟩
     have HLn:Hid ((rdL (fun j=>cmS x.y p j) j).length<=1048576):=zP (qpn _ j) (by omega);clear q2 O1 Q1 B2 B3 ba HZ;by_cases hcd:cmS x.y p j=0
     ·have E0:Hid (rdL (fun j=>cmS x.y p j) (j+1)=rdL (fun j=>cmS x.y p j) j ++ [(j:Int)]):=qom hcd
      rw [hcd];clear hcd;go_wp2_with (at_builtin;refine qcw (w2.alloc (oQ4 pa1 x.y.pn pc1 sa1 x.y.sn sc1 wa1 x.y.wn wc1 ha1 x.y.hn hc1)) (by simp) rfl _ _ rfl (w.heap.size+1) u5 (rdL (fun j=>cmS x.y p j) j) rfl F3.1 j rfl HLn.out F3.2.2.ltM ?_;intro v5 w5 o5 b5;have F5:Hid (OwnI w5 (w.heap.size+1) v5 (rdL (fun j=>cmS x.y p j) j ++ [(j:Int)])/\Bw w w5/\x.bX w5 w.heap.size):=⟨o5,F3.2.1.trans (b5.mono (nK _)),qnl b5 F3.2.2⟩;clear o5 b5)
      go_roundw
      case rel=>exact ⟨j+1,by omega,by go_num,by rw [E0.out];exact F5.1,F5.2.1,F5.2.2⟩
      case measure=>simp [intOf];omega
     ·have E0:Hid (rdL (fun j=>cmS x.y p j) (j+1)=rdL (fun j=>cmS x.y p j) j):=qkk hcd
      have t0:(cmS x.y p j == 0)=false:=by simpa using hcd
      generalize cmS x.y p (j:Int)=cd at t0;go_wp2;go_roundw
      case rel=>exact ⟨j+1,by omega,by go_num,by rw [E0.out];exact F3.1,F3.2.1,F3.2.2⟩
      case measure=>simp [intOf];omega
    ·have hjm:j=x.pn:=by omega
     subst hjm;go_wp2;go_ret;exact ⟨_,rfl,by rw [HE.out];exact HZ.1.mono (nK _),HZ.2.1⟩
  ·have hQ:¬ Q=9:=by simpa using t9
   have HE:Hid (rdX x p=rdL (fun j=>cmS x.y p j) 1):=by
    show rdX x p=_;rw [HD.out,nB hQ]
   clear HA HD hQ
   rcases zK (K == 3) with t3 | t3
   ·go_wp2_with fail
    go_loopw [5,9] (fun o i wr=>∃ j:Nat,j<=(1:Nat)/\i=.int .i64 j/\Hid (OwnI wr (w.heap.size+1) o (rdL (fun j=>cmS x.y p j) j)/\Bw w wr/\x.bX wr w.heap.size)) (fun _ i _=>(1:Nat) - (intOf i).toNat)
    case atStart=>exact ⟨0,nD _,rfl,OC.out,BC.out,NC.out⟩
    case round=>
     obtain ⟨j,hj,rfl,HZ⟩:=hrel;clear k0 k1 k2 kf OC BC NC;have hj4:(j:Int)<=4:=by omega
     by_cases hlt:j<(1:Nat)
     ·have hlt':(j:Int)<((1:Nat):Int):=by omega
      obtain ⟨b0,b1,b2,b3⟩:=HZ.2.2;go_wp2_with fail
      refine (qew x wr (HG.bw HZ.2.1) HL.out).mono ?_;rintro e w1 ⟨v1,rfl,o1,q1⟩;obtain ⟨pa1,pc1,sa1,sc1,wa1,wc1,ha1,hc1,rfl⟩:=o1.formJ;have O1:Hid (qan true w1 wr.heap.size x.y (sysV pa1 x.y.pn pc1 sa1 x.y.sn sc1 wa1 x.y.wn wc1 ha1 x.y.hn hc1)):=o1;have Q1:Hid (Bw wr w1):=q1;clear o1 q1 b0 b1 b2 b3;go_wp2_with fail
      refine (qff x.y p j w1 wr.heap.size _ O1.out hp HO.out).mono ?_;rintro e w2 ⟨rfl,q2⟩;have B2:Bw wr w2:=Q1.trans q2;have ba:=zQ w2 (oQ4 pa1 x.y.pn pc1 sa1 x.y.sn sc1 wa1 x.y.wn wc1 ha1 x.y.hn hc1);have B3:Bw wr (w2.alloc (oQ4 pa1 x.y.pn pc1 sa1 x.y.sn sc1 wa1 x.y.wn wc1 ha1 x.y.hn hc1)):=B2.trans (ba.mono B2.size);have F3:Hid (OwnI (w2.alloc (oQ4 pa1 x.y.pn pc1 sa1 x.y.sn sc1 wa1 x.y.wn wc1 ha1 x.y.hn hc1)) (w.heap.size+1) u5 (rdL (fun j=>cmS x.y p j) j)/\Bw w (w2.alloc (oQ4 pa1 x.y.pn pc1 sa1 x.y.sn sc1 wa1 x.y.wn wc1 ha1 x.y.hn hc1))/\x.bX (w2.alloc (oQ4 pa1 x.y.pn pc1 sa1 x.y.sn sc1 wa1 x.y.wn wc1 ha1 x.y.hn hc1)) w.heap.size):=⟨HZ.1.bw B3,HZ.2.1.trans (B3.mono HZ.2.1.size),HZ.2.2.bw B3⟩
      have HLn:Hid ((rdL (fun j=>cmS x.y p j) j).length<=1048576):=zP (qpn _ j) (by omega);clear q2 O1 Q1 B2 B3 ba HZ;by_cases hcd:cmS x.y p j=0
      ·have E0:Hid (rdL (fun j=>cmS x.y p j) (j+1)=rdL (fun j=>cmS x.y p j) j ++ [(j:Int)]):=qom hcd
       rw [hcd];clear hcd;go_wp2_with (at_builtin;refine qcw (w2.alloc (oQ4 pa1 x.y.pn pc1 sa1 x.y.sn sc1 wa1 x.y.wn wc1 ha1 x.y.hn hc1)) (by simp) rfl _ _ rfl (w.heap.size+1) u5 (rdL (fun j=>cmS x.y p j) j) rfl F3.1 j rfl HLn.out F3.2.2.ltM ?_;intro v5 w5 o5 b5;have F5:Hid (OwnI w5 (w.heap.size+1) v5 (rdL (fun j=>cmS x.y p j) j ++ [(j:Int)])/\Bw w w5/\x.bX w5 w.heap.size):=⟨o5,F3.2.1.trans (b5.mono (nK _)),qnl b5 F3.2.2⟩;clear o5 b5)
       go_roundw
       case rel=>exact ⟨j+1,by omega,by go_num,by rw [E0.out];exact F5.1,F5.2.1,F5.2.2⟩
       case measure=>simp [intOf];omega
      ·have E0:Hid (rdL (fun j=>cmS x.y p j) (j+1)=rdL (fun j=>cmS x.y p j) j):=qkk hcd
       have t0:(cmS x.y p j == 0)=false:=by simpa using hcd
       generalize cmS x.y p (j:Int)=cd at t0;go_wp2;go_roundw
       case rel=>exact ⟨j+1,by omega,by go_num,by rw [E0.out];exact F3.1,F3.2.1,F3.2.2⟩
       case measure=>simp [intOf];omega
     ·have hjm:j=(1:Nat):=by omega
      subst hjm;go_wp2;go_ret;exact ⟨_,rfl,by rw [HE.out];exact HZ.1.mono (nK _),HZ.2.1⟩
   ·go_wp2_with fail
    go_loopw [5,9] (fun o i wr=>∃ j:Nat,j<=(1:Nat)/\i=.int .i64 j/\Hid (OwnI wr (w.heap.size+1) o (rdL (fun j=>cmS x.y p j) j)/\Bw w wr/\x.bX wr w.heap.size)) (fun _ i _=>(1:Nat) - (intOf i).toNat)
    case atStart=>exact ⟨0,nD _,rfl,OC.out,BC.out,NC.out⟩
    case round=>
     obtain ⟨j,hj,rfl,HZ⟩:=hrel;clear k0 k1 k2 kf OC BC NC;have hj4:(j:Int)<=4:=by omega
     by_cases hlt:j<(1:Nat)
     ·have hlt':(j:Int)<((1:Nat):Int):=by omega
      obtain ⟨b0,b1,b2,b3⟩:=HZ.2.2;go_wp2_with fail
      refine (qew x wr (HG.bw HZ.2.1) HL.out).mono ?_;rintro e w1 ⟨v1,rfl,o1,q1⟩;obtain ⟨pa1,pc1,sa1,sc1,wa1,wc1,ha1,hc1,rfl⟩:=o1.formJ;have O1:Hid (qan true w1 wr.heap.size x.y (sysV pa1 x.y.pn pc1 sa1 x.y.sn sc1 wa1 x.y.wn wc1 ha1 x.y.hn hc1)):=o1;have Q1:Hid (Bw wr w1):=q1;clear o1 q1 b0 b1 b2 b3;go_wp2_with fail
      refine (qff x.y p j w1 wr.heap.size _ O1.out hp HO.out).mono ?_;rintro e w2 ⟨rfl,q2⟩;have B2:Bw wr w2:=Q1.trans q2;have ba:=zQ w2 (oQ4 pa1 x.y.pn pc1 sa1 x.y.sn sc1 wa1 x.y.wn wc1 ha1 x.y.hn hc1);have B3:Bw wr (w2.alloc (oQ4 pa1 x.y.pn pc1 sa1 x.y.sn sc1 wa1 x.y.wn wc1 ha1 x.y.hn hc1)):=B2.trans (ba.mono B2.size);have F3:Hid (OwnI (w2.alloc (oQ4 pa1 x.y.pn pc1 sa1 x.y.sn sc1 wa1 x.y.wn wc1 ha1 x.y.hn hc1)) (w.heap.size+1) u5 (rdL (fun j=>cmS x.y p j) j)/\Bw w (w2.alloc (oQ4 pa1 x.y.pn pc1 sa1 x.y.sn sc1 wa1 x.y.wn wc1 ha1 x.y.hn hc1))/\x.bX (w2.alloc (oQ4 pa1 x.y.pn pc1 sa1 x.y.sn sc1 wa1 x.y.wn wc1 ha1 x.y.hn hc1)) w.heap.size):=⟨HZ.1.bw B3,HZ.2.1.trans (B3.mono HZ.2.1.size),HZ.2.2.bw B3⟩
      have HLn:Hid ((rdL (fun j=>cmS x.y p j) j).length<=1048576):=zP (qpn _ j) (by omega);clear q2 O1 Q1 B2 B3 ba HZ;by_cases hcd:cmS x.y p j=0
      ·have E0:Hid (rdL (fun j=>cmS x.y p j) (j+1)=rdL (fun j=>cmS x.y p j) j ++ [(j:Int)]):=qom hcd
       rw [hcd];clear hcd;go_wp2_with (at_builtin;refine qcw (w2.alloc (oQ4 pa1 x.y.pn pc1 sa1 x.y.sn sc1 wa1 x.y.wn wc1 ha1 x.y.hn hc1)) (by simp) rfl _ _ rfl (w.heap.size+1) u5 (rdL (fun j=>cmS x.y p j) j) rfl F3.1 j rfl HLn.out F3.2.2.ltM ?_;intro v5 w5 o5 b5;have F5:Hid (OwnI w5 (w.heap.size+1) v5 (rdL (fun j=>cmS x.y p j) j ++ [(j:Int)])/\Bw w w5/\x.bX w5 w.heap.size):=⟨o5,F3.2.1.trans (b5.mono (nK _)),qnl b5 F3.2.2⟩;clear o5 b5)
       go_roundw
       case rel=>exact ⟨j+1,by omega,by go_num,by rw [E0.out];exact F5.1,F5.2.1,F5.2.2⟩
       case measure=>simp [intOf];omega
      ·have E0:Hid (rdL (fun j=>cmS x.y p j) (j+1)=rdL (fun j=>cmS x.y p j) j):=qkk hcd
       have t0:(cmS x.y p j == 0)=false:=by simpa using hcd
       generalize cmS x.y p (j:Int)=cd at t0;go_wp2;go_roundw
       case rel=>exact ⟨j+1,by omega,by go_num,by rw [E0.out];exact F3.1,F3.2.1,F3.2.2⟩
       case measure=>simp [intOf];omega
     ·have hjm:j=(1:Nat):=by omega
      subst hjm;go_wp2;go_ret;exact ⟨_,rfl,by rw [HE.out];exact HZ.1.mono (nK _),HZ.2.1⟩
def chS (y:Sy) (p:Nat):Nat:=if y.nq p=9 then y.pn else 1
def rdS (y:Sy) (p:Nat):List Int:=rdL (fun j=>cmS y p j) (chS y p)
theorem qzs (x:SysIn) (p:Nat):rdX x p=rdS x.y p:=rfl
open Classical in
noncomputable def rdQ (y:Sy) (p:Int):List Int:=if y.okB=true/\belB p y.pn=true then rdS y p.toNat else []
theorem qkv (x:SysIn) (p:Int) (w:World) (hG:SysG w x) (hL:x.Len) (hcap:∀ i,i<x.hn->x.hL i<=x.hC i):
  Calls prog 122 #[x.v,iV p] w fun e w'=>∃ u,e=.returned u/\OwnI w' w.heap.size u (rdQ x.y p)/\Bw w w':=by
 have HG:Hid (SysG w x):=hG;have HL:Hid x.Len:=hL;have HS:Hid (∀ wx,Bw w wx->Calls prog 22 #[x.v] wx (rB wx (.bool x.y.okB))):=fun wx hb=>qcs x wx (HG.bw hb) hL hcap;have BW:Hid (Bw w (w.alloc (x.oX))):=zQ _ _;have NB:Hid (x.bX (w.alloc (x.oX)) w.heap.size):=BoxC.new w _ _ _ _ _;clear hG hL hcap
 go_enter func122,ntmps122
 go_wp2_with fail
 generalize w.alloc (x.oX)=W2 at *;refine (HS.out W2 BW.out).mono ?_;rintro e w1 ⟨rfl,q1⟩;have B1:Hid (Bw w w1/\x.bX w1 w.heap.size):=⟨BW.trans (q1.mono BW.size),NB.bw q1⟩
 clear q1 BW NB HS
 rcases zK x.y.okB with t | t
 case inr=>
  have HV:Hid (rdQ x.y p=[]):=by
   show rdQ x.y p=[];rw [rdQ,nB (by rw [t];simp)]
  have OE:Hid (OwnI (w1.alloc (.cells #[] 3)) w.heap.size (sG w1.heap.size 0 0) []/\Bw w (w1.alloc (.cells #[] 3))):=⟨(qb8 w1).mono B1.1.size,B1.1.trans ((zQ _ _).mono B1.1.size)⟩
  rw [t];clear t;go_wp2;go_ret;rw [HV.out];exact ⟨_,rfl,OE.out⟩
 have HO:Hid x.y.Ok:=Sy.ok_of t
 have HC:Hid (Calls prog 139 #[x.v,iV p] w1 fun e w'=>∃ u,e=.returned u/\OwnI w' w1.heap.size u (rdQ x.y p)/\Bw w1 w'):=by
  show Calls prog 139 _ _ _;by_cases hb:belB p x.pn=true
  ·have hb':0<=p/\p<(x.pn:Int):=by simpa [belB] using hb
   obtain ⟨k,rfl⟩:∃ k:Nat,p=k:=⟨p.toNat,by omega⟩
   have e:rdQ x.y (k:Int)=rdX x k:=by
    rw [rdQ,nC ⟨t,hb⟩,qzs];rfl
   rw [e];exact qn5 x k w1 (HG.bw B1.1) HL.out HO.out (by omega)
  ·have e:rdQ x.y p=[]:=by
    rw [rdQ,nB];exact fun h=>hb h.2
   rw [e]
   exact qn6 x p w1 HL.p.1 (by
    simp only [inB,decide_eq_false_iff_not];simp only [belB,nI] at hb
    omega)
 rw [t];clear t;obtain ⟨b0,b1,b2,b3⟩:=B1.2;go_wp2_with fail
 refine HC.mono ?_;rintro e w2 ⟨u2,rfl,o2,q2⟩;have F2:Hid (OwnI w2 w.heap.size u2 (rdQ x.y p)/\Bw w w2):=⟨o2.mono B1.1.size,B1.1.trans (q2.mono B1.1.size)⟩
 clear o2 q2 HC;go_wp2;go_ret;exact ⟨_,rfl,F2.out⟩
