import Derived.Test.YtkdablcbhhphoaaGreatDoorMt21
import Derived.Test.YtkdablcbhhphoaaGreatDoorMt19
namespace Go.Proofs.YtkdablcbhhphoaaGreatDoor
open Go.Proofs.Tryz
set_option maxRecDepth 100000
set_option maxHeartbeats 4000000
open Go.RowKit Go.Sort
theorem qnn (gb n gc:Nat) (ea:Option Addr) (m ec:Nat) (g:Nat->I5) (eh:Nat->E3) (w:World) (hn:n<=maxLen) (hg:gb<w.heap.size) (hI:qao w gb 0 n g) (hE:EvL w ea m eh) (hm:m<=1048576) (hV:w.cell? ⟨0,0,none⟩=some (.iface 300 (.agg #[.pointer (some ⟨1,269,none⟩)]))):
  Calls prog 181 #[.slice (some ⟨gb,0,none⟩) n gc,.slice ea m ec] w (qdd w (resS (repO g n eh m)) (repO g n eh m).isSome):=by
 have HI:Hid (qao w gb 0 n g):=hI;have HE:Hid (EvL w ea m eh):=hE;have HL:Hid (n<=maxLen):=hn;have HV:Hid (w.cell? ⟨0,0,none⟩=some (.iface 300 (.agg #[.pointer (some ⟨1,269,none⟩)]))):=hV;have hV0:0<w.heap.size:=zJ w _ hV;clear hI hE hn hV;have bA:=zS w (zQ0);have BA:Hid (Below w.heap.size w (w.alloc (zQ0))):=bA;have NB:Hid (BoxC (w.alloc (zQ0)) w.heap.size (.int .i64 0) nS nS (.int .i64 0)/\∀ j,(w.alloc (zQ0)).frozen? ⟨w.heap.size,j,none⟩=false):=⟨BoxC.new w _ _ _ _ _,fun j=>yA _ _ _ j rfl⟩
 clear bA
 have hrun:∀ wx:World,Below w.heap.size w wx->Calls prog 226 #[.slice (some ⟨gb,0,none⟩) n gc,.slice ea m ec] wx (AllR wx (repO g n eh m)):=by
  intro wx hb
  rcases zK (qac g n 4) with tp | tp
  ·exact qt0 gb n gc ea m ec g eh wx HL.out (zL hg hb.size) (HI.bw hb hg) tp (HE.bw hb) hm
  ·exact qvo gb n gc ea m ec g eh wx HL.out (zL hg hb.size) (HI.bw hb hg) tp
 have HRn:Hid (∀ wx:World,Below w.heap.size w wx->Calls prog 226 #[.slice (some ⟨gb,0,none⟩) n gc,.slice ea m ec] wx (AllR wx (repO g n eh m))):=hrun;clear hrun;generalize repO g n eh m=O at *
 go_enter func181,ntmps181
 go_wp2_with fail
 have hz:(w.alloc (zQ0)).heap.size=w.heap.size+1:=by simp
 generalize w.alloc (zQ0)=wa at *;refine (HRn.out wa BA.out).mono ?_;rintro e w1 ⟨v1,err,rfl,b1,o1,hO⟩;obtain ⟨ra1,rc1,oa1,oc1,rfl,-,-⟩:=o1.read;have B1:Hid (Below w.heap.size w w1):=BA.trans (b1.mono BA.size);have N1:Hid (BoxC w1 w.heap.size (.int .i64 0) nS nS (.int .i64 0)/\∀ j,w1.frozen? ⟨w.heap.size,j,none⟩=false):=⟨NB.1.bw b1,fun j=>(zI (b1.block w.heap.size (by omega))).trans (NB.2 j)⟩
 have O1:Hid (qag w1 wa.heap.size (stV (resS O).p ra1 (resS O).rs.length rc1 oa1 (resS O).os.length oc1 (resS O).c) (resS O).p (resS O).rs (resS O).os (resS O).c):=o1;have z1:=b1.size;have zw:w.heap.size<w1.heap.size:=by omega
 clear o1 b1 BA NB;have bq0:=zS w1 (oQ1 (resS O).p ra1 (resS O).rs.length rc1 oa1 (resS O).os.length oc1 (resS O).c);have bq1:=zS (w1.alloc (oQ1 (resS O).p ra1 (resS O).rs.length rc1 oa1 (resS O).os.length oc1 (resS O).c)) (.cells #[.int .i64 0] 273);have bq:Below w1.heap.size w1 ((w1.alloc (oQ1 (resS O).p ra1 (resS O).rs.length rc1 oa1 (resS O).os.length oc1 (resS O).c)).alloc (.cells #[.int .i64 0] 273)):=bq0.trans (bq1.mono bq0.size);have BQ:Hid (Below w.heap.size w ((w1.alloc (oQ1 (resS O).p ra1 (resS O).rs.length rc1 oa1 (resS O).os.length oc1 (resS O).c)).alloc (.cells #[.int .i64 0] 273))):=B1.trans (bq.mono B1.size);have NQ:Hid (BoxC ((w1.alloc (oQ1 (resS O).p ra1 (resS O).rs.length rc1 oa1 (resS O).os.length oc1 (resS O).c)).alloc (.cells #[.int .i64 0] 273)) w.heap.size (.int .i64 0) nS nS (.int .i64 0)/\∀ j,((w1.alloc (oQ1 (resS O).p ra1 (resS O).rs.length rc1 oa1 (resS O).os.length oc1 (resS O).c)).alloc (.cells #[.int .i64 0] 273)).frozen? ⟨w.heap.size,j,none⟩=false):=⟨N1.1.bw bq,fun j=>(zI (bq.block w.heap.size zw)).trans (N1.2 j)⟩
 have OQ:Hid (qag ((w1.alloc (oQ1 (resS O).p ra1 (resS O).rs.length rc1 oa1 (resS O).os.length oc1 (resS O).c)).alloc (.cells #[.int .i64 0] 273)) wa.heap.size (stV (resS O).p ra1 (resS O).rs.length rc1 oa1 (resS O).os.length oc1 (resS O).c) (resS O).p (resS O).rs (resS O).os (resS O).c):=O1.bw bq;have SQ:Hid (BoxC ((w1.alloc (oQ1 (resS O).p ra1 (resS O).rs.length rc1 oa1 (resS O).os.length oc1 (resS O).c)).alloc (.cells #[.int .i64 0] 273)) w1.heap.size (.int .i64 (resS O).p) (.slice ra1 (resS O).rs.length rc1) (.slice oa1 (resS O).os.length oc1) (.int .i64 (resS O).c)):=(BoxC.new w1 _ _ _ _ _).bw bq1
 have TQ:Hid (((w1.alloc (oQ1 (resS O).p ra1 (resS O).rs.length rc1 oa1 (resS O).os.length oc1 (resS O).c)).alloc (.cells #[.int .i64 0] 273)).cell? ⟨w1.heap.size+1,0,none⟩=some (.int .i64 0)/\((w1.alloc (oQ1 (resS O).p ra1 (resS O).rs.length rc1 oa1 (resS O).os.length oc1 (resS O).c)).alloc (.cells #[.int .i64 0] 273)).frozen? ⟨w1.heap.size+1,0,none⟩=false/\w1.heap.size+2=((w1.alloc (oQ1 (resS O).p ra1 (resS O).rs.length rc1 oa1 (resS O).os.length oc1 (resS O).c)).alloc (.cells #[.int .i64 0] 273)).heap.size):=by
  have h1:=zV (w1.alloc (oQ1 (resS O).p ra1 (resS O).rs.length rc1 oa1 (resS O).os.length oc1 (resS O).c)) #[.int .i64 0] 273 0 rfl;have h2:=yA (w1.alloc (oQ1 (resS O).p ra1 (resS O).rs.length rc1 oa1 (resS O).os.length oc1 (resS O).c)) #[.int .i64 0] 273 0 rfl
  (try dsimp only [aW] at h1 h2);rw [World.size_alloc] at h1 h2
  exact ⟨h1,h2,by simp⟩
 clear bq0 bq1 bq N1 O1 B1
 rcases hO with ⟨tO,rfl⟩ | ⟨tO,x,rfl⟩
 ·have HT:Hid (O.isSome=true):=tO
  clear tO;go_wp2_with fail
  generalize (w1.alloc (oQ1 (resS O).p ra1 (resS O).rs.length rc1 oa1 (resS O).os.length oc1 (resS O).c)).alloc (.cells #[.int .i64 0] 273)=wq at *;refine (qyx _ wq).mono ?_;rintro e w2 ⟨rfl,rfl⟩;obtain ⟨⟨r0,r1,r2,r3⟩,rf⟩:=NQ.out;obtain ⟨s0,s1,s2,s3⟩:=SQ.out;have hne:w1.heap.size≠w.heap.size:=by omega
  go_wp2;refine bodyPost_ret (v:=.tuple #[stV (resS O).p ra1 (resS O).rs.length rc1 oa1 (resS O).os.length oc1 (resS O).c,.bool true]) (by simp [results,results181,go_sem,r0,r1,r2,r3]) rfl ?_;rw [HT.out];refine ⟨_,rfl,?_,?_⟩
  ·exact OQ.put4 (by omega) (by omega)
  ·exact (((BQ.setCell (nA _) _).setCell (nA _) _).setCell (nA _) _).setCell (nA _) _
 ·have HT:Hid (O=none):=by
   cases O with
   | none=>rfl
   | some S=>cases tO
  clear tO;go_wp2_with fail
  generalize (w1.alloc (oQ1 (resS O).p ra1 (resS O).rs.length rc1 oa1 (resS O).os.length oc1 (resS O).c)).alloc (.cells #[.int .i64 0] 273)=wq at *;refine (qyw x ⟨w1.heap.size+1,0,none⟩ (.int .i64 0) wq ((BQ.cell (p:=⟨0,0,none⟩) hV0).trans HV.out) TQ.1 TQ.2.1).mono ?_;rintro e w2 ⟨rfl,o1,o2,o3,o4,rfl⟩
  have b2:Below (w1.heap.size+1) wq (((((wq.alloc o1).alloc o2).alloc o3).alloc o4).setCell ⟨w1.heap.size+1,0,none⟩ (.int .i64 x)):=by
   have hq:=TQ.2.2;exact (((((nE (w1.heap.size+1) wq).alloc (by omega) o1).alloc (by simp;omega) o2).alloc (by simp;omega) o3).alloc (by simp;omega) o4).setCell (nA _) _
  have eR:=b2.block w.heap.size (by omega);have B2:Hid (Below w.heap.size w (((((wq.alloc o1).alloc o2).alloc o3).alloc o4).setCell ⟨w1.heap.size+1,0,none⟩ (.int .i64 x))):=BQ.trans (b2.mono (by omega))
  have N2:Hid (BoxC (((((wq.alloc o1).alloc o2).alloc o3).alloc o4).setCell ⟨w1.heap.size+1,0,none⟩ (.int .i64 x)) w.heap.size (.int .i64 0) nS nS (.int .i64 0)/\∀ j,(((((wq.alloc o1).alloc o2).alloc o3).alloc o4).setCell ⟨w1.heap.size+1,0,none⟩ (.int .i64 x)).frozen? ⟨w.heap.size,j,none⟩=false):=by
   obtain ⟨⟨a0,a1,a2,a3⟩,af⟩:=NQ.out;exact ⟨⟨(zH eR).trans a0,(zH eR).trans a1,(zH eR).trans a2,(zH eR).trans a3⟩,fun j=>(zI eR).trans (af j)⟩
  clear b2 eR NQ SQ OQ TQ BQ;generalize ((((wq.alloc o1).alloc o2).alloc o3).alloc o4).setCell ⟨w1.heap.size+1,0,none⟩ (.int .i64 x)=w3 at *;obtain ⟨⟨r0,r1,r2,r3⟩,rf⟩:=N2.out;go_wp2;refine bodyPost_ret (v:=.tuple #[stV 0 none 0 0 none 0 0 0,.bool false]) (by simp [results,results181,go_sem,r0,r1,r2,r3]) rfl ?_;rw [HT.out];exact ⟨_,rfl,qag.nil _ _,(((B2.setCell (nA _) _).setCell (nA _) _).setCell (nA _) _).setCell (nA _) _⟩
open Go.ChangeShapes Go.WideShapes Go.ChangeAt Go.Deep
structure SysB (w:World) (X:Nat) (x:SysIn):Prop where
 c0:w.cell? ⟨X,0,none⟩=some (.slice x.pa x.pn x.pc)
 c1:w.cell? ⟨X,1,none⟩=some (.slice x.sa x.sn x.sc)
 c2:w.cell? ⟨X,2,none⟩=some (.slice x.wa x.wn x.wc)
 c3:w.cell? ⟨X,3,none⟩=some (.slice x.ha x.hn x.hc)
 c4:w.cell? ⟨X,4,none⟩=some (.slice x.ha x.hn x.hc)
theorem SysB.lt {w:World} {X:Nat} {x:SysIn} (h:SysB w X x):X<w.heap.size:=zJ w _ h.c0
theorem SysB.blk {w w':World} {X:Nat} {x:SysIn} (h:SysB w X x) (hb:w'.heap[X]? = w.heap[X]?):SysB w' X x:=
 ⟨(zH hb).trans h.c0,(zH hb).trans h.c1,(zH hb).trans h.c2,(zH hb).trans h.c3,(zH hb).trans h.c4⟩
theorem SysB.bw {w w':World} {X:Nat} {x:SysIn} (h:SysB w X x) (hb:Below w.heap.size w w'):SysB w' X x:=h.blk (hb.block X h.lt)
theorem qqr (X:Nat) (x:SysIn) (w:World) (hB:SysB w X x) (hG:SysG w x) (hL:x.Len):
  Calls prog 131 #[.pointer (some ⟨X,0,none⟩)] w (rB w (.bool (qB (∀ p,p<x.pn->qac (x.pH p) (x.pL p) x.pn=true)))):=by
 have HB:Hid (SysB w X x):=hB;have HG:Hid (SysG w x):=hG;have HL:Hid x.Len:=hL;have hpn:(x.pn:Int)<=1048576:=by have:=hL.p.1;omega
 obtain ⟨b0,-,-,-,-⟩:=hB;clear hG hL
 go_enter func131,ntmps131
 go_wp2_with fail
 clear b0
 go_loopw [11] (fun i wr=>∃ k:Nat,k<=x.pn/\i=.int .i64 k/\Below w.heap.size w wr/\Hid (∀ j,j<k->qac (x.pH j) (x.pL j) x.pn=true)) (fun i _=>x.pn - (intOf i).toNat)
 case atStart=>exact ⟨0,nD _,rfl,nE _ _,fun j hj=>by omega⟩
 case round=>
  obtain ⟨k,hk,rfl,hbw,HZ⟩:=hrel;obtain ⟨b0,-,-,-,-⟩:=HB.bw hbw;by_cases hlt:k<x.pn
  ·have hlt':(k:Int)<(x.pn:Int):=by omega
   obtain ⟨bp,op,ep,ck⟩:=(HG.bw hbw).p.at hlt;obtain ⟨b,eb,hbl,hI⟩:=(HG.bw hbw).pi k hlt;rw [eb] at ck;rw [ep] at b0;rw [ep];have HI:Hid (qao wr b 0 (x.pL k) (x.pH k)):=hI
   have hml:x.pL k<=maxLen:=by
    have:=HL.p.2 k hlt;unfold maxLen;omega
   have HM:Hid (x.pL k<=maxLen):=hml;clear hI hml;go_wp2_with fail
   refine (qda b 0 (x.pL k) _ (x.pH k) x.pn wr HM.out hbl HI.out).mono ?_;rintro e w1 ⟨rfl,b1⟩;have B1:Hid (Below w.heap.size w w1):=hbw.trans (b1.mono hbw.size);clear b1 b0 ck
   rcases zK (qac (x.pH k) (x.pL k) x.pn) with t | t
   ·have HZ':Hid (∀ j,j<k+1->qac (x.pH j) (x.pL j) x.pn=true):=fun j hj=>by
     by_cases e:j=k
     ·subst e
      exact t
     ·exact HZ.out j (by omega)
    rw [t];clear HZ t;go_wp2;go_roundw
    case rel=>exact ⟨k+1,by omega,by go_num,B1.out,HZ'.out⟩
    case measure=>simp [intOf];omega
   ·have HN:Hid (qB (∀ p,p<x.pn->qac (x.pH p) (x.pL p) x.pn=true)=false):=qa7 fun h=>by
     have:=h k hlt;rw [t] at this;cases this
    rw [t];clear HZ t;go_wp2;go_ret;rw [HN.out];exact ⟨rfl,B1.out⟩
  ·have HN:Hid (qB (∀ p,p<x.pn->qac (x.pH p) (x.pL p) x.pn=true)=true):=qbv fun j hj=>HZ.out j (by omega)
   clear HZ;go_wp2;go_ret;rw [HN.out];exact ⟨rfl,hbw⟩
def SysIn.StP (x:SysIn) (p:Nat):Prop:=repO (x.pH p) (x.pL p) (x.hH p) (x.hL p)=some (x.sS p)
theorem qop (X:Nat) (x:SysIn) (w:World) (hB:SysB w X x) (hG:SysG w x) (hL:x.Len) (hs:x.sn=x.pn) (hh:x.hn=x.pn) (hV:w.cell? ⟨0,0,none⟩=some (.iface 300 (.agg #[.pointer (some ⟨1,269,none⟩)]))):
  Calls prog 132 #[.pointer (some ⟨X,0,none⟩)] w (rB w (.bool (qB (∀ p,p<x.pn->x.StP p)))):=by
 have HB:Hid (SysB w X x):=hB;have HG:Hid (SysG w x):=hG;have HL:Hid x.Len:=hL;have HV:Hid (w.cell? ⟨0,0,none⟩=some (.iface 300 (.agg #[.pointer (some ⟨1,269,none⟩)]))):=hV;have HV0:Hid (0<w.heap.size):=zJ w _ hV;have HS:Hid (x.sn=x.pn/\x.hn=x.pn):=⟨hs,hh⟩
 have hpn:(x.pn:Int)<=1048576:=by have:=hL.p.1;omega
 obtain ⟨b0,-,-,-,-⟩:=hB;clear hG hL hV hs hh
 go_enter func132,ntmps132
 go_wp2_with fail
 clear b0
 go_loopw [13] (fun i wr=>∃ k:Nat,k<=x.pn/\i=.int .i64 k/\Below w.heap.size w wr/\Hid (∀ j,j<k->x.StP j)) (fun i _=>x.pn - (intOf i).toNat)
 case atStart=>exact ⟨0,nD _,rfl,nE _ _,fun j hj=>by omega⟩
 case round=>
  obtain ⟨k,hk,rfl,hbw,HZ⟩:=hrel;obtain ⟨-,-,-,-,b4⟩:=HB.bw hbw;by_cases hlt:k<x.pn
  ·have hlt':(k:Int)<(x.pn:Int):=by omega
   have hkh:k<x.hn:=by have:=HS.out;omega
   have hks:k<x.sn:=by have:=HS.out;omega
   have hkh':(k:Int)<(x.hn:Int):=by omega
   have hks':(k:Int)<(x.sn:Int):=by omega
   obtain ⟨bp,op,ep,ck⟩:=(HG.bw hbw).p.at hlt;obtain ⟨b,eb,hbl,hI⟩:=(HG.bw hbw).pi k hlt;obtain ⟨bh,oh,eh,ch⟩:=(HG.bw hbw).h.at hkh;rw [eb] at ck;rw [eh] at b4;rw [ep];have EH:Hid (x.ha=some ⟨bh,oh,none⟩):=eh;have HI:Hid (qao wr b 0 (x.pL k) (x.pH k)):=hI
   have hml:x.pL k<=maxLen:=by
    have:=HL.p.2 k hlt;unfold maxLen;omega
   have HM:Hid (x.pL k<=maxLen):=hml;have HE:Hid (EvL wr (x.hA k) (x.hL k) (x.hH k)):=(HG.bw hbw).hi k hkh;have HLk:Hid (x.hL k<=1048576):=HL.h.2 k hkh;clear hI hml ep eh eb;go_wp2_with fail
   refine (qnn b (x.pL k) _ (x.hA k) (x.hL k) _ (x.pH k) (x.hH k) wr HM.out hbl HI.out HE.out HLk.out ((hbw.cell (p:=⟨0,0,none⟩) HV0.out).trans HV.out)).mono ?_;rintro e w1 ⟨v1,rfl,o1,b1⟩;obtain ⟨ra,rc,oa,oc,rfl,s1,s2⟩:=o1.read;generalize hR:resS (repO (x.pH k) (x.pL k) (x.hH k) (x.hL k))=R at *;generalize hT:(repO (x.pH k) (x.pL k) (x.hH k) (x.hL k)).isSome=T at *;have HO:Hid (resS (repO (x.pH k) (x.pL k) (x.hH k) (x.hL k))=R/\(repO (x.pH k) (x.pL k) (x.hH k) (x.hL k)).isSome=T):=⟨hR,hT⟩
   have hRl:=qr3 (x.pH k) (x.pL k) (x.hH k) (x.hL k);rw [hR] at hRl;have HRL:Hid (R.rs.length<=1048576/\R.os.length<=1048576):=hRl;have B1:Hid (Below w.heap.size w w1):=hbw.trans (b1.mono hbw.size);have N2:Hid (BoxC (w1.alloc (oQ1 R.p ra R.rs.length rc oa R.os.length oc R.c)) w1.heap.size (.int .i64 R.p) (.slice ra R.rs.length rc) (.slice oa R.os.length oc) (.int .i64 R.c)):=BoxC.new w1 _ _ _ _ _;have B2:Hid (Below w.heap.size w (w1.alloc (oQ1 R.p ra R.rs.length rc oa R.os.length oc R.c))):=B1.trans ((zS _ _).mono B1.size);have S2:Hid (Sl (w1.alloc (oQ1 R.p ra R.rs.length rc oa R.os.length oc R.c)) ra R.rs/\Sl (w1.alloc (oQ1 R.p ra R.rs.length rc oa R.os.length oc R.c)) oa R.os):=⟨s1.bw (zS _ _),s2.bw (zS _ _)⟩
   clear o1 b1 s1 s2 ck ch b4 HI HE hbw hR hT hRl B1
   rcases zK T with rfl | rfl
   ·have HP:Hid (eqS R (x.sS k)=true ↔ x.StP k):=by
     show eqS R (x.sS k)=true ↔ x.StP k;rw [quo];unfold SysIn.StP;cases hr:repO (x.pH k) (x.pL k) (x.hH k) (x.hL k) with
     | none=>have:=HO.2;rw [hr] at this;cases this
     | some S0=>
      have:=HO.1;rw [hr] at this;rw [show S0=R from this];exact ⟨fun e=>by rw [e],fun e=>Option.some.inj e⟩
    go_wp2_with fail
    generalize w1.alloc (oQ1 R.p ra R.rs.length rc oa R.os.length oc R.c)=w2 at *;generalize w1.heap.size=Y at *;obtain ⟨k0,k1,k2,k3⟩:=N2.out;obtain ⟨-,x1,-,-,-⟩:=HB.bw B2.out;obtain ⟨bs,os,es,s0,s1,s2,s3⟩:=(HG.bw B2.out).s.at hks;rw [es] at x1;have HST:Hid (Sl w2 (x.sQ k).ra (x.sQ k).rs/\Sl w2 (x.sQ k).oa (x.sQ k).os):=(HG.bw B2.out).s.lst k hks;have HSL:Hid ((x.sQ k).rs.length<=1048576/\(x.sQ k).os.length<=1048576):=HL.s.2 k hks;have k0':=cell_regrown k0;have k1':=cell_regrown k1;have k2':=cell_regrown k2;have k3':=cell_regrown k3;have x1':=cell_regrown x1;have s0':=cell_regrown s0;have s1':=cell_regrown s1;have s2':=cell_regrown s2;have s3':=cell_regrown s3;clear es
    have HC:Hid (∀ d os',Calls prog 182 #[stV R.p ra R.rs.length rc oa R.os.length oc R.c,stV (x.sQ k).p (x.sQ k).ra (x.sQ k).rs.length (x.sQ k).rc (x.sQ k).oa (x.sQ k).os.length (x.sQ k).oc (x.sQ k).c] (grow (redrawn w2 d) os') fun e w'=>e=.returned (.bool (eqS R (x.sS k)))/\Below (grow (redrawn w2 d) os').heap.size (grow (redrawn w2 d) os') w'):=fun d os'=>
     qgl R (x.sS k) _ _ _ _ _ _ _ _ _ HRL.1 HRL.2 HSL.1 HSL.2 (S2.1.bw (below_regrown w2 d os')) (S2.2.bw (below_regrown w2 d os')) (HST.1.bw (below_regrown w2 d os')) (HST.2.bw (below_regrown w2 d os'))
    refine wp_region_quiet_below (by kernel_rfl) (by kernel_rfl) ?_
    repeat (quiet_step (first|(go_at_call 182;exact Calls.regrown_of (HC.out _ _))))
    refine wpQuiet_nil ?_;intro _ hw';obtain ⟨⟨dq,osq⟩,hw''⟩:=hw';subst hw'';have B3:Hid (Below w.heap.size w (grow (redrawn w2 dq) osq)):=B2.trans ((below_regrown w2 dq osq).mono B2.size);generalize grow (redrawn w2 dq) osq=w3 at *;clear k0' k1' k2' k3' x1' s0' s1' s2' s3' k0 k1 k2 k3 x1 s0 s1 s2 s3 HC
    rcases zK (eqS R (x.sS k)) with t | t
    ·have HZ':Hid (∀ j,j<k+1->x.StP j):=fun j hj=>by
      by_cases e:j=k
      ·subst e
       exact HP.1 t
      ·exact HZ.out j (by omega)
     rw [t];clear HZ t;go_wp2;go_roundw
     case rel=>exact ⟨k+1,by omega,by go_num,B3.out,HZ'.out⟩
     case measure=>simp [intOf];omega
    ·have HN:Hid (qB (∀ p,p<x.pn->x.StP p)=false):=qa7 fun h=>by
      have:=HP.2 (h k hlt);rw [t] at this;cases this
     rw [t];clear HZ t;go_wp2;go_ret;rw [HN.out];exact ⟨rfl,B3.out⟩
   ·have HN:Hid (qB (∀ p,p<x.pn->x.StP p)=false):=qa7 fun h=>by
     have h1:repO (x.pH k) (x.pL k) (x.hH k) (x.hL k)=some (x.sS k):=h k hlt;have h2:=HO.2;rw [h1] at h2;cases h2
    clear HZ;go_wp2_with fail
    generalize w1.alloc (oQ1 R.p ra R.rs.length rc oa R.os.length oc R.c)=w2 at *
    go_quiet (fail)
    go_wp2;go_ret;rw [HN.out];exact ⟨rfl,yB B2.out _⟩
  ·have HN:Hid (qB (∀ p,p<x.pn->x.StP p)=true):=qbv fun j hj=>HZ.out j (by omega)
   clear HZ;go_wp2;go_ret;rw [HN.out];exact ⟨rfl,hbw⟩
theorem qqo (X:Nat) (x:SysIn) (w:World) (hB:SysB w X x) (hG:SysG w x) (hL:x.Len):
  Calls prog 133 #[.pointer (some ⟨X,4,none⟩)] w (rB w (.bool (qB (∀ p,p<x.hn->∀ i,i<x.hL p->belB (x.hH p i).q x.hn=true)))):=by
 have HB:Hid (SysB w X x):=hB;have HG:Hid (SysG w x):=hG;have HL:Hid x.Len:=hL;have hhn:(x.hn:Int)<=1048576:=by have:=hL.h.1;omega
 obtain ⟨-,-,-,-,b4⟩:=hB;clear hG hL
 go_enter func133,ntmps133
 go_wp2_with fail
 clear b4
 go_loopw [12] (fun i wr=>∃ k:Nat,k<=x.hn/\i=.int .i64 k/\Below w.heap.size w wr/\Hid (∀ j,j<k->∀ i,i<x.hL j->belB (x.hH j i).q x.hn=true)) (fun i _=>x.hn - (intOf i).toNat)
 case atStart=>exact ⟨0,nD _,rfl,nE _ _,fun j hj=>by omega⟩
 case round=>
  obtain ⟨k,hk,rfl,hbw,HZ⟩:=hrel;by_cases hlt:k<x.hn
  ·have hlt':(k:Int)<(x.hn:Int):=by omega
   obtain ⟨bh,oh,eh,ch⟩:=(HG.bw hbw).h.at hlt;have hll:(x.hL k:Int)<=1048576:=by have:=HL.h.2 k hlt;omega
   rw [eh];go_wp2_with fail
   clear ch
   go_loopw [18] (fun i wr=>∃ j:Nat,j<=x.hL k/\i=.int .i64 j/\Below w.heap.size w wr/\Hid (∀ i,i<j->belB (x.hH k i).q x.hn=true)) (fun i _=>x.hL k - (intOf i).toNat)
   case atStart=>exact ⟨0,nD _,rfl,hbw,fun j hj=>by omega⟩
   case round=>
    clear hbw;obtain ⟨j,hj,rfl,hbw,HY⟩:=hrel;by_cases hjl:j<x.hL k
    ·have hjl':(j:Int)<(x.hL k:Int):=by omega
     obtain ⟨-,-,-,-,b4⟩:=HB.bw hbw;obtain ⟨b,off,ea,-,c0,c1,c2⟩:=((HG.bw hbw).hi k hlt).at hjl;rw [ea];rw [eh] at b4;go_wp2_with fail
     have B2:Hid (Below w.heap.size w (wr.alloc (oQ0 (x.hH k j).k (x.hH k j).q (x.hH k j).v))):=hbw.trans ((zS _ _).mono hbw.size);have x4:(wr.alloc (oQ0 (x.hH k j).k (x.hH k j).q (x.hH k j).v)).cell? ⟨X,4,none⟩=some (.slice (some ⟨bh,oh,none⟩) x.hn x.hc):=((zS _ _).cell (p:=⟨X,4,none⟩) (zJ wr _ b4)).trans b4;have xe:(wr.alloc (oQ0 (x.hH k j).k (x.hH k j).q (x.hH k j).v)).cell? ⟨wr.heap.size,1,none⟩=some (.int .i64 (x.hH k j).q):=zV _ _ _ 1 rfl;clear c0 c1 c2 b4;generalize wr.alloc (oQ0 (x.hH k j).k (x.hH k j).q (x.hH k j).v)=w2 at *;have x4':=cell_regrown x4;have xe':=cell_regrown xe;refine wp_region_quiet_below (by kernel_rfl) (by kernel_rfl) ?_
     repeat (quiet_step (first|(go_at_call 27;exact Calls.regrown_same (isBelow_any _ _ _))))
     refine wpQuiet_nil ?_;intro _ hw';obtain ⟨⟨dq,osq⟩,hw''⟩:=hw';subst hw'';have B3:Hid (Below w.heap.size w (grow (redrawn w2 dq) osq)):=B2.trans ((below_regrown w2 dq osq).mono B2.size);generalize grow (redrawn w2 dq) osq=w3 at *;clear x4' xe' x4 xe
     rcases zK (belB (x.hH k j).q x.hn) with t | t
     ·have HY':Hid (∀ i,i<j+1->belB (x.hH k i).q x.hn=true):=fun i hi=>by
       by_cases e:i=j
       ·subst e
        exact t
       ·exact HY.out i (by omega)
      rw [t];clear HY t;go_wp2;go_roundw
      case rel=>exact ⟨j+1,by omega,by go_num,B3.out,HY'.out⟩
      case measure=>simp [intOf];omega
     ·have HN:Hid (qB (∀ p,p<x.hn->∀ i,i<x.hL p->belB (x.hH p i).q x.hn=true)=false):=qa7 fun h=>by
       have:=h k hlt j hjl;rw [t] at this;cases this
      rw [t];clear HY t;go_wp2;go_ret;rw [HN.out];exact ⟨rfl,B3.out⟩
    ·have HZ':Hid (∀ p,p<k+1->∀ i,i<x.hL p->belB (x.hH p i).q x.hn=true):=fun p hp i hi=>by
      by_cases e:p=k
      ·subst e
       exact HY.out i (by omega)
      ·exact HZ.out p (by omega) i hi
     clear HZ HY;go_wp2;go_roundw
     case rel=>exact ⟨k+1,by omega,by go_num,hbw,HZ'.out⟩
     case measure=>simp [intOf];omega
  ·have HN:Hid (qB (∀ p,p<x.hn->∀ i,i<x.hL p->belB (x.hH p i).q x.hn=true)=true):=qbv fun j hj=>HZ.out j (by omega)
   clear HZ;go_wp2;go_ret;rw [HN.out];exact ⟨rfl,hbw⟩
theorem qht {ops:Array Oper} {o:Oper} {a:Act} {w:World} {K:Act->World->Prop} {Q:Exit->Act->World->Prop} {E:Prop} (hg:o.guard=none) (s x:Operand)
  (ho:o.op=.call { callee:=.builtin .append,args:=#[s,x],argTypes:=#[28,28] })
  (B c:Nat) (v:Value) (a0:Option Addr) (xs ys:List Int) (hs:a.eval s=v) (hx:a.eval x=.slice a0 ys.length c) (hv:OwnI w B v xs) (hy:Sl w a0 ys) (hn:xs.length+ys.length<=4000000) (hB:B<=w.heap.size)
  (h:∀ v' w',OwnI w' B v' (xs ++ ys)->w.grownBy w' v.ownBlock->K (a.put o.dst v') w'):
  if Region.wanted o (yielded ops a.tmps)=true then Oper.wp prog o a w K Q else E:=by
 obtain ⟨v',w',h1,h2,h3,-⟩:=qd7 w o.type B c v a0 xs ys hv hy hn hB;have hw:Region.wanted o (yielded ops a.tmps)=true:=by simp [Region.wanted,hg]
 rw [nC hw];unfold Oper.wp execOp;simp only [ho,resolve,invoke,builtin,Sem.run_bind,Sem.run_pure,Result.andThen_ok,List.map_toArray,List.map_cons,List.map_nil,hs,hx,h1];exact h v' w' h2 h3
theorem qeb {ops:Array Oper} {o:Oper} {a:Act} {w:World} {K:Act->World->Prop} {Q:Exit->Act->World->Prop} {E:Prop} (hg:o.guard=none) (f:FuncId) (args:Array Operand) (ts:Array TypeId)
  (ho:o.op=.call { callee:=.value (.func f),args:=args,argTypes:=ts }) (vals:Array Value) (hv:args.map a.eval=vals) (hen:∀ vs wx,(callFunc f vs).run prog wx=.ok (.enter f vs) wx) {post:Ending->World->Prop} (hc:Calls prog f vals w post)
  (h:∀ e w',post e w'->∃ v,e=.returned v/\K (a.put o.dst v) w'):
  if Region.wanted o (yielded ops a.tmps)=true then Oper.wp prog o a w K Q else E:=by
 have hw:Region.wanted o (yielded ops a.tmps)=true:=by simp [Region.wanted,hg]
 rw [nC hw]
 have hr:(execOp a.eval o).run prog w=.ok (.enter f vals) w:=by
  unfold execOp;simp [ho,resolve,invoke,hv,hen,Act.eval,Deferred.ofValue]
 unfold Oper.wp;rw [hr,Oper.upon_enter];refine hc.mono fun e w' hp=>?_;obtain ⟨v,rfl,hk⟩:=h e w' hp;exact hk
theorem qv2 (X:Nat) (x:SysIn) (a b:Nat) (w:World) (hB:SysB w X x) (hG:SysG w x) (hL:x.Len) (hb:b<x.hn):
  Calls prog 185 #[.pointer (some ⟨X,4,none⟩),.int .i64 a,.int .i64 b] w fun e w'=>∃ v,e=.returned v/\OwnI w' w.heap.size v (valL (x.hH b) 3 a (x.hL b))/\Below w.heap.size w w':=by
 have HE:Hid (EvL w (x.hA b) (x.hL b) (x.hH b)):=hG.hi b hb;have HLb:Hid (x.hL b<=1048576):=hL.h.2 b hb;have hb':(b:Int)<(x.hn:Int):=by omega
 obtain ⟨bh,oh,eh,ch⟩:=hG.h.at hb;obtain ⟨-,-,-,-,c4⟩:=hB;rw [eh] at c4;clear hG hL eh
 go_enter func185,ntmps185
 go_wp2_with fail
 refine (qhc (x.hA b) (x.hL b) _ (x.hH b) 3 a w HLb.out HE.out).mono ?_;rintro e w1 ⟨v,rfl,o1,b1⟩;have O1:Hid (OwnI w1 w.heap.size v (valL (x.hH b) 3 a (x.hL b))/\Below w.heap.size w w1):=⟨o1,b1⟩
 clear o1 b1 c4 ch;go_wp2;go_ret;exact ⟨_,rfl,O1.1,O1.2⟩
theorem qw4 (X:Nat) (x:SysIn) (a b:Nat) (w:World) (hB:SysB w X x) (hG:SysG w x) (hL:x.Len) (ha:a<x.hn):
  Calls prog 187 #[.pointer (some ⟨X,4,none⟩),.int .i64 a,.int .i64 b] w fun e w'=>∃ v,e=.returned v/\OwnI w' w.heap.size v (valL (x.hH a) 2 b (x.hL a))/\Below w.heap.size w w':=by
 have HE:Hid (EvL w (x.hA a) (x.hL a) (x.hH a)):=hG.hi a ha;have HLb:Hid (x.hL a<=1048576):=hL.h.2 a ha;have ha':(a:Int)<(x.hn:Int):=by omega
 obtain ⟨bh,oh,eh,ch⟩:=hG.h.at ha;obtain ⟨-,-,-,-,c4⟩:=hB;rw [eh] at c4;clear hG hL eh
 go_enter func187,ntmps187
 go_wp2_with fail
 refine (qhc (x.hA a) (x.hL a) _ (x.hH a) 2 b w HLb.out HE.out).mono ?_;rintro e w1 ⟨v,rfl,o1,b1⟩;have O1:Hid (OwnI w1 w.heap.size v (valL (x.hH a) 2 b (x.hL a))/\Below w.heap.size w w1):=⟨o1,b1⟩
 clear o1 b1 c4 ch;go_wp2;go_ret;exact ⟨_,rfl,O1.1,O1.2⟩
structure SysIn.WyP (x:SysIn) (i:Nat):Prop where
 ok:(decide (x.wL i<=12) && qcv (x.wH i) (x.wL i))=true
 eq:valL (x.hH (i % x.pn)) 3 ((i / x.pn:Nat):Int) (x.hL (i % x.pn)) ++ numL (x.wH i) (x.wL i)=valL (x.hH (i / x.pn)) 2 ((i % x.pn:Nat):Int) (x.hL (i / x.pn))
theorem que (X:Nat) (x:SysIn) (w:World) (hB:SysB w X x) (hG:SysG w x) (hL:x.Len) (hh:x.hn=x.pn) (hw:x.wn=x.pn*x.pn) (h1:1<=x.pn) (h4:x.pn<=4) (h200:∀ p,p<x.hn->x.hL p<=200):
  Calls prog 134 #[.pointer (some ⟨X,0,none⟩)] w (rB w (.bool (qB (∀ i,i<x.wn->x.WyP i)))):=by
 have HB:Hid (SysB w X x):=hB;have HG:Hid (SysG w x):=hG;have HL:Hid x.Len:=hL;have hwn:(x.wn:Int)<=1048576:=by have:=hL.w.1;omega
 have hp1:(1:Int)<=(x.pn:Int):=by omega
 have hp4:(x.pn:Int)<=4:=by omega
 have hp0:¬ (x.pn:Int)=0:=by omega
 have HS:Hid (x.hn=x.pn/\x.wn=x.pn*x.pn/\1<=x.pn/\x.pn<=4):=⟨hh,hw,h1,h4⟩
 have H2:Hid (∀ p,p<x.hn->x.hL p<=200):=h200;obtain ⟨b0,-,b2,-,-⟩:=hB;clear hG hL hh hw h1 h4 h200
 go_enter func134,ntmps134
 go_wp2_with fail
 clear b0 b2
 go_loopw [20] (fun i wr=>∃ k:Nat,k<=x.wn/\i=.int .i64 k/\Below w.heap.size w wr/\Hid (∀ j,j<k->x.WyP j)) (fun i _=>x.wn - (intOf i).toNat)
 case atStart=>exact ⟨0,nD _,rfl,nE _ _,fun j hj=>by omega⟩
 case round=>
  obtain ⟨k,hk,rfl,hbw,HZ⟩:=hrel;by_cases hlt:k<x.wn
  ·have hlt':(k:Int)<(x.wn:Int):=by omega
   obtain ⟨bp,op,ep,ck⟩:=(HG.bw hbw).w.at hlt;have HI:Hid (ItL wr (x.wA k) (x.wL k) (x.wH k)):=(HG.bw hbw).wi k hlt;have HLk:Hid (x.wL k<=1048576):=HL.w.2 k hlt;rw [ep];clear ep;go_wp2_with fail
   refine (qv7 (x.wA k) (x.wL k) _ (x.wH k) wr HLk.out HI.out).mono ?_;rintro e w1 ⟨rfl,b1⟩;have B1:Hid (Below w.heap.size w w1):=hbw.trans (b1.mono hbw.size);have HI1:Hid (ItL w1 (x.wA k) (x.wL k) (x.wH k)):=HI.bw b1;clear b1 ck HI hbw
   rcases zK (decide (x.wL k<=12) && qcv (x.wH k) (x.wL k)) with t | t
   case inr=>
    have HN:Hid (qB (∀ i,i<x.wn->x.WyP i)=false):=qa7 fun h=>by
     have:=(h k hlt).ok;rw [t] at this;cases this
    rw [t];clear HZ t;go_wp2;go_ret;rw [HN.out];exact ⟨rfl,B1.out⟩
   have HT:Hid ((decide (x.wL k<=12) && qcv (x.wH k) (x.wL k))=true):=t;have HH:Hid (x.wL k<=12/\∀ p,p<x.hn->x.hL p<=200):=⟨by simp at t;exact t.1,H2.out⟩
   rw [t];clear t
   have hqa:k / x.pn<x.pn:=by
    have h:=HS.out;exact Nat.div_lt_of_lt_mul (by rw [<- h.2.1];exact hlt)
   have hqb:k % x.pn<x.pn:=Nat.mod_lt _ (by have:=HS.out;omega);have eq1:Int.tdiv (k:Int) (x.pn:Int)=((k / x.pn:Nat):Int):=(Int.ofNat_tdiv k x.pn).symm;have eq2:Int.tmod (k:Int) (x.pn:Int)=((k % x.pn:Nat):Int):=(Int.ofNat_tmod k x.pn).symm;have HW:Hid (x.WyP k ↔ valL (x.hH (k % x.pn)) 3 ((k / x.pn:Nat):Int) (x.hL (k % x.pn)) ++ numL (x.wH k) (x.wL k)=valL (x.hH (k / x.pn)) 2 ((k % x.pn:Nat):Int) (x.hL (k / x.pn))):=⟨fun h=>h.eq,fun h=>⟨HT.out,h⟩⟩
   generalize k / x.pn=a at *;generalize k % x.pn=b at *;have ha':(a:Int)<4:=by omega
   have hb':(b:Int)<4:=by omega
   have HAB:Hid (a<x.hn/\b<x.hn):=by have:=HS.out;exact ⟨by omega,by omega⟩
   clear hqa hqb;go_wp2_with fail
   go_quiet (fail)
   have B2:Hid (Below w.heap.size w (w1.drewN nq)):=yB B1.out _;have HI2:Hid (ItL (w1.drewN nq) (x.wA k) (x.wL k) (x.wH k)):=HI1.out;generalize w1.drewN nq=w2 at *;clear B1 HI1
   have HLs:Hid ((valL (x.hH b) 3 a (x.hL b)).length+(numL (x.wH k) (x.wL k)).length<=4000000):=by
    have h1:=qgt (x.hH b) 3 a (x.hL b);have h2:=qgn (x.wH k) (x.wL k);have h3:=HL.h.2 b HAB.2;have h4:=HLk.out;show _<=_;omega
   have HLs2:Hid ((valL (x.hH b) 3 a (x.hL b) ++ numL (x.wH k) (x.wL k)).length<=1048576/\(valL (x.hH a) 2 b (x.hL a)).length<=1048576):=by
    have h1:=qgt (x.hH b) 3 a (x.hL b);have h2:=qgn (x.wH k) (x.wL k);have h3:=HH.2 b HAB.2;have h4:=HH.1;have h5:=qgt (x.hH a) 2 b (x.hL a);have h6:=HL.h.2 a HAB.1;refine ⟨?_,by omega⟩;rw [List.length_append];omega
   go_wp2_with fail
   go_region_law (first
    | (refine qeb rfl 185 _ _ rfl #[.pointer (some ⟨X,4,none⟩),.int .i64 a,.int .i64 b] (by simp [Act.eval,Act.put]) (zZ func185) (qv2 X x a b w2.drew (HB.bw B2.drew) (HG.bw B2.drew) HL.out HAB.2) ?_;rintro e w3 ⟨v3,rfl,o3,b3⟩;refine ⟨_,rfl,?_⟩;have O3:Hid (OwnI w3 w2.heap.size v3 (valL (x.hH b) 3 a (x.hL b))):=o3;have B3:Hid (Below w.heap.size w w3/\w2.heap.size<=w3.heap.size):=⟨B2.drew.trans (b3.mono B2.size),b3.size⟩;clear o3 b3)
    | (refine qeb rfl 186 _ _ rfl #[.slice (x.wA k) (x.wL k) (x.wC k)] (by simp [Act.eval]) (zZ func186) (qk6 (x.wA k) (x.wL k) _ (x.wH k) w3 HLk.out ((HG.bw B3.1).wi k hlt)) ?_;rintro e w4 ⟨v4,rfl,o4,b4⟩;refine ⟨_,rfl,?_⟩;obtain ⟨na,nc,rfl,s4⟩:=o4.form;have S4:Hid (Sl w4 na (numL (x.wH k) (x.wL k))):=s4;have O4:Hid (OwnI w4 w2.heap.size v3 (valL (x.hH b) 3 a (x.hL b))):=O3.bw b4;have B4:Hid (Below w.heap.size w w4/\w2.heap.size<=w4.heap.size):=⟨B3.1.trans (b4.mono B3.1.size),zO B3.2 b4.size⟩;clear o4 b4 s4)
    | (refine qht rfl _ _ rfl w2.heap.size nc v3 na (valL (x.hH b) 3 a (x.hL b)) (numL (x.wH k) (x.wL k)) (by simp [Act.eval]) (by simp [Act.eval]) O4.out S4.out HLs.out B4.2 ?_;intro v5 w5 o5 g5;obtain ⟨a5,c5,rfl,-⟩:=o5.form;have O5:Hid (OwnI w5 w2.heap.size (.slice a5 (valL (x.hH b) 3 a (x.hL b) ++ numL (x.wH k) (x.wL k)).length c5) (valL (x.hH b) 3 a (x.hL b) ++ numL (x.wH k) (x.wL k))):=o5;have B5:Hid (Below w.heap.size w w5):=Below.grown B4.1 g5 (zO B2.size B4.2) (fun q hq=>zO B2.size (O4.lt q hq).1);clear o5 g5)
    | (refine qeb rfl 187 _ _ rfl #[.pointer (some ⟨X,4,none⟩),.int .i64 a,.int .i64 b] (by simp [Act.eval]) (zZ func187) (qw4 X x a b w5 (HB.bw B5.out) (HG.bw B5.out) HL.out HAB.1) ?_;rintro e w6 ⟨v6,rfl,o6,b6⟩;refine ⟨_,rfl,?_⟩;obtain ⟨a6,c6,rfl,s6⟩:=o6.form;have S6:Hid (Sl w6 a6 (valL (x.hH a) 2 b (x.hL a))/\Sl w6 a5 (valL (x.hH b) 3 a (x.hL b) ++ numL (x.wH k) (x.wL k))):=⟨s6,O5.slOf.bw b6⟩;have B6:Hid (Below w.heap.size w w6):=B5.trans (b6.mono B5.size);clear o6 b6 s6)
    | (refine qeb rfl 184 _ _ rfl #[.slice a5 (valL (x.hH b) 3 a (x.hL b) ++ numL (x.wH k) (x.wL k)).length c5,.slice a6 (valL (x.hH a) 2 b (x.hL a)).length c6] (by simp [Act.eval]) (zZ func184) (qfo a5 a6 c5 c6 _ _ w6 HLs2.1 HLs2.2 S6.2 S6.1) ?_;rintro e w7 ⟨rfl,b7⟩;refine ⟨_,rfl,?_⟩;have B7:Hid (Below w.heap.size w w7):=B6.trans (b7.mono B6.size);clear b7))
   clear O3 O4 O5 B3 B4 B5 B6 S4 S6 HLs HLs2
   have HE:Hid (x.WyP k ↔ (valL (x.hH b) 3 a (x.hL b) ++ numL (x.wH k) (x.wL k) == valL (x.hH a) 2 b (x.hL a))=true):=by
    show x.WyP k ↔ (valL (x.hH b) 3 a (x.hL b) ++ numL (x.wH k) (x.wL k) == valL (x.hH a) 2 b (x.hL a))=true;rw [beq_iff_eq];exact HW.out
   generalize (valL (x.hH b) 3 a (x.hL b) ++ numL (x.wH k) (x.wL k) == valL (x.hH a) 2 b (x.hL a))=T at *
   rcases zK T with rfl | rfl
   ·have HZ':Hid (∀ j,j<k+1->x.WyP j):=fun j hj=>by
     by_cases e:j=k
     ·subst e
      exact HE.2 rfl
     ·exact HZ.out j (by omega)
    clear HZ HW;go_wp2;go_roundw
    case rel=>exact ⟨k+1,by omega,by go_num,B7.out,HZ'.out⟩
    case measure=>simp [intOf];omega
   ·have HN:Hid (qB (∀ i,i<x.wn->x.WyP i)=false):=qa7 fun h=>by
     have:=HE.1 (h k hlt);cases this
    clear HZ HW;go_wp2;go_ret;rw [HN.out];exact ⟨rfl,B7.out⟩
  ·have HN:Hid (qB (∀ i,i<x.wn->x.WyP i)=true):=qbv fun j hj=>HZ.out j (by omega)
   clear HZ;go_wp2;go_ret;rw [HN.out];exact ⟨rfl,hbw⟩
def sysL (pa:Option Addr) (pn pc:Nat) (sa:Option Addr) (sn sc:Nat) (wa:Option Addr) (wn wc:Nat) (ha:Option Addr) (hn hc:Nat):List Value:=
 [.slice pa pn pc,.slice sa sn sc,.slice wa wn wc,.slice ha hn hc,.slice ha hn hc,.int .i64 0,.int .i64 0,.int .i64 0,.int .i64 0,.int .i64 0,.int .i64 0,.int .i64 0,.int .i64 0,.int .i64 0,.int .i64 0,.int .i64 0,.int .i64 0,.int .i64 0,.int .i64 0,.int .i64 0,.int .i64 0,.int .i64 0,.int .i64 0,.int .i64 0,.int .i64 0]
theorem qh2 (pa:Option Addr) (pn pc:Nat) (sa:Option Addr) (sn sc:Nat) (wa:Option Addr) (wn wc:Nat) (ha:Option Addr) (hn hc:Nat):(sysL pa pn pc sa sn sc wa wn wc ha hn hc).length=25:=rfl
theorem qh3 (pa:Option Addr) (pn pc:Nat) (sa:Option Addr) (sn sc:Nat) (wa:Option Addr) (wn wc:Nat) (ha:Option Addr) (hn hc:Nat):∀ v ∈ sysL pa pn pc sa sn sc wa wn wc ha hn hc,v.oneCell'=true:=by
 intro v hv;simp only [sysL,List.mem_cons,List.not_mem_nil,or_false] at hv
 rcases hv with rfl | rfl | rfl | rfl | rfl | rfl | rfl | rfl | rfl | rfl | rfl | rfl | rfl | rfl | rfl | rfl | rfl | rfl | rfl | rfl | rfl | rfl | rfl | rfl | rfl <;> rfl
theorem qei:(prog.info? 178).map (·.size)=some 25:=by kernel_rfl
theorem qf1 {fn:Func} {ra rb:Nat} {ty:TypeId} (h:fn.results=#[.cell ra ty,.tmp rb]) (tmps:Array Value) (w:World) (N:Nat) (cs:List Value) (d:TypeDesc) (ha:tmps.getD ra undef=.pointer (some ⟨N,0,none⟩)) (hc:w.rangeAt N 0 cs) (hu:prog.underlying ty=some d) (hd:d.isRow=true) (hi:(prog.info? ty).map (·.size)=some cs.length):
  (results fn tmps).run prog w=.ok (.tuple #[.agg cs.toArray,tmps.getD rb undef]) w:=by
 have hl:=run_loadVar_mid (P:=prog) w N 0 ty cs d hc hu hd hi;rw [Array.getD_eq_getD_getElem?] at ha;simp [results,h,ha,asAddr,hl]
theorem qga (w:World) (zs:Array Value) (t:TypeId) (n N:Nat) (hn:zs.size=n) (hN:N=w.heap.size):(w.alloc (.cells zs t)).there N 0 n:=fun j hj=>by
 subst hN;refine ⟨?_,yA _ _ _ _ rfl⟩;rw [nL,zV _ _ _ j rfl,Array.getElem?_eq_getElem (by omega)];rfl
theorem qct (pa:Option Addr) (pn pc:Nat) (sa:Option Addr) (sn sc:Nat) (wa:Option Addr) (wn wc:Nat) (ha:Option Addr) (hn hc:Nat) (w:World) (hh:(pn:Int)<1\/(¬ (pn:Int)<1/\(4:Int)<(pn:Int))\/(¬ (pn:Int)<1/\¬ (4:Int)<(pn:Int)/\((sn:Int) != (pn:Int))=true)\/(¬ (pn:Int)<1/\¬ (4:Int)<(pn:Int)/\((sn:Int) != (pn:Int))=false/\((hn:Int) != (pn:Int))=true)\/(¬ (pn:Int)<1/\¬ (4:Int)<(pn:Int)/\((sn:Int) != (pn:Int))=false/\((hn:Int) != (pn:Int))=false/\0<=(pn:Int)*(pn:Int)/\(pn:Int)*(pn:Int)<=16/\((wn:Int) != (pn:Int)*(pn:Int))=true)):
  Calls prog 130 #[sysV pa pn pc sa sn sc wa wn wc ha hn hc] w (rB w (.tuple #[.agg (sysL none 0 0 none 0 0 none 0 0 none 0 0).toArray,.bool false])):=by
 have hl:=qh2 none 0 0 none 0 0 none 0 0 none 0 0;have ho:=qh3 none 0 0 none 0 0 none 0 0 none 0 0;generalize hcs:sysL none 0 0 none 0 0 none 0 0 none 0 0=cs at *;have HC:Hid (sysL none 0 0 none 0 0 none 0 0 none 0 0=cs):=hcs;have hs:cs.toArray.size=25:=by simpa using hl
 have HT:Hid (((w.alloc (oQ4 pa pn pc sa sn sc wa wn wc ha hn hc)).alloc (zQ6)).there (w.heap.size+1) 0 cs.toArray.size):=qga _ _ _ _ _ (by rw [hs];rfl) (by simp);have HI:Hid ((prog.info? 178).map (·.size)=some cs.length):=by rw [hl];exact qei
 have HO:Hid (cs.toArray.all (·.oneCell')=true):=all_oneCell_toArray ho;have BW:Hid (Below w.heap.size w ((w.alloc (oQ4 pa pn pc sa sn sc wa wn wc ha hn hc)).alloc (zQ6))):=(zS _ _).trans ((zS _ _).mono (by simp));have BX:Hid (BoxC ((w.alloc (oQ4 pa pn pc sa sn sc wa wn wc ha hn hc)).alloc (zQ6)) w.heap.size (.slice pa pn pc) (.slice sa sn sc) (.slice wa wn wc) (.slice ha hn hc)):=(BoxC.new w _ _ _ _ _).bw (zS _ _);clear hcs hl ho hs
 rcases hh with h1 | ⟨h1,h4⟩ | ⟨h1,h4,h5⟩ | ⟨h1,h4,h5,h6⟩ | ⟨h1,h4,h5,h6,h8,h9,h7⟩
 all_goals
  go_enter func130,ntmps130
  go_upto_region 1 with fail
  generalize ((w.alloc (oQ4 pa pn pc sa sn sc wa wn wc ha hn hc)).alloc (zQ6))=W0 at *;obtain ⟨k0,k1,k2,k3⟩:=BX.out;go_upto_region 3 with fail
  go_wp2_with (refine wpList_store_mid rfl 178 (.tmp 2) (.tmp 37) rfl (w.heap.size+1) 0 cs.toArray rfl (by rw [<- HC.out];rfl) HT.out (by simpa using HI.out) HO.out ?_)
  have HR:Hid ((W0.setCells (w.heap.size+1) 0 cs).rangeAt (w.heap.size+1) 0 cs):=World.rangeAt_setCells_same _ _ _ _ (by simpa using HT.out);have BE:Hid (Below w.heap.size w (W0.setCells (w.heap.size+1) 0 cs)):=BW.trans ((qaa.sets (P:=fun b=>b=w.heap.size+1) rfl _ _ (qaa.refl _ _)).bw BW.size fun b e=>by omega);clear HT HC BW BX;generalize W0.setCells (w.heap.size+1) 0 cs=W1 at *;exact bodyPost_ret (qf1 results130 _ _ (w.heap.size+1) cs _ rfl HR.out Tryz.underlying178 rfl HI.out) rfl ⟨rfl,BE.out⟩
theorem qou (pa:Option Addr) (pn pc:Nat) (sa:Option Addr) (sn sc:Nat) (wa:Option Addr) (wn wc:Nat) (ha:Option Addr) (hn hc:Nat) (w:World) (h1:¬ (pn:Int)<1) (h4:¬ (4:Int)<(pn:Int)) (h5:((sn:Int) != (pn:Int))=false) (h6:((hn:Int) != (pn:Int))=false) (h8:0<=(pn:Int)*(pn:Int)) (h9:(pn:Int)*(pn:Int)<=16) (h7:((wn:Int) != (pn:Int)*(pn:Int))=false):
  Calls prog 130 #[sysV pa pn pc sa sn sc wa wn wc ha hn hc] w (rB w (.tuple #[.agg (sysL pa pn pc sa sn sc wa wn wc ha hn hc).toArray,.bool true])):=by
 have hl:=qh2 pa pn pc sa sn sc wa wn wc ha hn hc;have ho:=qh3 pa pn pc sa sn sc wa wn wc ha hn hc;generalize hcs:sysL pa pn pc sa sn sc wa wn wc ha hn hc=cs at *;have HC:Hid (sysL pa pn pc sa sn sc wa wn wc ha hn hc=cs):=hcs;have hs:cs.toArray.size=25:=by simpa using hl
 have HT:Hid (((w.alloc (oQ4 pa pn pc sa sn sc wa wn wc ha hn hc)).alloc (zQ6)).there (w.heap.size+1) 0 cs.toArray.size):=qga _ _ _ _ _ (by rw [hs];rfl) (by simp);have HI:Hid ((prog.info? 178).map (·.size)=some cs.length):=by rw [hl];exact qei
 have HO:Hid (cs.toArray.all (·.oneCell')=true):=all_oneCell_toArray ho;have BW:Hid (Below w.heap.size w ((w.alloc (oQ4 pa pn pc sa sn sc wa wn wc ha hn hc)).alloc (zQ6))):=(zS _ _).trans ((zS _ _).mono (by simp));have BX:Hid (BoxC ((w.alloc (oQ4 pa pn pc sa sn sc wa wn wc ha hn hc)).alloc (zQ6)) w.heap.size (.slice pa pn pc) (.slice sa sn sc) (.slice wa wn wc) (.slice ha hn hc)):=(BoxC.new w _ _ _ _ _).bw (zS _ _);clear hcs hl ho hs
 go_enter func130,ntmps130
 go_upto_region 1 with fail
 generalize ((w.alloc (oQ4 pa pn pc sa sn sc wa wn wc ha hn hc)).alloc (zQ6))=W0 at *;obtain ⟨k0,k1,k2,k3⟩:=BX.out;go_upto_region 4 with fail
 go_wp2_with (refine wpList_store_mid rfl 178 (.tmp 2) (.tmp 42) rfl (w.heap.size+1) 0 cs.toArray rfl (by rw [<- HC.out];rfl) HT.out (by simpa using HI.out) HO.out ?_)
 have HR:Hid ((W0.setCells (w.heap.size+1) 0 cs).rangeAt (w.heap.size+1) 0 cs):=World.rangeAt_setCells_same _ _ _ _ (by simpa using HT.out);have BE:Hid (Below w.heap.size w (W0.setCells (w.heap.size+1) 0 cs)):=BW.trans ((qaa.sets (P:=fun b=>b=w.heap.size+1) rfl _ _ (qaa.refl _ _)).bw BW.size fun b e=>by omega);clear HT HC BW BX;generalize W0.setCells (w.heap.size+1) 0 cs=W1 at *;exact bodyPost_ret (qf1 results130 _ _ (w.heap.size+1) cs _ rfl HR.out Tryz.underlying178 rfl HI.out) rfl ⟨rfl,BE.out⟩
theorem qqy (pa:Option Addr) (pn pc:Nat) (sa:Option Addr) (sn sc:Nat) (wa:Option Addr) (wn wc:Nat) (ha:Option Addr) (hn hc:Nat) (w:World) (h:¬ ((1<=pn/\pn<=4)/\sn=pn/\hn=pn/\wn=pn*pn)):
  Calls prog 130 #[sysV pa pn pc sa sn sc wa wn wc ha hn hc] w (rB w (.tuple #[.agg (sysL none 0 0 none 0 0 none 0 0 none 0 0).toArray,.bool false])):=by
 by_cases h1:(pn:Int)<1
 ·exact qct pa pn pc sa sn sc wa wn wc ha hn hc w (.inl h1)
 by_cases h4:(4:Int)<(pn:Int)
 ·exact qct pa pn pc sa sn sc wa wn wc ha hn hc w (.inr (.inl ⟨h1,h4⟩))
 rcases zK ((sn:Int) != (pn:Int)) with h5 | h5
 ·exact qct pa pn pc sa sn sc wa wn wc ha hn hc w (.inr (.inr (.inl ⟨h1,h4,h5⟩)))
 rcases zK ((hn:Int) != (pn:Int)) with h6 | h6
 ·exact qct pa pn pc sa sn sc wa wn wc ha hn hc w (.inr (.inr (.inr (.inl ⟨h1,h4,h5,h6⟩))))
 have h8:0<=(pn:Int)*(pn:Int):=Int.mul_nonneg (by omega) (by omega)
 have h9:(pn:Int)*(pn:Int)<=16:=by
  have:=Int.mul_le_mul (show (pn:Int)<=4 by omega) (show (pn:Int)<=4 by omega) (by omega) (by omega);omega
 rcases zK ((wn:Int) != (pn:Int)*(pn:Int)) with h7 | h7
 ·exact qct pa pn pc sa sn sc wa wn wc ha hn hc w (.inr (.inr (.inr (.inr ⟨h1,h4,h5,h6,h8,h9,h7⟩))))
 ·exfalso
  refine h ⟨⟨by omega,by omega⟩,?_,?_,?_⟩
  ·simp at h5
   omega
  ·simp at h6
   omega
  ·have h7':(wn:Int)=(pn:Int)*(pn:Int):=by simpa using h7
   have:((wn:Nat):Int)=((pn*pn:Nat):Int):=by rw [h7',Int.natCast_mul]
   omega
theorem qqz (pa:Option Addr) (pn pc:Nat) (sa:Option Addr) (sn sc:Nat) (wa:Option Addr) (wn wc:Nat) (ha:Option Addr) (hn hc:Nat) (w:World) (h:(1<=pn/\pn<=4)/\sn=pn/\hn=pn/\wn=pn*pn):
  Calls prog 130 #[sysV pa pn pc sa sn sc wa wn wc ha hn hc] w (rB w (.tuple #[.agg (sysL pa pn pc sa sn sc wa wn wc ha hn hc).toArray,.bool true])):=by
 obtain ⟨⟨h1,h4⟩,h5,h6,h7⟩:=h;have h8:0<=(pn:Int)*(pn:Int):=Int.mul_nonneg (by omega) (by omega)
 have h9:(pn:Int)*(pn:Int)<=16:=by
  have:=Int.mul_le_mul (show (pn:Int)<=4 by omega) (show (pn:Int)<=4 by omega) (by omega) (by omega);omega
 exact qou pa pn pc sa sn sc wa wn wc ha hn hc w (by omega) (by omega) (by simp [h5]) (by simp [h6]) h8 h9 (by rw [h7,Int.natCast_mul];simp)
theorem qzl {x:SysIn} (hc:(1<=x.pn/\x.pn<=4)/\x.sn=x.pn/\x.hn=x.pn/\x.wn=x.pn*x.pn):
  ((∀ p,p<x.pn->qac (x.pH p) (x.pL p) x.pn=true)/\(∀ p,p<x.pn->x.StP p)/\(∀ p,p<x.hn->∀ i,i<x.hL p->belB (x.hH p i).q x.hn=true)/\(∀ i,i<x.wn->x.WyP i)/\x.y.hs.Row) ↔ x.y.Ok:=by
 obtain ⟨⟨c1,c4⟩,c5,c6,c7⟩:=hc;refine ⟨fun ⟨a,b,c,d,e⟩=>⟨⟨⟨c1,c4⟩,c5,c6,c7⟩,a,b,fun p hp i hi=>?_,fun p hp q hq=>?_,e⟩,fun h=>⟨h.pr,h.rp,fun p hp i hi=>?_,fun i hi=>?_,h.ro⟩⟩
 ·have hp':p<x.pn:=hp
  have hi':i<x.hL p:=hi;have:=c p (by omega) i hi';simp only [belB,nI] at this;show (x.hH p i).q<(x.pn:Int);omega
 ·have hp':p<x.pn:=hp
  have hq':q<x.pn:=hq
  have hlt:p*x.pn+q<x.wn:=by
   rw [c7];have:(p+1)*x.pn<=x.pn*x.pn:=Nat.mul_le_mul_right _ (by omega);rw [Nat.add_mul] at this;omega
  have h1:(p*x.pn+q) / x.pn=p:=by
   rw [Nat.add_comm,Nat.add_mul_div_right _ _ (by omega),Nat.div_eq_of_lt hq'];omega
  have h2:(p*x.pn+q) % x.pn=q:=by
   rw [Nat.add_comm,Nat.add_mul_mod_self_right,Nat.mod_eq_of_lt hq']
  obtain ⟨ok,eq⟩:=d _ hlt;rw [h1,h2] at eq;simp only [nH,nI] at ok;exact ⟨qek.1 ok.2,ok.1,eq⟩
 ·have h1:=h.pe p (show p<x.pn by omega) i hi
  have h2:=qqu (qcs (h.rp p (show p<x.pn by omega))).2.2 i hi;have h3:(x.hH p i).q<(x.pn:Int):=h1;have h4:0<=(x.hH p i).q:=h2;simp only [belB,nI];omega
 ·have hlt:i<x.pn*x.pn:=by rw [<- c7];exact hi
  have ha:i / x.pn<x.pn:=Nat.div_lt_of_lt_mul hlt;have hb:i % x.pn<x.pn:=Nat.mod_lt _ (by omega);have e:i / x.pn*x.pn+i % x.pn=i:=by rw [Nat.mul_comm];exact Nat.div_add_mod i x.pn
  have h1:WayP (x.wH (i / x.pn*x.pn+i % x.pn)) (x.wL (i / x.pn*x.pn+i % x.pn)) (valL (x.hH (i % x.pn)) 3 ((i / x.pn:Nat):Int) (x.hL (i % x.pn))) (valL (x.hH (i / x.pn)) 2 ((i % x.pn:Nat):Int) (x.hL (i / x.pn))):=h.wa _ ha _ hb;rw [e] at h1;refine ⟨?_,h1.eq⟩;simp only [nH,nI];exact ⟨h1.le,qek.2 h1.it⟩
theorem SysG.his {w:World} {x:SysIn} (h:SysG w x) (hn:x.hn=x.pn):HisE w x.ha x.hA x.hC x.y.hs:=by
 refine ⟨?_,fun i hi=>h.hi i (by rw [hn];exact hi)⟩;show RowS w x.ha x.pn fun i=>.slice (x.hA i) (x.hL i) (x.hC i);rw [<- hn];exact h.h
theorem SysB.of_range {w:World} {X:Nat} {x:SysIn} (h:w.rangeAt X 0 (sysL x.pa x.pn x.pc x.sa x.sn x.sc x.wa x.wn x.wc x.ha x.hn x.hc)):SysB w X x:=
 ⟨h 0 _ rfl,h 1 _ rfl,h 2 _ rfl,h 3 _ rfl,h 4 _ rfl⟩
theorem HisP.of_range {w:World} {X:Nat} {x:SysIn} (h:w.rangeAt X 0 (sysL x.pa x.pn x.pc x.sa x.sn x.sc x.wa x.wn x.wc x.ha x.hn x.hc)) (hn:x.hn=x.pn) (hf:∀ j,w.frozen? ⟨X,j,none⟩=false):HisP w X x.ha x.hc x.y.hs (fun _=>0):=by
 have hz:∀ j,j<20->w.cell? ⟨X,5+j,none⟩=some (.int .i64 0):=fun j hj=>by
  have h1:(sysL x.pa x.pn x.pc x.sa x.sn x.sc x.wa x.wn x.wc x.ha x.hn x.hc)[5+j]? = some (.int .i64 0):=by
   match j,hj with
   | 0,_=>rfl
   | 1,_=>rfl
   | 2,_=>rfl
   | 3,_=>rfl
   | 4,_=>rfl
   | 5,_=>rfl
   | 6,_=>rfl
   | 7,_=>rfl
   | 8,_=>rfl
   | 9,_=>rfl
   | 10,_=>rfl
   | 11,_=>rfl
   | 12,_=>rfl
   | 13,_=>rfl
   | 14,_=>rfl
   | 15,_=>rfl
   | 16,_=>rfl
   | 17,_=>rfl
   | 18,_=>rfl
   | 19,_=>rfl
   | n+20,h=>exact absurd h (by omega)
  have:=h (5+j) _ h1
  rwa [nL] at this
 refine ⟨?_,fun i hi=>hz i (by omega),fun a b ha hb=>?_,hf⟩
 ·have:=h 4 _ rfl
  show w.cell? ⟨X,4,none⟩=some (.slice x.ha x.pn x.hc);rw [<- hn];exact this
 ·rw [Hs.opn_start,show 9+a*4+b=5+(4+a*4+b) by omega]
  exact hz _ (by omega)
theorem qk7 (x:SysIn) (w:World) (hG:SysG w x) (hL:x.Len) (hV:w.cell? ⟨0,0,none⟩=some (.iface 300 (.agg #[.pointer (some ⟨1,269,none⟩)]))):
  Calls prog 64 #[x.v] w (rB w (.bool x.y.okB)):=by
 have HG:Hid (SysG w x):=hG;have HL:Hid x.Len:=hL;have HV:Hid (w.cell? ⟨0,0,none⟩=some (.iface 300 (.agg #[.pointer (some ⟨1,269,none⟩)]))):=hV;have HV0:Hid (0<w.heap.size):=zJ w _ hV;have bA:=zS w (oQ4 x.pa x.pn x.pc x.sa x.sn x.sc x.wa x.wn x.wc x.ha x.hn x.hc);have BA:Hid (Below w.heap.size w (w.alloc (oQ4 x.pa x.pn x.pc x.sa x.sn x.sc x.wa x.wn x.wc x.ha x.hn x.hc))):=bA;clear hG hL hV bA;by_cases hc:(1<=x.pn/\x.pn<=4)/\x.sn=x.pn/\x.hn=x.pn/\x.wn=x.pn*x.pn
 case neg=>
  have HN:Hid (x.y.okB=false):=Sy.okB_false fun h=>hc h.cn;have HC:Hid (¬ ((1<=x.pn/\x.pn<=4)/\x.sn=x.pn/\x.hn=x.pn/\x.wn=x.pn*x.pn)):=hc;clear hc
  go_enter func64,ntmps64
  go_wp2_with fail
  generalize w.alloc (oQ4 x.pa x.pn x.pc x.sa x.sn x.sc x.wa x.wn x.wc x.ha x.hn x.hc)=wa at *;refine (qqy _ _ _ _ _ _ _ _ _ _ _ _ wa HC.out).mono ?_;rintro e w1 ⟨rfl,b1⟩;have B1:Hid (Below w.heap.size w w1):=BA.trans (b1.mono BA.size);have hl:=qh2 none 0 0 none 0 0 none 0 0 none 0 0;have ho:=qh3 none 0 0 none 0 0 none 0 0 none 0 0;generalize sysL none 0 0 none 0 0 none 0 0 none 0 0=cs at *;have hs:cs.toArray.size=25:=by simpa using hl
  have HI:Hid ((prog.info? 178).map (·.size)=some cs.toArray.size):=by rw [hs];exact qei
  have HO:Hid (cs.toArray.all (·.oneCell')=true):=all_oneCell_toArray ho;have HT:Hid ((w1.alloc (zQ6)).there w1.heap.size 0 cs.toArray.size):=qga _ _ _ _ _ (by rw [hs];rfl) rfl;have BE:Hid (Below w.heap.size w ((w1.alloc (zQ6)).setCells w1.heap.size 0 cs)):=B1.trans ((qaa.sets (P:=fun b=>b=w1.heap.size) rfl _ _ (qaa.of_below (zS _ _))).bw B1.size fun b e=>by have:=B1.size;omega);clear b1 hl ho hs B1;go_upto_region 2 with (refine wpList_store_mid rfl 178 (.tmp 3) (.tmp 8) rfl w1.heap.size 0 cs.toArray rfl rfl HT.out HI.out HO.out ?_)
  clear HT HI HO;generalize (w1.alloc (zQ6)).setCells w1.heap.size 0 cs=w2 at *;go_wp2;go_ret;rw [HN.out];exact ⟨rfl,BE.out⟩
 have HC:Hid ((1<=x.pn/\x.pn<=4)/\x.sn=x.pn/\x.hn=x.pn/\x.wn=x.pn*x.pn):=hc;have HIf:=qzl hc;have HIF:Hid (((∀ p,p<x.pn->qac (x.pH p) (x.pL p) x.pn=true)/\(∀ p,p<x.pn->x.StP p)/\(∀ p,p<x.hn->∀ i,i<x.hL p->belB (x.hH p i).q x.hn=true)/\(∀ i,i<x.wn->x.WyP i)/\x.y.hs.Row) ↔ x.y.Ok):=HIf;clear hc HIf
 go_enter func64,ntmps64
 go_wp2_with fail
 generalize w.alloc (oQ4 x.pa x.pn x.pc x.sa x.sn x.sc x.wa x.wn x.wc x.ha x.hn x.hc)=wa at *;refine (qqz _ _ _ _ _ _ _ _ _ _ _ _ wa HC.out).mono ?_;rintro e w1 ⟨rfl,b1⟩;have B1:Hid (Below w.heap.size w w1):=BA.trans (b1.mono BA.size);have hl:=qh2 x.pa x.pn x.pc x.sa x.sn x.sc x.wa x.wn x.wc x.ha x.hn x.hc;have ho:=qh3 x.pa x.pn x.pc x.sa x.sn x.sc x.wa x.wn x.wc x.ha x.hn x.hc;generalize hcs:sysL x.pa x.pn x.pc x.sa x.sn x.sc x.wa x.wn x.wc x.ha x.hn x.hc=cs at *;have hs:cs.toArray.size=25:=by simpa using hl
 have HI:Hid ((prog.info? 178).map (·.size)=some cs.toArray.size):=by rw [hs];exact qei
 have HO:Hid (cs.toArray.all (·.oneCell')=true):=all_oneCell_toArray ho;have HT:Hid ((w1.alloc (zQ6)).there w1.heap.size 0 cs.toArray.size):=qga _ _ _ _ _ (by rw [hs];rfl) rfl;have BE:Hid (Below w.heap.size w ((w1.alloc (zQ6)).setCells w1.heap.size 0 cs)/\w.heap.size<=w1.heap.size):=⟨B1.trans ((qaa.sets (P:=fun b=>b=w1.heap.size) rfl _ _ (qaa.of_below (zS _ _))).bw B1.size fun b e=>by have:=B1.size;omega),B1.size⟩
 have HR:(((w1.alloc (zQ6)).setCells w1.heap.size 0 cs).rangeAt w1.heap.size 0 cs):=World.rangeAt_setCells_same _ _ _ _ (by simpa using HT.out)
 have HF:∀ j,((w1.alloc (zQ6)).setCells w1.heap.size 0 cs).frozen? ⟨w1.heap.size,j,none⟩=false:=fun j=>by
  rw [World.frozen?_setCells];exact yA _ _ _ _ rfl
 rw [<- hcs] at HR HF
 have SB2:Hid (SysB ((w1.alloc (zQ6)).setCells w1.heap.size 0 cs) w1.heap.size x/\HisP ((w1.alloc (zQ6)).setCells w1.heap.size 0 cs) w1.heap.size x.ha x.hc x.y.hs (fun _=>0)):=by
  rw [<- hcs];exact ⟨SysB.of_range HR,HisP.of_range HR HC.2.2.1 HF⟩
 clear b1 hl ho hs B1 hcs HR HF;go_upto_region 2 with (refine wpList_store_mid rfl 178 (.tmp 3) (.tmp 8) rfl w1.heap.size 0 cs.toArray rfl rfl HT.out HI.out HO.out ?_)
 clear HT HI HO;generalize (w1.alloc (zQ6)).setCells w1.heap.size 0 cs=w2 at *;generalize w1.heap.size=X at *;go_wp2_with fail
 refine (qqr X x w2 SB2.1 (HG.bw BE.1) HL.out).mono ?_;rintro e w3 ⟨rfl,b3⟩;have B3:Hid (Below w.heap.size w w3):=BE.1.trans (b3.mono BE.1.size);have SB3:Hid (SysB w3 X x/\HisP w3 X x.ha x.hc x.y.hs (fun _=>0)):=⟨SB2.1.bw b3,SB2.2.bw b3⟩
 clear b3 SB2;by_cases q1:∀ p,p<x.pn->qac (x.pH p) (x.pL p) x.pn=true
 case neg=>
  have HN:Hid (x.y.okB=false):=Sy.okB_false fun h=>q1 (HIF.2 h).1;rw [qa7 q1];clear q1;go_wp2;go_ret;rw [HN.out];exact ⟨rfl,B3.out⟩
 have Q1:Hid (∀ p,p<x.pn->qac (x.pH p) (x.pL p) x.pn=true):=q1;rw [qbv q1];clear q1;go_wp2_with fail
 refine (qop X x w3 SB3.1 (HG.bw B3.out) HL.out HC.2.1 HC.2.2.1 ((B3.cell (p:=⟨0,0,none⟩) HV0.out).trans HV.out)).mono ?_;rintro e w4 ⟨rfl,b4⟩;have B4:Hid (Below w.heap.size w w4):=B3.trans (b4.mono B3.size);have SB4:Hid (SysB w4 X x/\HisP w4 X x.ha x.hc x.y.hs (fun _=>0)):=⟨SB3.1.bw b4,SB3.2.bw b4⟩
 clear b4 SB3;by_cases q2:∀ p,p<x.pn->x.StP p
 case neg=>
  have HN:Hid (x.y.okB=false):=Sy.okB_false fun h=>q2 (HIF.2 h).2.1;rw [qa7 q2];clear q2;go_wp2;go_ret;rw [HN.out];exact ⟨rfl,B4.out⟩
 have Q2:Hid (∀ p,p<x.pn->x.StP p):=q2;have H2:Hid (∀ p,p<x.hn->x.hL p<=200):=fun p hp=>(qcs (Q2.out p (by have:=HC.out;omega))).2.1;rw [qbv q2];clear q2;go_wp2_with fail
 refine (qqo X x w4 SB4.1 (HG.bw B4.out) HL.out).mono ?_;rintro e w5 ⟨rfl,b5⟩;have B5:Hid (Below w.heap.size w w5):=B4.trans (b5.mono B4.size);have SB5:Hid (SysB w5 X x/\HisP w5 X x.ha x.hc x.y.hs (fun _=>0)):=⟨SB4.1.bw b5,SB4.2.bw b5⟩
 clear b5 SB4;by_cases q3:∀ p,p<x.hn->∀ i,i<x.hL p->belB (x.hH p i).q x.hn=true
 case neg=>
  have HN:Hid (x.y.okB=false):=Sy.okB_false fun h=>q3 (HIF.2 h).2.2.1;rw [qa7 q3];clear q3;go_wp2;go_ret;rw [HN.out];exact ⟨rfl,B5.out⟩
 have Q3:Hid (∀ p,p<x.hn->∀ i,i<x.hL p->belB (x.hH p i).q x.hn=true):=q3;rw [qbv q3];clear q3;go_wp2_with fail
 refine (que X x w5 SB5.1 (HG.bw B5.out) HL.out HC.2.2.1 HC.2.2.2 HC.1.1 HC.1.2 H2.out).mono ?_;rintro e w6 ⟨rfl,b6⟩;have B6:Hid (Below w.heap.size w w6):=B5.trans (b6.mono B5.size);have SB6:Hid (SysB w6 X x/\HisP w6 X x.ha x.hc x.y.hs (fun _=>0)):=⟨SB5.1.bw b6,SB5.2.bw b6⟩
 clear b6 SB5;by_cases q4:∀ i,i<x.wn->x.WyP i
 case neg=>
  have HN:Hid (x.y.okB=false):=Sy.okB_false fun h=>q4 (HIF.2 h).2.2.2.1;rw [qa7 q4];clear q4;go_wp2;go_ret;rw [HN.out];exact ⟨rfl,B6.out⟩
 have Q4:Hid (∀ i,i<x.wn->x.WyP i):=q4;rw [qbv q4];clear q4
 have HP:Hid x.y.hs.Peers:=fun p hp i hi=>by
  have h1:=Q3.out p (by have:=HC.out;have:p<x.pn:=hp;omega) i hi;simp only [belB,nI] at h1;rw [HC.2.2.1] at h1;exact h1
 go_wp2_with fail
 refine (qsl X x.ha x.hc x.hA x.hC x.y.hs w w6 (HG.his HC.2.2.1) B6.out BE.2 SB6.2 HC.1.2 HP.out (fun i hi=>H2.out i (by have:=HC.out;have:i<x.pn:=hi;omega))).mono ?_;rintro e w7 ⟨rfl,b7⟩;have B7:Hid (Below w.heap.size w w7):=b7
 have HN:Hid (qB x.y.hs.Row=x.y.okB):=by
  show qB x.y.hs.Row=x.y.okB;by_cases hr:x.y.hs.Row
  ·rw [qbv hr,Sy.okB_true (HIF.1 ⟨Q1.out,Q2.out,Q3.out,Q4.out,hr⟩)]
  ·rw [qa7 hr,Sy.okB_false fun h=>hr (HIF.2 h).2.2.2.2]
 rw [HN.out];clear b7 HN;go_wp2;go_ret;exact ⟨rfl,B7.out⟩
theorem qxk {d l:Nat->Nat} (h:∀ i,d i<=l i) (n:Nat) (e:sumL d n=sumL l n) (p:Nat) (hp:p<n):d p=l p:=by
 induction n with
 | zero=>omega
 | succ n ih=>
  have h1:=qec h n;have h2:=h n;have e':sumL d n+d n=sumL l n+l n:=e;by_cases hpn:p=n
  ·subst hpn
   omega
  ·exact ih (by omega) (by omega)
structure OrdB (w:World) (D n:Nat) (d:Nat->Nat):Prop where
 c:∀ i,i<n->w.cell? ⟨D,i,none⟩=some (.int .i64 (d i))
 fr:∀ j,w.frozen? ⟨D,j,none⟩=false
theorem OrdB.blk {w w':World} {D n:Nat} {d:Nat->Nat} (h:OrdB w D n d) (hb:w'.heap[D]? = w.heap[D]?):OrdB w' D n d:=⟨fun i hi=>(zH hb).trans (h.c i hi),fun j=>(zI hb).trans (h.fr j)⟩
theorem OrdB.put {w:World} {D n k:Nat} {d:Nat->Nat} (h:OrdB w D n d) (hk:k<n):OrdB (w.setCell ⟨D,k,none⟩ (.int .i64 ((d k:Int)+1))) D n (up d k):=by
 refine ⟨fun i hi=>?_,fun j=>by rw [World.frozen?_setCell];exact h.fr j⟩;by_cases e:i=k
 ·subst e
  rw [World.cell?_setCell_same' _ _ _ (by rw [h.c i hi];rfl),qee];rfl
 ·rw [World.cell?_setCell_other _ _ _ _ (by intro e';injection e' with _ e';exact e e'.symm),up_other e]
  exact h.c i hi
structure Od (w wr:World) (B D:Nat) (ha:Option Addr) (hc:Nat) (y:Hs) (d:Nat->Nat):Prop where
 pu:y.Put d
 od:OrdB wr D y.n d
 bx:wr.cell? ⟨B,3,none⟩=some (.slice ha y.n hc)
 be:Below w.heap.size w wr
theorem Od.bw {w wr w':World} {B D:Nat} {ha:Option Addr} {hc:Nat} {y:Hs} {d:Nat->Nat} (h:Od w wr B D ha hc y d) (hb:Below wr.heap.size wr w') (hD:D<wr.heap.size):Od w w' B D ha hc y d:=
 ⟨h.pu,h.od.blk (hb.block D hD),(hb.cell (p:=⟨B,3,none⟩) (zJ wr _ h.bx)).trans h.bx,h.be.trans (hb.mono h.be.size)⟩
theorem Od.set {w wr:World} {B D k:Nat} {ha:Option Addr} {hc:Nat} {y:Hs} {d:Nat->Nat} (h:Od w wr B D ha hc y d) (hk:k<y.n) (hcan:y.Can d k) (hBD:B≠D) (hw:w.heap.size<=D):Od w (wr.setCell ⟨D,k,none⟩ (.int .i64 ((d k:Int)+1))) B D ha hc y (up d k):=
 ⟨.next h.pu hk hcan,h.od.put hk,(World.cell?_setCell_other _ _ _ _ (by intro e;injection e with e;exact hBD e.symm)).trans h.bx,h.be.setCell hw _⟩
theorem qnv (w:World) (n i:Nat) (hi:i<n):(w.alloc (.cells (madeCells #[.int .i64 0] n) 3)).cell? ⟨w.heap.size,i,none⟩=some (.int .i64 0):=by
 rw [zV _ _ _ i rfl];simp [madeCells,hi,Nat.mod_one]
theorem qr7 (a:Option Addr) (len cap h:Nat) (hh:h<=cap) (w:World):(Instr.slice 87 (.slice a len cap) none (some (.int .i64 (h:Int))) none).run prog w=.ok (.slice a h cap) w:=by
 have hh':(h:Int)<=(cap:Int):=by omega
 cases a with
 | none=>simp [go_sem,sliced,hh']
 | some a=>simp [go_sem,sliced,hh']
theorem qqd (pa:Option Addr) (pn pc:Nat) (sa:Option Addr) (sn sc:Nat) (wa:Option Addr) (wn wc:Nat) (ha:Option Addr) (hc:Nat) (hA:Nat->Option Addr) (hC:Nat->Nat) (y:Hs) (w:World) (hE:HisE w ha hA hC y) (hcap:∀ i,i<y.n->y.l i<=hC i) (h1:1<=y.n) (h4:y.n<=4) (hp:y.Peers) (hl:∀ i,i<y.n->y.l i<=200):
  Calls prog 125 #[sysV pa pn pc sa sn sc wa wn wc ha y.n hc] w (rB w (.bool (qB y.Row))):=by
 have HE:Hid (HisE w ha hA hC y):=hE;have HH:Hid (y.Peers/\(∀ i,i<y.n->y.l i<=200)/\(∀ i,i<y.n->y.l i<=hC i)):=⟨hp,hl,hcap⟩
 have hn4:(y.n:Int)<=4:=by omega
 have hmk:∀ wx:World,(Instr.makeSlice 28 (.int .i64 (y.n:Int)) (.int .i64 (y.n:Int))).run prog wx=.ok (sG wx.heap.size y.n y.n) (wx.alloc (.cells (madeCells #[.int .i64 0] y.n) 3)):=fun wx=>qcb y.n (by omega) wx
 have HOd:Hid (Od w ((w.alloc (oQ4 pa pn pc sa sn sc wa wn wc ha y.n hc)).alloc (.cells (madeCells #[.int .i64 0] y.n) 3)) w.heap.size (w.heap.size+1) ha hc y (fun _=>0)):=by
  refine ⟨.start,⟨fun i hi=>?_,fun j=>yA _ _ _ _ (by simp)⟩,?_,(zS _ _).trans ((zS _ _).mono (by simp))⟩
  ·have:=qnv (w.alloc (oQ4 pa pn pc sa sn sc wa wn wc ha y.n hc)) y.n i hi
   (try dsimp only [aW] at this);rw [World.size_alloc] at this
   exact this
  ·exact ((BoxC.new w _ _ _ _ _).bw (zS _ _)).2.2.2
 have HD:Hid (w.heap.size+1<((w.alloc (oQ4 pa pn pc sa sn sc wa wn wc ha y.n hc)).alloc (.cells (madeCells #[.int .i64 0] y.n) 3)).heap.size):=by
  show w.heap.size+1<_;simp
 clear hE hp hl hcap
 go_enter func125,ntmps125
 go_wp2_with fail
 generalize (w.alloc (oQ4 pa pn pc sa sn sc wa wn wc ha y.n hc)).alloc (.cells (madeCells #[.int .i64 0] y.n) 3)=W1 at *;generalize hD:w.heap.size+1=D at *;have HDW:Hid (w.heap.size+1=D):=hD;clear hmk hD
 go_loopw [6,7] (fun s i wr=>∃ k:Nat,k<=y.n/\i=.int .i64 k/\s=.int .i64 (sumL y.l k:Nat)/\wr=W1) (fun _ i _=>y.n - (intOf i).toNat)
 case atStart=>exact ⟨0,nD _,rfl,rfl,rfl⟩
 case round=>
  obtain ⟨k,hk,rfl,rfl,rfl⟩:=hrel
  have hsum:sumL y.l k<=200*k:=by
   have:∀ j,j<=y.n->sumL y.l j<=200*j:=by
    intro j
    induction j with
    | zero=>exact fun _=>nA _
    | succ j ih=>
     intro hj;have h5:=ih (by omega);have h6:=HH.2.1 j (by omega);show sumL y.l j+y.l j<=200*(j+1);omega
   exact this k hk
  have hsum':((sumL y.l k:Nat):Int)<=1000:=by omega
  have b3:=HOd.bx;by_cases hlt:k<y.n
  ·have hlt':(k:Int)<(y.n:Int):=by omega
   obtain ⟨bh,oh,eh,ch⟩:=(HE.bw HOd.be).row.at hlt;rw [eh] at b3;have hl2:(y.l k:Int)<=200:=by have:=HH.2.1 k hlt;omega
   clear hsum;go_wp2;go_roundw
   case rel=>exact ⟨k+1,by omega,by go_num,by simp only [sumL];congr 1,by first | rfl | trivial⟩
   case measure=>simp [intOf];omega
  ·have hkn:k=y.n:=by omega
   subst hkn;clear hlt hk hsum b3;have hlt':¬ ((y.n:Int)<(y.n:Int)):=by omega
   have hsumI:∀ d:Nat->Nat,y.Put d->((sumL y.l y.n:Nat):Int) - ((sumL d y.n:Nat):Int)=((sumL y.l y.n - sumL d y.n:Nat):Int):=fun d hd=>by
    have:=qec hd.le y.n;omega
   have HSI:Hid (∀ d:Nat->Nat,y.Put d->((sumL y.l y.n:Nat):Int) - ((sumL d y.n:Nat):Int)=((sumL y.l y.n - sumL d y.n:Nat):Int)):=hsumI;have HSM:Hid (((sumL y.l y.n:Nat):Int)<=1000):=hsum';clear hsumI hsum';go_wp2_with fail
   go_loopg [5,6] (2*(sumL y.l y.n)+1) (fun gn m s wr=>∃ (t:Bool) (d:Nat->Nat),m=.bool t/\s=.int .i64 ((sumL y.l y.n - sumL d y.n:Nat):Int)/\gn=2*(sumL y.l y.n - sumL d y.n)+(if t=true then 1 else 0)/\Hid (Od w wr w.heap.size D ha hc y d/\D<wr.heap.size/\(t=false->∀ p,p<y.n->¬ y.Can d p)))
   case atStart=>exact ⟨true,fun _=>0,rfl,by rw [qf5];rfl,by rw [qf5];rfl,HOd.out,HD.out,fun h=>by cases h⟩
   case round=>
    clear HOd HD;obtain ⟨t,d,rfl,rfl,hgn,HI⟩:=hrel
    rcases zK t with rfl | rfl
    ·have HGN:Hid (gk=2*(sumL y.l y.n - sumL d y.n)+1):=hgn
     clear hgn;go_wp2_with fail
     go_loopw [5,6,8] (fun m s i wr=>∃ (k:Nat) (t':Bool) (d':Nat->Nat),k<=y.n/\i=.int .i64 k/\m=.bool t'/\s=.int .i64 ((sumL y.l y.n - sumL d' y.n:Nat):Int)/\Hid (Od w wr w.heap.size D ha hc y d'/\D<wr.heap.size/\(t'=true->sumL d y.n<sumL d' y.n)/\(t'=false->d'=d/\∀ p,p<k->¬ y.Can d p))) (fun _ _ i _=>y.n - (intOf i).toNat)
     case atStart=>exact ⟨0,false,d,nD _,rfl,rfl,rfl,HI.1,HI.2.1,(fun h=>by cases h),fun _=>⟨rfl,fun p hp=>by omega⟩⟩
     case round=>
      clear HI;obtain ⟨k,t',d',hk,rfl,rfl,rfl,HJ⟩:=hrel;by_cases hlt:k<y.n
      ·have hlt':(k:Int)<(y.n:Int):=by omega
       have hdk:d' k<=y.l k:=HJ.1.pu.le k;have hl2:(y.l k:Int)<=200:=by have:=HH.2.1 k hlt;omega
       have dk:=HJ.1.od.c k hlt;have b3:=HJ.1.bx;obtain ⟨bh,oh,eh,ch⟩:=(HE.bw HJ.1.be).row.at hlt;rw [eh] at b3;by_cases he:d' k=y.l k
       ·have HNo:Hid (¬ y.Can d' k):=fun h=>by have:=h.1;omega
        have HJ' : ∀ nq, Hid (Od w (wr.drewN nq) w.heap.size D ha hc y d' ∧ D < (wr.drewN nq).heap.size ∧ (t' = true → sumL d y.n < sumL d' y.n) ∧ (t' = false → d' = d ∧ ∀ p, p < k + 1 → ¬ y.Can d p)) := fun nq => ⟨HJ.1.bw (yB (nE _ _) _) HJ.2.1, HJ.2.1, HJ.2.2.1, fun h => ⟨(HJ.2.2.2 h).1, fun p hp => by
         have h5:=HJ.2.2.2 h;by_cases e:p=k
         ·subst e
          rw [<- h5.1];exact HNo.out
         ·exact h5.2 p (by omega)⟩⟩
        rw [he] at dk;have HJQ:Hid (∀ nq,Hid (Od w (wr.drewN nq) w.heap.size D ha hc y d'/\D<(wr.drewN nq).heap.size/\(t'=true->sumL d y.n<sumL d' y.n)/\(t'=false->d'=d/\∀ p,p<k+1->¬ y.Can d p))):=HJ';clear HJ HJ' he hdk;go_wp2_with fail
        go_quiet (fail)
        go_wp2;go_roundw
        case rel=>exact ⟨k+1,t',d',by omega,by go_num,rfl,rfl,HJQ.out _⟩
        case measure=>simp [intOf];omega
       ·have hkl:d' k<y.l k:=by omega
        have hkl':(d' k:Int)<(y.l k:Int):=by omega
        have hne:((d' k:Int) == (y.l k:Int))=false:=by
         have:¬ (d' k:Int)=(y.l k:Int):=by omega
         simpa using this
        clear he hdk;go_wp2_with fail
        go_quiet (fail)
        go_wp2_with fail
        have OD:Hid (Od w (wr.drewN nq) w.heap.size D ha hc y d'/\D<(wr.drewN nq).heap.size/\(t'=true->sumL d y.n<sumL d' y.n)/\(t'=false->d'=d/\∀ p,p<k->¬ y.Can d p)):=⟨HJ.1.bw (yB (nE _ _) _) HJ.2.1,HJ.2.1,HJ.2.2⟩
        clear HJ dk b3 ch;generalize wr.drewN nq=wd at *;have dk:=OD.1.od.c k hlt;have b3:=OD.1.bx;obtain ⟨bh',oh',eh',ch⟩:=(HE.bw OD.1.be).row.at hlt;rw [eh'] at b3;obtain ⟨b,off,ea,zb,e0,e1,e2⟩:=((HE.bw OD.1.be).ev k hlt).at hkl;rw [ea] at ch;have n1:wd.heap.size≠D:=by have:=OD.2.1;omega
        have n2:wd.heap.size≠b:=by omega
        have n3:wd.heap.size≠bh':=by have:=zJ wd _ ch;simp at this;omega
        have dk':=qam dk;have b3':=qam b3;have ch':=qam ch;have e0':=qam e0;have e1':=qam e1;have e2':=qam e2;clear zb
        go_region
        all_goals
         have OZ:Hid (Od w (wd.alloc (oQ0 (y.e k (d' k)).k (y.e k (d' k)).q (y.e k (d' k)).v)).drew w.heap.size D ha hc y d'/\D<(wd.alloc (oQ0 (y.e k (d' k)).k (y.e k (d' k)).q (y.e k (d' k)).v)).drew.heap.size/\(t'=true->sumL d y.n<sumL d' y.n)/\(t'=false->d'=d/\∀ p,p<k->¬ y.Can d p)):=⟨OD.1.bw (zS _ _).drew OD.2.1,zL OD.2.1 (zS _ _).drew.size,OD.2.2⟩
         have z0:(wd.alloc (oQ0 (y.e k (d' k)).k (y.e k (d' k)).q (y.e k (d' k)).v)).drew.cell? ⟨wd.heap.size,0,none⟩=some (.int .i64 (y.e k (d' k)).k):=zV wd _ _ 0 rfl;have z1:(wd.alloc (oQ0 (y.e k (d' k)).k (y.e k (d' k)).q (y.e k (d' k)).v)).drew.cell? ⟨wd.heap.size,1,none⟩=some (.int .i64 (y.e k (d' k)).q):=zV wd _ _ 1 rfl;go_wp2_with fail
         clear dk b3 ch e0 e1 e2 dk' b3' ch' e0' e1' e2' n1 n2 n3 OD eh eh' ea;generalize (wd.alloc (oQ0 (y.e k (d' k)).k (y.e k (d' k)).q (y.e k (d' k)).v)).drew=wz at *;generalize wd.heap.size=M at *
         rcases zK ((y.e k (d' k)).k == 3) with t3 | t3
         case inr=>
          have HK3:Hid (¬ (y.e k (d' k)).k=3):=by
           show ¬ (y.e k (d' k)).k=3;simpa using t3
          go_quiet (fail)
          have OQ:Hid (Od w (wz.drewN nq) w.heap.size D ha hc y d'/\D<(wz.drewN nq).heap.size/\(t'=true->sumL d y.n<sumL d' y.n)/\(t'=false->d'=d/\∀ p,p<k->¬ y.Can d p)):=⟨OZ.1.bw (yB (nE _ _) _) OZ.2.1,OZ.2.1,OZ.2.2⟩
          clear z0 z1 OZ;generalize wz.drewN nq=wq at *;have HCn:Hid (y.Can d' k):=⟨hkl,fun h=>absurd h HK3.out⟩
          have HPu:Hid (y.Put (up d' k)):=.next OQ.1.pu hlt HCn.out;have hsu:=ql4 (d:=d') hlt;have hsl:=qec HPu.le y.n
          have HLE:Hid (((sumL y.l y.n - sumL d' y.n:Nat):Int) - 1=((sumL y.l y.n - sumL (up d' k) y.n:Nat):Int)):=by
           show ((sumL y.l y.n - sumL d' y.n:Nat):Int) - 1=((sumL y.l y.n - sumL (up d' k) y.n:Nat):Int);omega
          have hA1:((sumL y.l y.n - sumL d' y.n:Nat):Int)<=1000:=by have:=HSM.out;omega
          have hA0:(1:Int)<=((sumL y.l y.n - sumL d' y.n:Nat):Int):=by omega
          have HNx : Hid (Od w (wq.setCell ⟨D, k, none⟩ (.int .i64 ((d' k : Int) + 1))) w.heap.size D ha hc y (up d' k) ∧ D < (wq.setCell ⟨D, k, none⟩ (.int .i64 ((d' k : Int) + 1))).heap.size ∧ (true = true → sumL d y.n < sumL (up d' k) y.n) ∧ (true = false → up d' k = d ∧ ∀ p, p < k + 1 → ¬ y.Can d p)) := ⟨OQ.1.set hlt HCn.out (by have := HDW.out; omega) (by have := HDW.out; omega), by simpa [World.setCell] using OQ.2.1, (fun _ => by
           rcases zK t' with h5 | h5
           ·have:=OQ.2.2.1 h5
            omega
           ·have:=(OQ.2.2.2 h5).1
            rw [this] at hsu ⊢
            omega),(fun h=>by cases h)⟩
          have dkq:=OQ.1.od.c k hlt;have frq:=OQ.1.od.fr;clear hsu hsl OQ;generalize hAA:((sumL y.l y.n - sumL d' y.n:Nat):Int)=AA at *;clear hAA;go_wp2;go_roundw
          case rel=>exact ⟨k+1,true,up d' k,by omega,by go_num,rfl,by rw [HLE.out],HNx.out⟩
          case measure=>simp [intOf];omega
         case inl=>
          have hk3:(y.e k (d' k)).k=3:=by simpa using t3
          have HK3:Hid ((y.e k (d' k)).k=3):=hk3;have hq:=HH.1 k hlt (d' k) hkl;obtain ⟨q,hqe⟩:∃ q:Nat,(y.e k (d' k)).q=(q:Int):=⟨(y.e k (d' k)).q.toNat,by omega⟩
          have HQE:Hid ((y.e k (d' k)).q=(q:Int)):=hqe;have hqn:q<y.n:=by omega
          have hqn':(q:Int)<(y.n:Int):=by omega
          rw [hk3] at z0;rw [hqe] at z1;have dk:=OZ.1.od.c k hlt;have dq:=OZ.1.od.c q hqn;have b3:=OZ.1.bx;obtain ⟨bz,oz,ez,ch⟩:=(HE.bw OZ.1.be).row.at hlt;obtain ⟨bz',oz',ez',cq⟩:=(HE.bw OZ.1.be).row.at hqn;rw [ez] at b3 ez';simp only [nG,Addr.mk.injEq] at ez';obtain ⟨rfl,rfl,-⟩:=ez';have ks:=qr7 (hA k) (y.l k) (hC k) (d' k) (by have:=HH.2.2 k hlt;omega);have qs:=qr7 (hA q) (y.l q) (hC q) (d' q) (by have:=HH.2.2 q hqn;have:=OZ.1.pu.le q;omega);have HCk:Hid (∀ dd os,Calls prog 176 #[.slice (hA k) (d' k) (hC k),.int .i64 3,.int .i64 q] (grow (redrawn wz dd) os) fun e w'=>e=.returned (.int .i64 (cnt (y.e k) 3 q (d' k):Nat))/\Below (grow (redrawn wz dd) os).heap.size (grow (redrawn wz dd) os) w'):=fun dd os=>qi1 (hA k) (d' k) (hC k) (y.e k) 3 q _ (by have:=HH.2.1 k hlt;omega) (((HE.bw OZ.1.be).bw (below_regrown wz dd os)).ev k hlt |>.take (by omega));have HCq:Hid (∀ dd os,Calls prog 176 #[.slice (hA q) (d' q) (hC q),.int .i64 2,.int .i64 k] (grow (redrawn wz dd) os) fun e w'=>e=.returned (.int .i64 (cnt (y.e q) 2 k (d' q):Nat))/\Below (grow (redrawn wz dd) os).heap.size (grow (redrawn wz dd) os) w'):=fun dd os=>qi1 (hA q) (d' q) (hC q) (y.e q) 2 k _ (by have:=HH.2.1 q hqn;have:=OZ.1.pu.le q;omega) (((HE.bw OZ.1.be).bw (below_regrown wz dd os)).ev q hqn |>.take (OZ.1.pu.le q));have z0':=cell_regrown z0;have z1':=cell_regrown z1;have dk':=cell_regrown dk;have dq':=cell_regrown dq;have b3':=cell_regrown b3;have ch':=cell_regrown ch;have cq':=cell_regrown cq
          clear ez hq hqe hk3 t3;refine wp_region_quiet_below (by kernel_rfl) (by kernel_rfl) ?_
          repeat (quiet_step (first|(go_at_call_of 176 (hA k);exact Calls.regrown_of (HCk.out _ _))|(go_at_call_of 176 (hA q);exact Calls.regrown_of (HCq.out _ _))))
          refine wpQuiet_nil ?_;intro _ hw';obtain ⟨⟨dd,os⟩,hw''⟩:=hw';subst hw'';have OQ:Hid (Od w (grow (redrawn wz dd) os) w.heap.size D ha hc y d'/\D<(grow (redrawn wz dd) os).heap.size/\(t'=true->sumL d y.n<sumL d' y.n)/\(t'=false->d'=d/\∀ p,p<k->¬ y.Can d p)):=⟨OZ.1.bw (below_regrown wz dd os) OZ.2.1,zL OZ.2.1 (below_regrown wz dd os).size,OZ.2.2⟩
          clear z0' z1' dk' dq' b3' ch' cq' z0 z1 dk dq b3 ch cq ks qs HCk HCq OZ;generalize grow (redrawn wz dd) os=wq at *
          have HCan:Hid (y.Can d' k ↔ cnt (y.e k) 3 q (d' k)<cnt (y.e q) 2 k (d' q)):=by
           show y.Can d' k ↔ _;unfold Hs.Can;rw [HQE.out];rw [show ((q:Int)).toNat=q by omega];exact ⟨fun h=>h.2 HK3.out,fun h=>⟨hkl,fun _=>h⟩⟩
          generalize cnt (y.e k) 3 q (d' k)=c1 at *;generalize cnt (y.e q) 2 k (d' q)=c2 at *;by_cases hcc:(c2:Int)<=(c1:Int)
          ·have HNo:Hid (¬ y.Can d' k):=fun h=>by have:=HCan.1 h;omega
           have HJ2 : Hid (Od w wq w.heap.size D ha hc y d' ∧ D < wq.heap.size ∧ (t' = true → sumL d y.n < sumL d' y.n) ∧ (t' = false → d' = d ∧ ∀ p, p < k + 1 → ¬ y.Can d p)) := ⟨OQ.1, OQ.2.1, OQ.2.2.1, fun h => ⟨(OQ.2.2.2 h).1, fun p hp => by
            have h5:=OQ.2.2.2 h;by_cases e:p=k
            ·subst e
             rw [<- h5.1];exact HNo.out
            ·exact h5.2 p (by omega)⟩⟩
           clear OQ HCan;go_wp2;go_roundw
           case rel=>exact ⟨k+1,t',d',by omega,by go_num,rfl,rfl,HJ2.out⟩
           case measure=>simp [intOf];omega
          ·have HCx:Hid (y.Can d' k):=HCan.2 (by omega)
           clear HCan;have HCn:Hid (y.Can d' k):=HCx.out;have HPu:Hid (y.Put (up d' k)):=.next OQ.1.pu hlt HCn.out;have hsu:=ql4 (d:=d') hlt;have hsl:=qec HPu.le y.n
           have HLE:Hid (((sumL y.l y.n - sumL d' y.n:Nat):Int) - 1=((sumL y.l y.n - sumL (up d' k) y.n:Nat):Int)):=by
            show ((sumL y.l y.n - sumL d' y.n:Nat):Int) - 1=((sumL y.l y.n - sumL (up d' k) y.n:Nat):Int);omega
           have hA1:((sumL y.l y.n - sumL d' y.n:Nat):Int)<=1000:=by have:=HSM.out;omega
           have hA0:(1:Int)<=((sumL y.l y.n - sumL d' y.n:Nat):Int):=by omega
           have HNx : Hid (Od w (wq.setCell ⟨D, k, none⟩ (.int .i64 ((d' k : Int) + 1))) w.heap.size D ha hc y (up d' k) ∧ D < (wq.setCell ⟨D, k, none⟩ (.int .i64 ((d' k : Int) + 1))).heap.size ∧ (true = true → sumL d y.n < sumL (up d' k) y.n) ∧ (true = false → up d' k = d ∧ ∀ p, p < k + 1 → ¬ y.Can d p)) := ⟨OQ.1.set hlt HCn.out (by have := HDW.out; omega) (by have := HDW.out; omega), by simpa [World.setCell] using OQ.2.1, (fun _ => by
            rcases zK t' with h5 | h5
            ·have:=OQ.2.2.1 h5
             omega
            ·have:=(OQ.2.2.2 h5).1
             rw [this] at hsu ⊢
             omega),(fun h=>by cases h)⟩
           have dkq:=OQ.1.od.c k hlt;have frq:=OQ.1.od.fr;clear hsu hsl OQ;generalize hAA:((sumL y.l y.n - sumL d' y.n:Nat):Int)=AA at *;clear hAA;go_wp2;go_roundw
           case rel=>exact ⟨k+1,true,up d' k,by omega,by go_num,rfl,by rw [HLE.out],HNx.out⟩
           case measure=>simp [intOf];omega
      ·have hkn:k=y.n:=by omega
       subst hkn
       have HF:Hid (2*(sumL y.l y.n - sumL d' y.n)+(if t'=true then 1 else 0)<gk):=by
        have h2:=HGN.out;have h3:=qec HJ.1.pu.le y.n;show _<gk;cases t' with
        | true=>
         have h4:=HJ.2.2.1 rfl;simp only [nQ];omega
        | false=>
         have h4:=(HJ.2.2.2 rfl).1;rw [h4];simp only [Bool.false_eq_true,if_false];omega
       have HG2 : Hid (Od w wr w.heap.size D ha hc y d' ∧ D < wr.heap.size ∧ (t' = false → ∀ p, p < y.n → ¬ y.Can d' p)) := ⟨HJ.1, HJ.2.1, fun h p hp => by
        have:=HJ.2.2.2 h;rw [this.1]
        exact this.2 p hp⟩
       clear HJ;go_wp2
       go_roundg (2*(sumL y.l y.n - sumL d' y.n)+(if t'=true then 1 else 0))
       case measure=>exact HF.out
       case rel=>exact ⟨t',d',rfl,rfl,rfl,HG2.out⟩
    ·have HR:Hid ((((sumL y.l y.n - sumL d y.n:Nat):Int) == 0)=qB y.Row):=by
      show (((sumL y.l y.n - sumL d y.n:Nat):Int) == 0)=qB y.Row;have hi:=Hs.row_iff HI.1.pu HH.1 (HI.2.2 rfl);have hle:=HI.1.pu.le;by_cases hr:y.Row
      ·have:sumL d y.n=sumL y.l y.n:=qi3 fun i hi'=>hi.1 hr i hi'
       rw [qbv hr,this];simp
      ·rw [qa7 hr]
       have:sumL y.l y.n - sumL d y.n≠0:=fun e=>hr (hi.2 (qxk hle _ (by have:=qec hle y.n;omega)));have h2:((sumL y.l y.n - sumL d y.n:Nat):Int)≠0:=by omega
       simpa using h2
     have HB:Hid (Below w.heap.size w wr):=HI.1.be;clear HI hgn;go_wp2;go_ret;rw [HR.out];exact ⟨rfl,HB.out⟩
theorem qds (x:SysIn) (a b:Nat) (w:World) (ha:a<4) (hb:b<4) (hp:x.pn<=4):
  Calls prog 39 #[x.v,.int .i64 a,.int .i64 b] w (rB w (.int .i64 (a*x.pn+b:Nat))):=by
 have hm0:0<=(a:Int)*(x.pn:Int):=Int.mul_nonneg (by omega) (by omega)
 have hm1:(a:Int)*(x.pn:Int)<=16:=by
  have:=Int.mul_le_mul (show (a:Int)<=4 by omega) (show (x.pn:Int)<=4 by omega) (by omega) (by omega);omega
 have hJ:Hid (((a*x.pn+b:Nat):Int)=(a:Int)*(x.pn:Int)+(b:Int)):=by
  show ((a*x.pn+b:Nat):Int)=(a:Int)*(x.pn:Int)+(b:Int);rw [Int.natCast_add,Int.natCast_mul]
 have hb':(b:Int)<=4:=by omega
 go_enter func39,ntmps39
 go_wp2;go_ret;rw [hJ.out];exact ⟨rfl,by go_grown⟩
theorem qc8 (x:SysIn) (a b:Nat) (w:World) (hG:SysG w x) (ha:a<4) (hb:b<4) (hp:x.pn<=4) (hJ:a*x.pn+b<x.wn):
  Calls prog 40 #[x.v,.int .i64 a,.int .i64 b] w (rB w (.agg #[.slice (x.wA (a*x.pn+b)) (x.wL (a*x.pn+b)) (x.wC (a*x.pn+b)),.int .i64 12])):=by
 obtain ⟨bh,oh,eh,ch⟩:=hG.w.at hJ
 have HW:Hid (∀ wx,Calls prog 39 #[sysV x.pa x.pn x.pc x.sa x.sn x.sc (some ⟨bh,oh,none⟩) x.wn x.wc x.ha x.hn x.hc,.int .i64 a,.int .i64 b] wx (rB wx (.int .i64 (a*x.pn+b:Nat)))):=fun wx=>by
  have:=qds x a b wx ha hb hp;rw [show x.v=sysV x.pa x.pn x.pc x.sa x.sn x.sc x.wa x.wn x.wc x.ha x.hn x.hc from rfl,eh] at this;exact this
 rw [show x.v=sysV x.pa x.pn x.pc x.sa x.sn x.sc x.wa x.wn x.wc x.ha x.hn x.hc from rfl,eh];generalize a*x.pn+b=J at *;have hJ':(J:Int)<(x.wn:Int):=by omega
 have BW:Hid (Below w.heap.size w ((w.alloc (oQ4 x.pa x.pn x.pc x.sa x.sn x.sc (some ⟨bh,oh,none⟩) x.wn x.wc x.ha x.hn x.hc)).alloc (.cells #[nS,.int .i64 0] 78))):=(zS _ _).trans ((zS _ _).mono (by simp));have BX:Hid (BoxC ((w.alloc (oQ4 x.pa x.pn x.pc x.sa x.sn x.sc (some ⟨bh,oh,none⟩) x.wn x.wc x.ha x.hn x.hc)).alloc (.cells #[nS,.int .i64 0] 78)) w.heap.size (.slice x.pa x.pn x.pc) (.slice x.sa x.sn x.sc) (.slice (some ⟨bh,oh,none⟩) x.wn x.wc) (.slice x.ha x.hn x.hc)):=(BoxC.new w _ _ _ _ _).bw (zS _ _);have RX:Hid (((w.alloc (oQ4 x.pa x.pn x.pc x.sa x.sn x.sc (some ⟨bh,oh,none⟩) x.wn x.wc x.ha x.hn x.hc)).alloc (.cells #[nS,.int .i64 0] 78)).cell? ⟨w.heap.size+1,0,none⟩=some nS/\((w.alloc (oQ4 x.pa x.pn x.pc x.sa x.sn x.sc (some ⟨bh,oh,none⟩) x.wn x.wc x.ha x.hn x.hc)).alloc (.cells #[nS,.int .i64 0] 78)).cell? ⟨w.heap.size+1,1,none⟩=some (.int .i64 0)/\∀ j,((w.alloc (oQ4 x.pa x.pn x.pc x.sa x.sn x.sc (some ⟨bh,oh,none⟩) x.wn x.wc x.ha x.hn x.hc)).alloc (.cells #[nS,.int .i64 0] 78)).frozen? ⟨w.heap.size+1,j,none⟩=false):=⟨zV _ _ _ 0 (by simp),zV _ _ _ 1 (by simp),fun j=>yA _ _ _ _ (by simp)⟩
 have HCh:Hid (w.cell? ⟨bh,oh+J,none⟩=some (.slice (x.wA J) (x.wL J) (x.wC J))):=ch;have dN:¬ w.heap.size+1=bh:=by have:=zJ w _ ch;simp at this;omega
 clear hG eh ch
 go_enter func40,ntmps40
 go_wp2_with fail
 generalize ((w.alloc (oQ4 x.pa x.pn x.pc x.sa x.sn x.sc (some ⟨bh,oh,none⟩) x.wn x.wc x.ha x.hn x.hc)).alloc (.cells #[nS,.int .i64 0] 78))=W2 at *;have HC2:Hid (W2.cell? ⟨bh,oh+J,none⟩=some (.slice (x.wA J) (x.wL J) (x.wC J))):=(BW.cell (p:=⟨bh,oh+J,none⟩) (zJ w _ HCh.out)).trans HCh.out;obtain ⟨k0,k1,k2,k3⟩:=BX.out
 go_region_law (refine qeb rfl 39 _ _ rfl #[sysV x.pa x.pn x.pc x.sa x.sn x.sc (some ⟨bh,oh,none⟩) x.wn x.wc x.ha x.hn x.hc,.int .i64 a,.int .i64 b] (by simp [Act.eval,sysV]) (zZ func39) (HW.out W2.drew) ?_;rintro e w1 ⟨rfl,b1⟩;refine ⟨_,rfl,?_⟩;have q1:Below W2.heap.size W2 w1:=(nE W2.heap.size W2).drew.trans b1;have c1:=(q1.cell (p:=⟨bh,oh+J,none⟩) (zJ W2 _ HC2.out)).trans HC2.out;obtain ⟨m0,m1,m2,m3⟩:=BX.bw q1;have r0:=(q1.cell (p:=⟨w.heap.size+1,0,none⟩) (zJ W2 _ RX.1)).trans RX.1;have r1:=(q1.cell (p:=⟨w.heap.size+1,1,none⟩) (zJ W2 _ RX.2.1)).trans RX.2.1;have f1:∀ j,w1.frozen? ⟨w.heap.size+1,j,none⟩=false:=fun j=>(zI (q1.block (w.heap.size+1) (zJ W2 ⟨w.heap.size+1,0,none⟩ RX.1))).trans (RX.2.2 j);have Q1:Hid (Below w.heap.size w w1):=BW.trans (q1.mono BW.size);clear b1 q1)
 all_goals
  go_wp2;refine bodyPost_ret (v:=.agg #[.slice (x.wA J) (x.wL J) (x.wC J),.int .i64 12]) (by simp [results,results40,go_sem,r0,r1]) rfl ⟨rfl,?_⟩;exact (Q1.setCell (nK _) _).setCell (nK _) _
theorem qjk (a:Option Addr) (n c:Nat) (L:Int) (w:World):
  Calls prog 74 #[.agg #[.slice a n c,.int .i64 L]] w (rB w (.bool (decide (L<=(n:Int))))):=by
 go_enter func74,ntmps74
 go_wp2;go_ret;exact ⟨rfl,by go_grown⟩
theorem quq (a:Option Addr) (n c:Nat) (L:Int) (h:Nat->I2) (w:World) (hn:n<=1048576) (hI:ItL w a n h):
  Calls prog 101 #[.agg #[.slice a n c,.int .i64 L]] w (rB w (.tuple #[if n=0 then itV false 0 else itV (h 0).m (h 0).v,.bool (decide (n≠0))])):=by
 by_cases h0:n=0
 ·subst h0
  rw [nC rfl]
  go_enter func101,ntmps101
  go_wp2;exact bodyPost_ret (v:=.tuple #[itV false 0,.bool false]) (by simp [results,results101,go_sem]) rfl ⟨by simp,by go_grown⟩
 ·obtain ⟨b,off,rfl,zb,c0,c1⟩:=hI.at (k:=0) (by omega)
  have hne:((n:Int) == 0)=false:=by
   have:¬ (n:Int)=0:=by omega
   simpa using this
  have hpos:(0:Int)<(n:Int):=by omega
  rw [nB h0];have c0':∀ o1 o2,((w.alloc o1).alloc o2).cell? ⟨b,off,none⟩=some (.bool (h 0).m):=fun o1 o2=>(World.cell?_alloc_lt _ _ _ (by simp;omega)).trans ((World.cell?_alloc_lt _ _ _ zb).trans (by simpa using c0));have c1':∀ o1 o2,((w.alloc o1).alloc o2).cell? ⟨b,off+1,none⟩=some (.int .i64 (h 0).v):=fun o1 o2=>(World.cell?_alloc_lt _ _ _ (by simp;omega)).trans ((World.cell?_alloc_lt _ _ _ zb).trans (by simpa using c1));have hd:decide (n≠0)=true:=decide_eq_true h0;rw [hd];clear hI c0 c1 hd
  go_enter func101,ntmps101
  go_wp2;exact bodyPost_ret (v:=.tuple #[itV (h 0).m (h 0).v,.bool true]) (by simp [results,results101,go_sem]) rfl ⟨rfl,by go_grown⟩
