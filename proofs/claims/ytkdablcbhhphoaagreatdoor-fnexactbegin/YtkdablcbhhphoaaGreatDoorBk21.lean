import Derived.Test.YtkdablcbhhphoaaGreatDoorBk20
import Derived.Test.YtkdablcbhhphoaaGreatDoorBk18
namespace Go.Proofs.YtkdablcbhhphoaaGreatDoor
set_option maxRecDepth 100000
set_option maxHeartbeats 4000000
open Go.RowKit Go.Sort
theorem qnj (gb n gc:Nat) (ea:Option Addr) (m ec:Nat) (g:Nat->I5) (eh:Nat->E3) (w:World) (hn:n<=maxLen) (hg:gb<w.heap.size) (hI:qan w gb 0 n g) (hE:EvL w ea m eh) (hm:m<=1048576) (hV:w.cell? ⟨0,0,none⟩=some (.iface 300 (.agg #[.pointer (some ⟨1,269,none⟩)]))):
  Calls Tryz.prog 181 #[.slice (some ⟨gb,0,none⟩) n gc,.slice ea m ec] w (qc9 w (resS (repO g n eh m)) (repO g n eh m).isSome):=by
 have HI:Hid (qan w gb 0 n g):=hI;have HE:Hid (EvL w ea m eh):=hE;have HL:Hid (n<=maxLen):=hn;have HV:Hid (w.cell? ⟨0,0,none⟩=some (.iface 300 (.agg #[.pointer (some ⟨1,269,none⟩)]))):=hV;have hV0:0<w.heap.size:=zJ w _ hV;clear hI hE hn hV;have bA:=zS w (zQ0);have BA:Hid (Below w.heap.size w (w.alloc (zQ0))):=bA;have NB:Hid (BoxC (w.alloc (zQ0)) w.heap.size (.int .i64 0) (.slice none 0 0) (.slice none 0 0) (.int .i64 0)/\∀ j,(w.alloc (zQ0)).frozen? ⟨w.heap.size,j,none⟩=false):=⟨BoxC.new w _ _ _ _ _,fun j=>yA _ _ _ j rfl⟩
 clear bA
 have hrun:∀ wx:World,Below w.heap.size w wx->Calls Tryz.prog 226 #[.slice (some ⟨gb,0,none⟩) n gc,.slice ea m ec] wx (AllR wx (repO g n eh m)):=by
  intro wx hb
  rcases zK (qac g n 4) with tp | tp
  ·exact qtr gb n gc ea m ec g eh wx HL.out (zL hg hb.size) (HI.out.below hb hg) tp (HE.out.below hb) hm
  ·exact qvf gb n gc ea m ec g eh wx HL.out (zL hg hb.size) (HI.out.below hb hg) tp
 have HRn:Hid (∀ wx:World,Below w.heap.size w wx->Calls Tryz.prog 226 #[.slice (some ⟨gb,0,none⟩) n gc,.slice ea m ec] wx (AllR wx (repO g n eh m))):=hrun;clear hrun;generalize repO g n eh m=O at *
 go_enter Tryz.func181,Tryz.ntmps181
 go_wp2_with fail
 have hz:(w.alloc (zQ0)).heap.size=w.heap.size+1:=by simp
 generalize w.alloc (zQ0)=wa at *;refine (HRn.out wa BA.out).mono ?_;rintro e w1 ⟨v1,err,rfl,b1,o1,hO⟩;obtain ⟨ra1,rc1,oa1,oc1,rfl,-,-⟩:=o1.read;have B1:Hid (Below w.heap.size w w1):=BA.out.trans (b1.mono BA.out.size);have N1:Hid (BoxC w1 w.heap.size (.int .i64 0) (.slice none 0 0) (.slice none 0 0) (.int .i64 0)/\∀ j,w1.frozen? ⟨w.heap.size,j,none⟩=false):=⟨NB.1.below b1,fun j=>(zI (b1.block w.heap.size (by omega))).trans (NB.2 j)⟩
 have O1:Hid (qag w1 wa.heap.size (stV (resS O).p ra1 (resS O).rs.length rc1 oa1 (resS O).os.length oc1 (resS O).c) (resS O).p (resS O).rs (resS O).os (resS O).c):=o1;have z1:=b1.size;have zw:w.heap.size<w1.heap.size:=by omega
 clear o1 b1 BA NB;have bq0:=zS w1 (oQ1 (resS O).p ra1 (resS O).rs.length rc1 oa1 (resS O).os.length oc1 (resS O).c);have bq1:=zS (w1.alloc (oQ1 (resS O).p ra1 (resS O).rs.length rc1 oa1 (resS O).os.length oc1 (resS O).c)) (.cells #[.int .i64 0] 273);have bq:Below w1.heap.size w1 ((w1.alloc (oQ1 (resS O).p ra1 (resS O).rs.length rc1 oa1 (resS O).os.length oc1 (resS O).c)).alloc (.cells #[.int .i64 0] 273)):=bq0.trans (bq1.mono bq0.size);have BQ:Hid (Below w.heap.size w ((w1.alloc (oQ1 (resS O).p ra1 (resS O).rs.length rc1 oa1 (resS O).os.length oc1 (resS O).c)).alloc (.cells #[.int .i64 0] 273))):=B1.out.trans (bq.mono B1.out.size);have NQ:Hid (BoxC ((w1.alloc (oQ1 (resS O).p ra1 (resS O).rs.length rc1 oa1 (resS O).os.length oc1 (resS O).c)).alloc (.cells #[.int .i64 0] 273)) w.heap.size (.int .i64 0) (.slice none 0 0) (.slice none 0 0) (.int .i64 0)/\∀ j,((w1.alloc (oQ1 (resS O).p ra1 (resS O).rs.length rc1 oa1 (resS O).os.length oc1 (resS O).c)).alloc (.cells #[.int .i64 0] 273)).frozen? ⟨w.heap.size,j,none⟩=false):=⟨N1.1.below bq,fun j=>(zI (bq.block w.heap.size zw)).trans (N1.2 j)⟩
 have OQ:Hid (qag ((w1.alloc (oQ1 (resS O).p ra1 (resS O).rs.length rc1 oa1 (resS O).os.length oc1 (resS O).c)).alloc (.cells #[.int .i64 0] 273)) wa.heap.size (stV (resS O).p ra1 (resS O).rs.length rc1 oa1 (resS O).os.length oc1 (resS O).c) (resS O).p (resS O).rs (resS O).os (resS O).c):=O1.out.below bq;have SQ:Hid (BoxC ((w1.alloc (oQ1 (resS O).p ra1 (resS O).rs.length rc1 oa1 (resS O).os.length oc1 (resS O).c)).alloc (.cells #[.int .i64 0] 273)) w1.heap.size (.int .i64 (resS O).p) (.slice ra1 (resS O).rs.length rc1) (.slice oa1 (resS O).os.length oc1) (.int .i64 (resS O).c)):=(BoxC.new w1 _ _ _ _ _).below bq1
 have TQ:Hid (((w1.alloc (oQ1 (resS O).p ra1 (resS O).rs.length rc1 oa1 (resS O).os.length oc1 (resS O).c)).alloc (.cells #[.int .i64 0] 273)).cell? ⟨w1.heap.size+1,0,none⟩=some (.int .i64 0)/\((w1.alloc (oQ1 (resS O).p ra1 (resS O).rs.length rc1 oa1 (resS O).os.length oc1 (resS O).c)).alloc (.cells #[.int .i64 0] 273)).frozen? ⟨w1.heap.size+1,0,none⟩=false/\w1.heap.size+2=((w1.alloc (oQ1 (resS O).p ra1 (resS O).rs.length rc1 oa1 (resS O).os.length oc1 (resS O).c)).alloc (.cells #[.int .i64 0] 273)).heap.size):=by
  have h1:=zV (w1.alloc (oQ1 (resS O).p ra1 (resS O).rs.length rc1 oa1 (resS O).os.length oc1 (resS O).c)) #[.int .i64 0] 273 0 rfl;have h2:=yA (w1.alloc (oQ1 (resS O).p ra1 (resS O).rs.length rc1 oa1 (resS O).os.length oc1 (resS O).c)) #[.int .i64 0] 273 0 rfl;rw [World.size_alloc] at h1 h2;exact ⟨h1,h2,by simp⟩
 clear bq0 bq1 bq N1 O1 B1
 rcases hO with ⟨tO,rfl⟩ | ⟨tO,x,rfl⟩
 ·have HT:Hid (O.isSome=true):=tO
  clear tO;go_wp2_with fail
  generalize (w1.alloc (oQ1 (resS O).p ra1 (resS O).rs.length rc1 oa1 (resS O).os.length oc1 (resS O).c)).alloc (.cells #[.int .i64 0] 273)=wq at *;refine (qyn _ wq).mono ?_;rintro e w2 ⟨rfl,rfl⟩;obtain ⟨⟨r0,r1,r2,r3⟩,rf⟩:=NQ.out;obtain ⟨s0,s1,s2,s3⟩:=SQ.out;have hne:w1.heap.size≠w.heap.size:=by omega
  go_wp2;refine bodyPost_ret (v:=.tuple #[stV (resS O).p ra1 (resS O).rs.length rc1 oa1 (resS O).os.length oc1 (resS O).c,.bool true]) (by simp [results,Tryz.results181,go_sem,r0,r1,r2,r3]) rfl ?_;rw [HT.out];refine ⟨_,rfl,?_,?_⟩
  ·exact OQ.out.put4 (by omega) (by omega)
  ·exact (((BQ.out.setCell (Nat.le_refl _) _).setCell (Nat.le_refl _) _).setCell (Nat.le_refl _) _).setCell (Nat.le_refl _) _
 ·have HT:Hid (O=none):=by
   cases O with
   | none=>rfl
   | some S=>cases tO
  clear tO;go_wp2_with fail
  generalize (w1.alloc (oQ1 (resS O).p ra1 (resS O).rs.length rc1 oa1 (resS O).os.length oc1 (resS O).c)).alloc (.cells #[.int .i64 0] 273)=wq at *;refine (qym x ⟨w1.heap.size+1,0,none⟩ (.int .i64 0) wq ((BQ.out.cell (p:=⟨0,0,none⟩) hV0).trans HV.out) TQ.1 TQ.2.1).mono ?_;rintro e w2 ⟨rfl,o1,o2,o3,o4,rfl⟩
  have b2:Below (w1.heap.size+1) wq (((((wq.alloc o1).alloc o2).alloc o3).alloc o4).setCell ⟨w1.heap.size+1,0,none⟩ (.int .i64 x)):=by
   have hq:=TQ.2.2;exact (((((Below.refl (w1.heap.size+1) wq).alloc (by omega) o1).alloc (by simp;omega) o2).alloc (by simp;omega) o3).alloc (by simp;omega) o4).setCell (Nat.le_refl _) _
  have eR:=b2.block w.heap.size (by omega);have B2:Hid (Below w.heap.size w (((((wq.alloc o1).alloc o2).alloc o3).alloc o4).setCell ⟨w1.heap.size+1,0,none⟩ (.int .i64 x))):=BQ.out.trans (b2.mono (by omega))
  have N2:Hid (BoxC (((((wq.alloc o1).alloc o2).alloc o3).alloc o4).setCell ⟨w1.heap.size+1,0,none⟩ (.int .i64 x)) w.heap.size (.int .i64 0) (.slice none 0 0) (.slice none 0 0) (.int .i64 0)/\∀ j,(((((wq.alloc o1).alloc o2).alloc o3).alloc o4).setCell ⟨w1.heap.size+1,0,none⟩ (.int .i64 x)).frozen? ⟨w.heap.size,j,none⟩=false):=by
   obtain ⟨⟨a0,a1,a2,a3⟩,af⟩:=NQ.out;exact ⟨⟨(zH eR).trans a0,(zH eR).trans a1,(zH eR).trans a2,(zH eR).trans a3⟩,fun j=>(zI eR).trans (af j)⟩
  clear b2 eR NQ SQ OQ TQ BQ;generalize ((((wq.alloc o1).alloc o2).alloc o3).alloc o4).setCell ⟨w1.heap.size+1,0,none⟩ (.int .i64 x)=w3 at *;obtain ⟨⟨r0,r1,r2,r3⟩,rf⟩:=N2.out;go_wp2;refine bodyPost_ret (v:=.tuple #[stV 0 none 0 0 none 0 0 0,.bool false]) (by simp [results,Tryz.results181,go_sem,r0,r1,r2,r3]) rfl ?_;rw [HT.out];exact ⟨_,rfl,qag.nil _ _,(((B2.out.setCell (Nat.le_refl _) _).setCell (Nat.le_refl _) _).setCell (Nat.le_refl _) _).setCell (Nat.le_refl _) _⟩
open Go.ChangeShapes Go.WideShapes Go.ChangeAt Go.Deep
structure SysB (w:World) (X:Nat) (x:SysIn):Prop where
 c0:w.cell? ⟨X,0,none⟩=some (.slice x.pa x.pn x.pc)
 c1:w.cell? ⟨X,1,none⟩=some (.slice x.sa x.sn x.sc)
 c2:w.cell? ⟨X,2,none⟩=some (.slice x.wa x.wn x.wc)
 c3:w.cell? ⟨X,3,none⟩=some (.slice x.ha x.hn x.hc)
 c4:w.cell? ⟨X,4,none⟩=some (.slice x.ha x.hn x.hc)
theorem SysB.lt {w:World} {X:Nat} {x:SysIn} (h:SysB w X x):X<w.heap.size:=zJ w _ h.c0
theorem SysB.blk {w w':World} {X:Nat} {x:SysIn} (h:SysB w X x) (hb:w'.heap[X]? = w.heap[X]?):SysB w' X x:=
 ⟨(zH hb).trans h.c0,(zH hb).trans h.c1,(zH hb).trans h.c2,(zH hb).trans h.c3,(zH hb).trans h.c4⟩
theorem SysB.below {w w':World} {X:Nat} {x:SysIn} (h:SysB w X x) (hb:Below w.heap.size w w'):SysB w' X x:=h.blk (hb.block X h.lt)
theorem qqm (X:Nat) (x:SysIn) (w:World) (hB:SysB w X x) (hG:SysG w x) (hL:x.Len):
  Calls Tryz.prog 131 #[.pointer (some ⟨X,0,none⟩)] w fun e w'=>e=.returned (.bool (qB (∀ p,p<x.pn->qac (x.pH p) (x.pL p) x.pn=true)))/\Below w.heap.size w w':=by
 have HB:Hid (SysB w X x):=hB;have HG:Hid (SysG w x):=hG;have HL:Hid x.Len:=hL;have hpn:(x.pn:Int)<=1048576:=by have:=hL.p.1;omega
 obtain ⟨b0,-,-,-,-⟩:=hB;clear hG hL
 go_enter Tryz.func131,Tryz.ntmps131
 go_wp2_with fail
 clear b0
 go_loopw [11] (fun i wr=>∃ k:Nat,k<=x.pn/\i=.int .i64 k/\Below w.heap.size w wr/\Hid (∀ j,j<k->qac (x.pH j) (x.pL j) x.pn=true)) (fun i _=>x.pn - (intOf i).toNat)
 case atStart=>exact ⟨0,Nat.zero_le _,rfl,Below.refl _ _,fun j hj=>by omega⟩
 case round=>
  obtain ⟨k,hk,rfl,hbw,HZ⟩:=hrel;obtain ⟨b0,-,-,-,-⟩:=HB.out.below hbw;by_cases hlt:k<x.pn
  ·have hlt':(k:Int)<(x.pn:Int):=by omega
   obtain ⟨bp,op,ep,ck⟩:=(HG.out.below hbw).p.at hlt;obtain ⟨b,eb,hbl,hI⟩:=(HG.out.below hbw).pi k hlt;rw [eb] at ck;rw [ep] at b0;rw [ep];have HI:Hid (qan wr b 0 (x.pL k) (x.pH k)):=hI
   have hml:x.pL k<=maxLen:=by
    have:=HL.out.p.2 k hlt;unfold maxLen;omega
   have HM:Hid (x.pL k<=maxLen):=hml;clear hI hml;go_wp2_with fail
   refine (qc5 b 0 (x.pL k) _ (x.pH k) x.pn wr HM.out hbl HI.out).mono ?_;rintro e w1 ⟨rfl,b1⟩;have B1:Hid (Below w.heap.size w w1):=hbw.trans (b1.mono hbw.size);clear b1 b0 ck
   rcases zK (qac (x.pH k) (x.pL k) x.pn) with t | t
   ·have HZ':Hid (∀ j,j<k+1->qac (x.pH j) (x.pL j) x.pn=true):=fun j hj=>by
     by_cases e:j=k
     ·subst e
      exact t
     ·exact HZ.out j (by omega)
    rw [t];clear HZ t;go_wp2;go_roundw
    case rel=>exact ⟨k+1,by omega,by go_num,B1.out,HZ'.out⟩
    case measure=>simp [intOf];omega
   ·have HN:Hid (qB (∀ p,p<x.pn->qac (x.pH p) (x.pL p) x.pn=true)=false):=qa4 fun h=>by
     have:=h k hlt;rw [t] at this;cases this
    rw [t];clear HZ t;go_wp2;go_ret;rw [HN.out];exact ⟨rfl,B1.out⟩
  ·have HN:Hid (qB (∀ p,p<x.pn->qac (x.pH p) (x.pL p) x.pn=true)=true):=qbs fun j hj=>HZ.out j (by omega)
   clear HZ;go_wp2;go_ret;rw [HN.out];exact ⟨rfl,hbw⟩
def SysIn.StP (x:SysIn) (p:Nat):Prop:=repO (x.pH p) (x.pL p) (x.hH p) (x.hL p)=some (x.sS p)
theorem qoj (X:Nat) (x:SysIn) (w:World) (hB:SysB w X x) (hG:SysG w x) (hL:x.Len) (hs:x.sn=x.pn) (hh:x.hn=x.pn) (hV:w.cell? ⟨0,0,none⟩=some (.iface 300 (.agg #[.pointer (some ⟨1,269,none⟩)]))):
  Calls Tryz.prog 132 #[.pointer (some ⟨X,0,none⟩)] w fun e w'=>e=.returned (.bool (qB (∀ p,p<x.pn->x.StP p)))/\Below w.heap.size w w':=by
 have HB:Hid (SysB w X x):=hB;have HG:Hid (SysG w x):=hG;have HL:Hid x.Len:=hL;have HV:Hid (w.cell? ⟨0,0,none⟩=some (.iface 300 (.agg #[.pointer (some ⟨1,269,none⟩)]))):=hV;have HV0:Hid (0<w.heap.size):=zJ w _ hV;have HS:Hid (x.sn=x.pn/\x.hn=x.pn):=⟨hs,hh⟩
 have hpn:(x.pn:Int)<=1048576:=by have:=hL.p.1;omega
 obtain ⟨b0,-,-,-,-⟩:=hB;clear hG hL hV hs hh
 go_enter Tryz.func132,Tryz.ntmps132
 go_wp2_with fail
 clear b0
 go_loopw [13] (fun i wr=>∃ k:Nat,k<=x.pn/\i=.int .i64 k/\Below w.heap.size w wr/\Hid (∀ j,j<k->x.StP j)) (fun i _=>x.pn - (intOf i).toNat)
 case atStart=>exact ⟨0,Nat.zero_le _,rfl,Below.refl _ _,fun j hj=>by omega⟩
 case round=>
  obtain ⟨k,hk,rfl,hbw,HZ⟩:=hrel;obtain ⟨-,-,-,-,b4⟩:=HB.out.below hbw;by_cases hlt:k<x.pn
  ·have hlt':(k:Int)<(x.pn:Int):=by omega
   have hkh:k<x.hn:=by have:=HS.out;omega
   have hks:k<x.sn:=by have:=HS.out;omega
   have hkh':(k:Int)<(x.hn:Int):=by omega
   have hks':(k:Int)<(x.sn:Int):=by omega
   obtain ⟨bp,op,ep,ck⟩:=(HG.out.below hbw).p.at hlt;obtain ⟨b,eb,hbl,hI⟩:=(HG.out.below hbw).pi k hlt;obtain ⟨bh,oh,eh,ch⟩:=(HG.out.below hbw).h.at hkh;rw [eb] at ck;rw [eh] at b4;rw [ep];have EH:Hid (x.ha=some ⟨bh,oh,none⟩):=eh;have HI:Hid (qan wr b 0 (x.pL k) (x.pH k)):=hI
   have hml:x.pL k<=maxLen:=by
    have:=HL.out.p.2 k hlt;unfold maxLen;omega
   have HM:Hid (x.pL k<=maxLen):=hml;have HE:Hid (EvL wr (x.hA k) (x.hL k) (x.hH k)):=(HG.out.below hbw).hi k hkh;have HLk:Hid (x.hL k<=1048576):=HL.out.h.2 k hkh;clear hI hml ep eh eb;go_wp2_with fail
   refine (qnj b (x.pL k) _ (x.hA k) (x.hL k) _ (x.pH k) (x.hH k) wr HM.out hbl HI.out HE.out HLk.out ((hbw.cell (p:=⟨0,0,none⟩) HV0.out).trans HV.out)).mono ?_;rintro e w1 ⟨v1,rfl,o1,b1⟩;obtain ⟨ra,rc,oa,oc,rfl,s1,s2⟩:=o1.read;generalize hR:resS (repO (x.pH k) (x.pL k) (x.hH k) (x.hL k))=R at *;generalize hT:(repO (x.pH k) (x.pL k) (x.hH k) (x.hL k)).isSome=T at *;have HO:Hid (resS (repO (x.pH k) (x.pL k) (x.hH k) (x.hL k))=R/\(repO (x.pH k) (x.pL k) (x.hH k) (x.hL k)).isSome=T):=⟨hR,hT⟩
   have hRl:=qrv (x.pH k) (x.pL k) (x.hH k) (x.hL k);rw [hR] at hRl;have HRL:Hid (R.rs.length<=1048576/\R.os.length<=1048576):=hRl;have B1:Hid (Below w.heap.size w w1):=hbw.trans (b1.mono hbw.size);have N2:Hid (BoxC (w1.alloc (oQ1 R.p ra R.rs.length rc oa R.os.length oc R.c)) w1.heap.size (.int .i64 R.p) (.slice ra R.rs.length rc) (.slice oa R.os.length oc) (.int .i64 R.c)):=BoxC.new w1 _ _ _ _ _;have B2:Hid (Below w.heap.size w (w1.alloc (oQ1 R.p ra R.rs.length rc oa R.os.length oc R.c))):=B1.out.trans ((zS _ _).mono B1.out.size);have S2:Hid (Sl (w1.alloc (oQ1 R.p ra R.rs.length rc oa R.os.length oc R.c)) ra R.rs/\Sl (w1.alloc (oQ1 R.p ra R.rs.length rc oa R.os.length oc R.c)) oa R.os):=⟨s1.below (zS _ _),s2.below (zS _ _)⟩
   clear o1 b1 s1 s2 ck ch b4 HI HE hbw hR hT hRl B1
   rcases zK T with rfl | rfl
   ·have HP:Hid (eqS R (x.sS k)=true ↔ x.StP k):=by
     show eqS R (x.sS k)=true ↔ x.StP k;rw [quf];unfold SysIn.StP;cases hr:repO (x.pH k) (x.pL k) (x.hH k) (x.hL k) with
     | none=>have:=HO.2;rw [hr] at this;cases this
     | some S0=>
      have:=HO.1;rw [hr] at this;rw [show S0=R from this];exact ⟨fun e=>by rw [e],fun e=>Option.some.inj e⟩
    go_wp2_with fail
    generalize w1.alloc (oQ1 R.p ra R.rs.length rc oa R.os.length oc R.c)=w2 at *;generalize w1.heap.size=Y at *;obtain ⟨k0,k1,k2,k3⟩:=N2.out;obtain ⟨-,x1,-,-,-⟩:=HB.out.below B2.out;obtain ⟨bs,os,es,s0,s1,s2,s3⟩:=(HG.out.below B2.out).s.at hks;rw [es] at x1;have HST:Hid (Sl w2 (x.sQ k).ra (x.sQ k).rs/\Sl w2 (x.sQ k).oa (x.sQ k).os):=(HG.out.below B2.out).s.lst k hks;have HSL:Hid ((x.sQ k).rs.length<=1048576/\(x.sQ k).os.length<=1048576):=HL.out.s.2 k hks;have k0':=cell_regrown k0;have k1':=cell_regrown k1;have k2':=cell_regrown k2;have k3':=cell_regrown k3;have x1':=cell_regrown x1;have s0':=cell_regrown s0;have s1':=cell_regrown s1;have s2':=cell_regrown s2;have s3':=cell_regrown s3;clear es
    have HC:Hid (∀ d os',Calls Tryz.prog 182 #[stV R.p ra R.rs.length rc oa R.os.length oc R.c,stV (x.sQ k).p (x.sQ k).ra (x.sQ k).rs.length (x.sQ k).rc (x.sQ k).oa (x.sQ k).os.length (x.sQ k).oc (x.sQ k).c] (grow (redrawn w2 d) os') fun e w'=>e=.returned (.bool (eqS R (x.sS k)))/\Below (grow (redrawn w2 d) os').heap.size (grow (redrawn w2 d) os') w'):=fun d os'=>
     qgh R (x.sS k) _ _ _ _ _ _ _ _ _ HRL.1 HRL.2 HSL.1 HSL.2 (S2.1.below (below_regrown w2 d os')) (S2.2.below (below_regrown w2 d os')) (HST.1.below (below_regrown w2 d os')) (HST.2.below (below_regrown w2 d os'))
    refine wp_region_quiet_below (by kernel_rfl) (by kernel_rfl) ?_
    repeat (quiet_step (first|(go_at_call 182;exact Calls.regrown_of (HC.out _ _))))
    refine wpQuiet_nil ?_;intro _ hw';obtain ⟨⟨dq,osq⟩,hw''⟩:=hw';subst hw'';have B3:Hid (Below w.heap.size w (grow (redrawn w2 dq) osq)):=B2.out.trans ((below_regrown w2 dq osq).mono B2.out.size);generalize grow (redrawn w2 dq) osq=w3 at *;clear k0' k1' k2' k3' x1' s0' s1' s2' s3' k0 k1 k2 k3 x1 s0 s1 s2 s3 HC
    rcases zK (eqS R (x.sS k)) with t | t
    ·have HZ':Hid (∀ j,j<k+1->x.StP j):=fun j hj=>by
      by_cases e:j=k
      ·subst e
       exact HP.1 t
      ·exact HZ.out j (by omega)
     rw [t];clear HZ t;go_wp2;go_roundw
     case rel=>exact ⟨k+1,by omega,by go_num,B3.out,HZ'.out⟩
     case measure=>simp [intOf];omega
    ·have HN:Hid (qB (∀ p,p<x.pn->x.StP p)=false):=qa4 fun h=>by
      have:=HP.2 (h k hlt);rw [t] at this;cases this
     rw [t];clear HZ t;go_wp2;go_ret;rw [HN.out];exact ⟨rfl,B3.out⟩
   ·have HN:Hid (qB (∀ p,p<x.pn->x.StP p)=false):=qa4 fun h=>by
     have h1:repO (x.pH k) (x.pL k) (x.hH k) (x.hL k)=some (x.sS k):=h k hlt;have h2:=HO.2;rw [h1] at h2;cases h2
    clear HZ;go_wp2_with fail
    generalize w1.alloc (oQ1 R.p ra R.rs.length rc oa R.os.length oc R.c)=w2 at *
    go_quiet (fail)
    go_wp2;go_ret;rw [HN.out];exact ⟨rfl,yB B2.out _⟩
  ·have HN:Hid (qB (∀ p,p<x.pn->x.StP p)=true):=qbs fun j hj=>HZ.out j (by omega)
   clear HZ;go_wp2;go_ret;rw [HN.out];exact ⟨rfl,hbw⟩
theorem qqj (X:Nat) (x:SysIn) (w:World) (hB:SysB w X x) (hG:SysG w x) (hL:x.Len):
  Calls Tryz.prog 133 #[.pointer (some ⟨X,4,none⟩)] w fun e w'=>e=.returned (.bool (qB (∀ p,p<x.hn->∀ i,i<x.hL p->belB (x.hH p i).q x.hn=true)))/\Below w.heap.size w w':=by
 have HB:Hid (SysB w X x):=hB;have HG:Hid (SysG w x):=hG;have HL:Hid x.Len:=hL;have hhn:(x.hn:Int)<=1048576:=by have:=hL.h.1;omega
 obtain ⟨-,-,-,-,b4⟩:=hB;clear hG hL
 go_enter Tryz.func133,Tryz.ntmps133
 go_wp2_with fail
 clear b4
 go_loopw [12] (fun i wr=>∃ k:Nat,k<=x.hn/\i=.int .i64 k/\Below w.heap.size w wr/\Hid (∀ j,j<k->∀ i,i<x.hL j->belB (x.hH j i).q x.hn=true)) (fun i _=>x.hn - (intOf i).toNat)
 case atStart=>exact ⟨0,Nat.zero_le _,rfl,Below.refl _ _,fun j hj=>by omega⟩
 case round=>
  obtain ⟨k,hk,rfl,hbw,HZ⟩:=hrel;by_cases hlt:k<x.hn
  ·have hlt':(k:Int)<(x.hn:Int):=by omega
   obtain ⟨bh,oh,eh,ch⟩:=(HG.out.below hbw).h.at hlt;have hll:(x.hL k:Int)<=1048576:=by have:=HL.out.h.2 k hlt;omega
   rw [eh];go_wp2_with fail
   clear ch
   go_loopw [18] (fun i wr=>∃ j:Nat,j<=x.hL k/\i=.int .i64 j/\Below w.heap.size w wr/\Hid (∀ i,i<j->belB (x.hH k i).q x.hn=true)) (fun i _=>x.hL k - (intOf i).toNat)
   case atStart=>exact ⟨0,Nat.zero_le _,rfl,hbw,fun j hj=>by omega⟩
   case round=>
    clear hbw;obtain ⟨j,hj,rfl,hbw,HY⟩:=hrel;by_cases hjl:j<x.hL k
    ·have hjl':(j:Int)<(x.hL k:Int):=by omega
     obtain ⟨-,-,-,-,b4⟩:=HB.out.below hbw;obtain ⟨b,off,ea,-,c0,c1,c2⟩:=((HG.out.below hbw).hi k hlt).at hjl;rw [ea];rw [eh] at b4;go_wp2_with fail
     have B2:Hid (Below w.heap.size w (wr.alloc (oQ0 (x.hH k j).k (x.hH k j).q (x.hH k j).v))):=hbw.trans ((zS _ _).mono hbw.size);have x4:(wr.alloc (oQ0 (x.hH k j).k (x.hH k j).q (x.hH k j).v)).cell? ⟨X,4,none⟩=some (.slice (some ⟨bh,oh,none⟩) x.hn x.hc):=((zS _ _).cell (p:=⟨X,4,none⟩) (zJ wr _ b4)).trans b4;have xe:(wr.alloc (oQ0 (x.hH k j).k (x.hH k j).q (x.hH k j).v)).cell? ⟨wr.heap.size,1,none⟩=some (.int .i64 (x.hH k j).q):=zV _ _ _ 1 rfl;clear c0 c1 c2 b4;generalize wr.alloc (oQ0 (x.hH k j).k (x.hH k j).q (x.hH k j).v)=w2 at *;have x4':=cell_regrown x4;have xe':=cell_regrown xe;refine wp_region_quiet_below (by kernel_rfl) (by kernel_rfl) ?_
     repeat (quiet_step (first|(go_at_call 27;exact Calls.regrown_same (isBelow_any _ _ _))))
     refine wpQuiet_nil ?_;intro _ hw';obtain ⟨⟨dq,osq⟩,hw''⟩:=hw';subst hw'';have B3:Hid (Below w.heap.size w (grow (redrawn w2 dq) osq)):=B2.out.trans ((below_regrown w2 dq osq).mono B2.out.size);generalize grow (redrawn w2 dq) osq=w3 at *;clear x4' xe' x4 xe
     rcases zK (belB (x.hH k j).q x.hn) with t | t
     ·have HY':Hid (∀ i,i<j+1->belB (x.hH k i).q x.hn=true):=fun i hi=>by
       by_cases e:i=j
       ·subst e
        exact t
       ·exact HY.out i (by omega)
      rw [t];clear HY t;go_wp2;go_roundw
      case rel=>exact ⟨j+1,by omega,by go_num,B3.out,HY'.out⟩
      case measure=>simp [intOf];omega
     ·have HN:Hid (qB (∀ p,p<x.hn->∀ i,i<x.hL p->belB (x.hH p i).q x.hn=true)=false):=qa4 fun h=>by
       have:=h k hlt j hjl;rw [t] at this;cases this
      rw [t];clear HY t;go_wp2;go_ret;rw [HN.out];exact ⟨rfl,B3.out⟩
    ·have HZ':Hid (∀ p,p<k+1->∀ i,i<x.hL p->belB (x.hH p i).q x.hn=true):=fun p hp i hi=>by
      by_cases e:p=k
      ·subst e
       exact HY.out i (by omega)
      ·exact HZ.out p (by omega) i hi
     clear HZ HY;go_wp2;go_roundw
     case rel=>exact ⟨k+1,by omega,by go_num,hbw,HZ'.out⟩
     case measure=>simp [intOf];omega
  ·have HN:Hid (qB (∀ p,p<x.hn->∀ i,i<x.hL p->belB (x.hH p i).q x.hn=true)=true):=qbs fun j hj=>HZ.out j (by omega)
   clear HZ;go_wp2;go_ret;rw [HN.out];exact ⟨rfl,hbw⟩
theorem qhp {ops:Array Oper} {o:Oper} {a:Act} {w:World} {K:Act->World->Prop} {Q:Exit->Act->World->Prop} {E:Prop} (hg:o.guard=none) (s x:Operand)
  (ho:o.op=.call { callee:=.builtin .append,args:=#[s,x],argTypes:=#[28,28] })
  (B c:Nat) (v:Value) (a0:Option Addr) (xs ys:List Int) (hs:a.eval s=v) (hx:a.eval x=.slice a0 ys.length c) (hv:OwnI w B v xs) (hy:Sl w a0 ys) (hn:xs.length+ys.length<=4000000) (hB:B<=w.heap.size)
  (h:∀ v' w',OwnI w' B v' (xs ++ ys)->w.grownBy w' v.ownBlock->K (a.put o.dst v') w'):
  if Region.wanted o (yielded ops a.tmps)=true then Oper.wp Tryz.prog o a w K Q else E:=by
 obtain ⟨v',w',h1,h2,h3,-⟩:=qd1 w o.type B c v a0 xs ys hv hy hn hB;have hw:Region.wanted o (yielded ops a.tmps)=true:=by simp [Region.wanted,hg]
 rw [if_pos hw];unfold Oper.wp execOp;simp only [ho,resolve,invoke,builtin,Sem.run_bind,Sem.run_pure,Result.andThen_ok,List.map_toArray,List.map_cons,List.map_nil,hs,hx,h1];exact h v' w' h2 h3
theorem qd5 {ops:Array Oper} {o:Oper} {a:Act} {w:World} {K:Act->World->Prop} {Q:Exit->Act->World->Prop} {E:Prop} (hg:o.guard=none) (f:FuncId) (args:Array Operand) (ts:Array TypeId)
  (ho:o.op=.call { callee:=.value (.func f),args:=args,argTypes:=ts }) (vals:Array Value) (hv:args.map a.eval=vals) (hen:∀ vs wx,(callFunc f vs).run Tryz.prog wx=.ok (.enter f vs) wx) {post:Ending->World->Prop} (hc:Calls Tryz.prog f vals w post)
  (h:∀ e w',post e w'->∃ v,e=.returned v/\K (a.put o.dst v) w'):
  if Region.wanted o (yielded ops a.tmps)=true then Oper.wp Tryz.prog o a w K Q else E:=by
 have hw:Region.wanted o (yielded ops a.tmps)=true:=by simp [Region.wanted,hg]
 rw [if_pos hw]
 have hr:(execOp a.eval o).run Tryz.prog w=.ok (.enter f vals) w:=by
  unfold execOp;simp [ho,resolve,invoke,hv,hen,Act.eval,Deferred.ofValue]
 unfold Oper.wp;rw [hr,Oper.upon_enter];refine hc.mono fun e w' hp=>?_;obtain ⟨v,rfl,hk⟩:=h e w' hp;exact hk
theorem qvs (X:Nat) (x:SysIn) (a b:Nat) (w:World) (hB:SysB w X x) (hG:SysG w x) (hL:x.Len) (hb:b<x.hn):
  Calls Tryz.prog 185 #[.pointer (some ⟨X,4,none⟩),.int .i64 a,.int .i64 b] w fun e w'=>∃ v,e=.returned v/\OwnI w' w.heap.size v (valL (x.hH b) 3 a (x.hL b))/\Below w.heap.size w w':=by
 have HE:Hid (EvL w (x.hA b) (x.hL b) (x.hH b)):=hG.hi b hb;have HLb:Hid (x.hL b<=1048576):=hL.h.2 b hb;have hb':(b:Int)<(x.hn:Int):=by omega
 obtain ⟨bh,oh,eh,ch⟩:=hG.h.at hb;obtain ⟨-,-,-,-,c4⟩:=hB;rw [eh] at c4;clear hG hL eh
 go_enter Tryz.func185,Tryz.ntmps185
 go_wp2_with fail
 refine (qg7 (x.hA b) (x.hL b) _ (x.hH b) 3 a w HLb.out HE.out).mono ?_;rintro e w1 ⟨v,rfl,o1,b1⟩;have O1:Hid (OwnI w1 w.heap.size v (valL (x.hH b) 3 a (x.hL b))/\Below w.heap.size w w1):=⟨o1,b1⟩
 clear o1 b1 c4 ch;go_wp2;go_ret;exact ⟨_,rfl,O1.1,O1.2⟩
theorem qwu (X:Nat) (x:SysIn) (a b:Nat) (w:World) (hB:SysB w X x) (hG:SysG w x) (hL:x.Len) (ha:a<x.hn):
  Calls Tryz.prog 187 #[.pointer (some ⟨X,4,none⟩),.int .i64 a,.int .i64 b] w fun e w'=>∃ v,e=.returned v/\OwnI w' w.heap.size v (valL (x.hH a) 2 b (x.hL a))/\Below w.heap.size w w':=by
 have HE:Hid (EvL w (x.hA a) (x.hL a) (x.hH a)):=hG.hi a ha;have HLb:Hid (x.hL a<=1048576):=hL.h.2 a ha;have ha':(a:Int)<(x.hn:Int):=by omega
 obtain ⟨bh,oh,eh,ch⟩:=hG.h.at ha;obtain ⟨-,-,-,-,c4⟩:=hB;rw [eh] at c4;clear hG hL eh
 go_enter Tryz.func187,Tryz.ntmps187
 go_wp2_with fail
 refine (qg7 (x.hA a) (x.hL a) _ (x.hH a) 2 b w HLb.out HE.out).mono ?_;rintro e w1 ⟨v,rfl,o1,b1⟩;have O1:Hid (OwnI w1 w.heap.size v (valL (x.hH a) 2 b (x.hL a))/\Below w.heap.size w w1):=⟨o1,b1⟩
 clear o1 b1 c4 ch;go_wp2;go_ret;exact ⟨_,rfl,O1.1,O1.2⟩
structure SysIn.WyP (x:SysIn) (i:Nat):Prop where
 ok:(decide (x.wL i<=12) && qcs (x.wH i) (x.wL i))=true
 eq:valL (x.hH (i % x.pn)) 3 ((i / x.pn:Nat):Int) (x.hL (i % x.pn)) ++ numL (x.wH i) (x.wL i)=valL (x.hH (i / x.pn)) 2 ((i % x.pn:Nat):Int) (x.hL (i / x.pn))
theorem qt4 (X:Nat) (x:SysIn) (w:World) (hB:SysB w X x) (hG:SysG w x) (hL:x.Len) (hh:x.hn=x.pn) (hw:x.wn=x.pn*x.pn) (h1:1<=x.pn) (h4:x.pn<=4) (h200:∀ p,p<x.hn->x.hL p<=200):
  Calls Tryz.prog 134 #[.pointer (some ⟨X,0,none⟩)] w fun e w'=>e=.returned (.bool (qB (∀ i,i<x.wn->x.WyP i)))/\Below w.heap.size w w':=by
 have HB:Hid (SysB w X x):=hB;have HG:Hid (SysG w x):=hG;have HL:Hid x.Len:=hL;have hwn:(x.wn:Int)<=1048576:=by have:=hL.w.1;omega
 have hp1:(1:Int)<=(x.pn:Int):=by omega
 have hp4:(x.pn:Int)<=4:=by omega
 have hp0:¬ (x.pn:Int)=0:=by omega
 have HS:Hid (x.hn=x.pn/\x.wn=x.pn*x.pn/\1<=x.pn/\x.pn<=4):=⟨hh,hw,h1,h4⟩
 have H2:Hid (∀ p,p<x.hn->x.hL p<=200):=h200;obtain ⟨b0,-,b2,-,-⟩:=hB;clear hG hL hh hw h1 h4 h200
 go_enter Tryz.func134,Tryz.ntmps134
 go_wp2_with fail
 clear b0 b2
 go_loopw [20] (fun i wr=>∃ k:Nat,k<=x.wn/\i=.int .i64 k/\Below w.heap.size w wr/\Hid (∀ j,j<k->x.WyP j)) (fun i _=>x.wn - (intOf i).toNat)
 case atStart=>exact ⟨0,Nat.zero_le _,rfl,Below.refl _ _,fun j hj=>by omega⟩
 case round=>
  obtain ⟨k,hk,rfl,hbw,HZ⟩:=hrel;by_cases hlt:k<x.wn
  ·have hlt':(k:Int)<(x.wn:Int):=by omega
   obtain ⟨bp,op,ep,ck⟩:=(HG.out.below hbw).w.at hlt;have HI:Hid (ItL wr (x.wA k) (x.wL k) (x.wH k)):=(HG.out.below hbw).wi k hlt;have HLk:Hid (x.wL k<=1048576):=HL.out.w.2 k hlt;rw [ep];clear ep;go_wp2_with fail
   refine (qvx (x.wA k) (x.wL k) _ (x.wH k) wr HLk.out HI.out).mono ?_;rintro e w1 ⟨rfl,b1⟩;have B1:Hid (Below w.heap.size w w1):=hbw.trans (b1.mono hbw.size);have HI1:Hid (ItL w1 (x.wA k) (x.wL k) (x.wH k)):=HI.out.below b1;clear b1 ck HI hbw
   rcases zK (decide (x.wL k<=12) && qcs (x.wH k) (x.wL k)) with t | t
   case inr=>
    have HN:Hid (qB (∀ i,i<x.wn->x.WyP i)=false):=qa4 fun h=>by
     have:=(h k hlt).ok;rw [t] at this;cases this
    rw [t];clear HZ t;go_wp2;go_ret;rw [HN.out];exact ⟨rfl,B1.out⟩
   have HT:Hid ((decide (x.wL k<=12) && qcs (x.wH k) (x.wL k))=true):=t;have HH:Hid (x.wL k<=12/\∀ p,p<x.hn->x.hL p<=200):=⟨by simp at t;exact t.1,H2.out⟩
   rw [t];clear t
   have hqa:k / x.pn<x.pn:=by
    have h:=HS.out;exact Nat.div_lt_of_lt_mul (by rw [<- h.2.1];exact hlt)
   have hqb:k % x.pn<x.pn:=Nat.mod_lt _ (by have:=HS.out;omega);have eq1:Int.tdiv (k:Int) (x.pn:Int)=((k / x.pn:Nat):Int):=(Int.ofNat_tdiv k x.pn).symm;have eq2:Int.tmod (k:Int) (x.pn:Int)=((k % x.pn:Nat):Int):=(Int.ofNat_tmod k x.pn).symm;have HW:Hid (x.WyP k ↔ valL (x.hH (k % x.pn)) 3 ((k / x.pn:Nat):Int) (x.hL (k % x.pn)) ++ numL (x.wH k) (x.wL k)=valL (x.hH (k / x.pn)) 2 ((k % x.pn:Nat):Int) (x.hL (k / x.pn))):=⟨fun h=>h.eq,fun h=>⟨HT.out,h⟩⟩
   generalize k / x.pn=a at *;generalize k % x.pn=b at *;have ha':(a:Int)<4:=by omega
   have hb':(b:Int)<4:=by omega
   have HAB:Hid (a<x.hn/\b<x.hn):=by have:=HS.out;exact ⟨by omega,by omega⟩
   clear hqa hqb;go_wp2_with fail
   go_quiet (fail)
   have B2:Hid (Below w.heap.size w (w1.drewN nq)):=yB B1.out _;have HI2:Hid (ItL (w1.drewN nq) (x.wA k) (x.wL k) (x.wH k)):=HI1.out;generalize w1.drewN nq=w2 at *;clear B1 HI1
   have HLs:Hid ((valL (x.hH b) 3 a (x.hL b)).length+(numL (x.wH k) (x.wL k)).length<=4000000):=by
    have h1:=qgp (x.hH b) 3 a (x.hL b);have h2:=qgj (x.wH k) (x.wL k);have h3:=HL.out.h.2 b HAB.2;have h4:=HLk.out;show _<=_;omega
   have HLs2:Hid ((valL (x.hH b) 3 a (x.hL b) ++ numL (x.wH k) (x.wL k)).length<=1048576/\(valL (x.hH a) 2 b (x.hL a)).length<=1048576):=by
    have h1:=qgp (x.hH b) 3 a (x.hL b);have h2:=qgj (x.wH k) (x.wL k);have h3:=HH.2 b HAB.2;have h4:=HH.1;have h5:=qgp (x.hH a) 2 b (x.hL a);have h6:=HL.out.h.2 a HAB.1;refine ⟨?_,by omega⟩;rw [List.length_append];omega
   go_wp2_with fail
   go_region_law (first
    | (refine qd5 rfl 185 _ _ rfl #[.pointer (some ⟨X,4,none⟩),.int .i64 a,.int .i64 b] (by simp [Act.eval,Act.put]) (zZ Tryz.func185 (by kernel_rfl) rfl) (qvs X x a b w2.drew (HB.out.below B2.out.drew) (HG.out.below B2.out.drew) HL.out HAB.2) ?_;rintro e w3 ⟨v3,rfl,o3,b3⟩;refine ⟨_,rfl,?_⟩;have O3:Hid (OwnI w3 w2.heap.size v3 (valL (x.hH b) 3 a (x.hL b))):=o3;have B3:Hid (Below w.heap.size w w3/\w2.heap.size<=w3.heap.size):=⟨B2.out.drew.trans (b3.mono B2.out.size),b3.size⟩;clear o3 b3)
    | (refine qd5 rfl 186 _ _ rfl #[.slice (x.wA k) (x.wL k) (x.wC k)] (by simp [Act.eval]) (zZ Tryz.func186 (by kernel_rfl) rfl) (qk4 (x.wA k) (x.wL k) _ (x.wH k) w3 HLk.out ((HG.out.below B3.1).wi k hlt)) ?_;rintro e w4 ⟨v4,rfl,o4,b4⟩;refine ⟨_,rfl,?_⟩;obtain ⟨na,nc,rfl,s4⟩:=o4.form;have S4:Hid (Sl w4 na (numL (x.wH k) (x.wL k))):=s4;have O4:Hid (OwnI w4 w2.heap.size v3 (valL (x.hH b) 3 a (x.hL b))):=O3.out.below b4;have B4:Hid (Below w.heap.size w w4/\w2.heap.size<=w4.heap.size):=⟨B3.1.trans (b4.mono B3.1.size),zO B3.2 b4.size⟩;clear o4 b4 s4)
    | (refine qhp rfl _ _ rfl w2.heap.size nc v3 na (valL (x.hH b) 3 a (x.hL b)) (numL (x.wH k) (x.wL k)) (by simp [Act.eval]) (by simp [Act.eval]) O4.out S4.out HLs.out B4.2 ?_;intro v5 w5 o5 g5;obtain ⟨a5,c5,rfl,-⟩:=o5.form;have O5:Hid (OwnI w5 w2.heap.size (.slice a5 (valL (x.hH b) 3 a (x.hL b) ++ numL (x.wH k) (x.wL k)).length c5) (valL (x.hH b) 3 a (x.hL b) ++ numL (x.wH k) (x.wL k))):=o5;have B5:Hid (Below w.heap.size w w5):=Below.grown B4.1 g5 (zO B2.out.size B4.2) (fun q hq=>zO B2.out.size (O4.out.lt q hq).1);clear o5 g5)
    | (refine qd5 rfl 187 _ _ rfl #[.pointer (some ⟨X,4,none⟩),.int .i64 a,.int .i64 b] (by simp [Act.eval]) (zZ Tryz.func187 (by kernel_rfl) rfl) (qwu X x a b w5 (HB.out.below B5.out) (HG.out.below B5.out) HL.out HAB.1) ?_;rintro e w6 ⟨v6,rfl,o6,b6⟩;refine ⟨_,rfl,?_⟩;obtain ⟨a6,c6,rfl,s6⟩:=o6.form;have S6:Hid (Sl w6 a6 (valL (x.hH a) 2 b (x.hL a))/\Sl w6 a5 (valL (x.hH b) 3 a (x.hL b) ++ numL (x.wH k) (x.wL k))):=⟨s6,O5.out.slOf.below b6⟩;have B6:Hid (Below w.heap.size w w6):=B5.out.trans (b6.mono B5.out.size);clear o6 b6 s6)
    | (refine qd5 rfl 184 _ _ rfl #[.slice a5 (valL (x.hH b) 3 a (x.hL b) ++ numL (x.wH k) (x.wL k)).length c5,.slice a6 (valL (x.hH a) 2 b (x.hL a)).length c6] (by simp [Act.eval]) (zZ Tryz.func184 (by kernel_rfl) rfl) (qfi a5 a6 c5 c6 _ _ w6 HLs2.1 HLs2.2 S6.2 S6.1) ?_;rintro e w7 ⟨rfl,b7⟩;refine ⟨_,rfl,?_⟩;have B7:Hid (Below w.heap.size w w7):=B6.out.trans (b7.mono B6.out.size);clear b7))
   clear O3 O4 O5 B3 B4 B5 B6 S4 S6 HLs HLs2
   have HE:Hid (x.WyP k ↔ (valL (x.hH b) 3 a (x.hL b) ++ numL (x.wH k) (x.wL k) == valL (x.hH a) 2 b (x.hL a))=true):=by
    show x.WyP k ↔ (valL (x.hH b) 3 a (x.hL b) ++ numL (x.wH k) (x.wL k) == valL (x.hH a) 2 b (x.hL a))=true;rw [beq_iff_eq];exact HW.out
   generalize (valL (x.hH b) 3 a (x.hL b) ++ numL (x.wH k) (x.wL k) == valL (x.hH a) 2 b (x.hL a))=T at *
   rcases zK T with rfl | rfl
   ·have HZ':Hid (∀ j,j<k+1->x.WyP j):=fun j hj=>by
     by_cases e:j=k
     ·subst e
      exact HE.2 rfl
     ·exact HZ.out j (by omega)
    clear HZ HW;go_wp2;go_roundw
    case rel=>exact ⟨k+1,by omega,by go_num,B7.out,HZ'.out⟩
    case measure=>simp [intOf];omega
   ·have HN:Hid (qB (∀ i,i<x.wn->x.WyP i)=false):=qa4 fun h=>by
     have:=HE.1 (h k hlt);cases this
    clear HZ HW;go_wp2;go_ret;rw [HN.out];exact ⟨rfl,B7.out⟩
  ·have HN:Hid (qB (∀ i,i<x.wn->x.WyP i)=true):=qbs fun j hj=>HZ.out j (by omega)
   clear HZ;go_wp2;go_ret;rw [HN.out];exact ⟨rfl,hbw⟩
def sysL (pa:Option Addr) (pn pc:Nat) (sa:Option Addr) (sn sc:Nat) (wa:Option Addr) (wn wc:Nat) (ha:Option Addr) (hn hc:Nat):List Value:=
 [.slice pa pn pc,.slice sa sn sc,.slice wa wn wc,.slice ha hn hc,.slice ha hn hc,.int .i64 0,.int .i64 0,.int .i64 0,.int .i64 0,.int .i64 0,.int .i64 0,.int .i64 0,.int .i64 0,.int .i64 0,.int .i64 0,.int .i64 0,.int .i64 0,.int .i64 0,.int .i64 0,.int .i64 0,.int .i64 0,.int .i64 0,.int .i64 0,.int .i64 0,.int .i64 0]
theorem qhy (pa:Option Addr) (pn pc:Nat) (sa:Option Addr) (sn sc:Nat) (wa:Option Addr) (wn wc:Nat) (ha:Option Addr) (hn hc:Nat):(sysL pa pn pc sa sn sc wa wn wc ha hn hc).length=25:=rfl
theorem qhz (pa:Option Addr) (pn pc:Nat) (sa:Option Addr) (sn sc:Nat) (wa:Option Addr) (wn wc:Nat) (ha:Option Addr) (hn hc:Nat):∀ v ∈ sysL pa pn pc sa sn sc wa wn wc ha hn hc,v.oneCell'=true:=by
 intro v hv;simp only [sysL,List.mem_cons,List.not_mem_nil,or_false] at hv
 rcases hv with rfl | rfl | rfl | rfl | rfl | rfl | rfl | rfl | rfl | rfl | rfl | rfl | rfl | rfl | rfl | rfl | rfl | rfl | rfl | rfl | rfl | rfl | rfl | rfl | rfl <;> rfl
theorem qed:(Tryz.prog.info? 178).map (·.size)=some 25:=by kernel_rfl
theorem qfw {fn:Func} {ra rb:Nat} {ty:TypeId} (h:fn.results=#[.cell ra ty,.tmp rb]) (tmps:Array Value) (w:World) (N:Nat) (cs:List Value) (d:TypeDesc) (ha:tmps.getD ra undef=.pointer (some ⟨N,0,none⟩)) (hc:w.rangeAt N 0 cs) (hu:Tryz.prog.underlying ty=some d) (hd:d.isRow=true) (hi:(Tryz.prog.info? ty).map (·.size)=some cs.length):
  (results fn tmps).run Tryz.prog w=.ok (.tuple #[.agg cs.toArray,tmps.getD rb undef]) w:=by
 have hl:=run_loadVar_mid (P:=Tryz.prog) w N 0 ty cs d hc hu hd hi;rw [Array.getD_eq_getD_getElem?] at ha;simp [results,h,ha,asAddr,hl]
theorem qf5 (w:World) (zs:Array Value) (t:TypeId) (n N:Nat) (hn:zs.size=n) (hN:N=w.heap.size):(w.alloc (.cells zs t)).there N 0 n:=fun j hj=>by
 subst hN;refine ⟨?_,yA _ _ _ _ rfl⟩;rw [Nat.zero_add,zV _ _ _ j rfl,Array.getElem?_eq_getElem (by omega)];rfl
theorem qcq (pa:Option Addr) (pn pc:Nat) (sa:Option Addr) (sn sc:Nat) (wa:Option Addr) (wn wc:Nat) (ha:Option Addr) (hn hc:Nat) (w:World) (hh:(pn:Int)<1\/(¬ (pn:Int)<1/\(4:Int)<(pn:Int))\/(¬ (pn:Int)<1/\¬ (4:Int)<(pn:Int)/\((sn:Int) != (pn:Int))=true)\/(¬ (pn:Int)<1/\¬ (4:Int)<(pn:Int)/\((sn:Int) != (pn:Int))=false/\((hn:Int) != (pn:Int))=true)\/(¬ (pn:Int)<1/\¬ (4:Int)<(pn:Int)/\((sn:Int) != (pn:Int))=false/\((hn:Int) != (pn:Int))=false/\0<=(pn:Int)*(pn:Int)/\(pn:Int)*(pn:Int)<=16/\((wn:Int) != (pn:Int)*(pn:Int))=true)):
  Calls Tryz.prog 130 #[sysV pa pn pc sa sn sc wa wn wc ha hn hc] w fun e w'=>e=.returned (.tuple #[.agg (sysL none 0 0 none 0 0 none 0 0 none 0 0).toArray,.bool false])/\Below w.heap.size w w':=by
 have hl:=qhy none 0 0 none 0 0 none 0 0 none 0 0;have ho:=qhz none 0 0 none 0 0 none 0 0 none 0 0;generalize hcs:sysL none 0 0 none 0 0 none 0 0 none 0 0=cs at *;have HC:Hid (sysL none 0 0 none 0 0 none 0 0 none 0 0=cs):=hcs;have hs:cs.toArray.size=25:=by simpa using hl
 have HT:Hid (((w.alloc (oQ4 pa pn pc sa sn sc wa wn wc ha hn hc)).alloc (zQ6)).there (w.heap.size+1) 0 cs.toArray.size):=qf5 _ _ _ _ _ (by rw [hs];rfl) (by simp);have HI:Hid ((Tryz.prog.info? 178).map (·.size)=some cs.length):=by rw [hl];exact qed
 have HO:Hid (cs.toArray.all (·.oneCell')=true):=all_oneCell_toArray ho;have BW:Hid (Below w.heap.size w ((w.alloc (oQ4 pa pn pc sa sn sc wa wn wc ha hn hc)).alloc (zQ6))):=(zS _ _).trans ((zS _ _).mono (by simp));have BX:Hid (BoxC ((w.alloc (oQ4 pa pn pc sa sn sc wa wn wc ha hn hc)).alloc (zQ6)) w.heap.size (.slice pa pn pc) (.slice sa sn sc) (.slice wa wn wc) (.slice ha hn hc)):=(BoxC.new w _ _ _ _ _).below (zS _ _);clear hcs hl ho hs
 rcases hh with h1 | ⟨h1,h4⟩ | ⟨h1,h4,h5⟩ | ⟨h1,h4,h5,h6⟩ | ⟨h1,h4,h5,h6,h8,h9,h7⟩
 all_goals
  go_enter Tryz.func130,Tryz.ntmps130
  go_upto_region 1 with fail
  generalize ((w.alloc (oQ4 pa pn pc sa sn sc wa wn wc ha hn hc)).alloc (zQ6))=W0 at *;obtain ⟨k0,k1,k2,k3⟩:=BX.out;go_upto_region 3 with fail
  go_wp2_with (refine wpList_store_mid rfl 178 (.tmp 2) (.tmp 37) rfl (w.heap.size+1) 0 cs.toArray rfl (by rw [<- HC.out];rfl) HT.out (by simpa using HI.out) HO.out ?_)
  have HR:Hid ((W0.setCells (w.heap.size+1) 0 cs).rangeAt (w.heap.size+1) 0 cs):=World.rangeAt_setCells_same _ _ _ _ (by simpa using HT.out);have BE:Hid (Below w.heap.size w (W0.setCells (w.heap.size+1) 0 cs)):=BW.out.trans ((qaa.sets (P:=fun b=>b=w.heap.size+1) rfl _ _ (qaa.refl _ _)).below BW.out.size fun b e=>by omega);clear HT HC BW BX;generalize W0.setCells (w.heap.size+1) 0 cs=W1 at *;exact bodyPost_ret (qfw Tryz.results130 _ _ (w.heap.size+1) cs _ rfl HR.out Tryz.underlying178 rfl HI.out) rfl ⟨rfl,BE.out⟩
theorem qoo (pa:Option Addr) (pn pc:Nat) (sa:Option Addr) (sn sc:Nat) (wa:Option Addr) (wn wc:Nat) (ha:Option Addr) (hn hc:Nat) (w:World) (h1:¬ (pn:Int)<1) (h4:¬ (4:Int)<(pn:Int)) (h5:((sn:Int) != (pn:Int))=false) (h6:((hn:Int) != (pn:Int))=false) (h8:0<=(pn:Int)*(pn:Int)) (h9:(pn:Int)*(pn:Int)<=16) (h7:((wn:Int) != (pn:Int)*(pn:Int))=false):
  Calls Tryz.prog 130 #[sysV pa pn pc sa sn sc wa wn wc ha hn hc] w fun e w'=>e=.returned (.tuple #[.agg (sysL pa pn pc sa sn sc wa wn wc ha hn hc).toArray,.bool true])/\Below w.heap.size w w':=by
 have hl:=qhy pa pn pc sa sn sc wa wn wc ha hn hc;have ho:=qhz pa pn pc sa sn sc wa wn wc ha hn hc;generalize hcs:sysL pa pn pc sa sn sc wa wn wc ha hn hc=cs at *;have HC:Hid (sysL pa pn pc sa sn sc wa wn wc ha hn hc=cs):=hcs;have hs:cs.toArray.size=25:=by simpa using hl
 have HT:Hid (((w.alloc (oQ4 pa pn pc sa sn sc wa wn wc ha hn hc)).alloc (zQ6)).there (w.heap.size+1) 0 cs.toArray.size):=qf5 _ _ _ _ _ (by rw [hs];rfl) (by simp);have HI:Hid ((Tryz.prog.info? 178).map (·.size)=some cs.length):=by rw [hl];exact qed
 have HO:Hid (cs.toArray.all (·.oneCell')=true):=all_oneCell_toArray ho;have BW:Hid (Below w.heap.size w ((w.alloc (oQ4 pa pn pc sa sn sc wa wn wc ha hn hc)).alloc (zQ6))):=(zS _ _).trans ((zS _ _).mono (by simp));have BX:Hid (BoxC ((w.alloc (oQ4 pa pn pc sa sn sc wa wn wc ha hn hc)).alloc (zQ6)) w.heap.size (.slice pa pn pc) (.slice sa sn sc) (.slice wa wn wc) (.slice ha hn hc)):=(BoxC.new w _ _ _ _ _).below (zS _ _);clear hcs hl ho hs
 go_enter Tryz.func130,Tryz.ntmps130
 go_upto_region 1 with fail
 generalize ((w.alloc (oQ4 pa pn pc sa sn sc wa wn wc ha hn hc)).alloc (zQ6))=W0 at *;obtain ⟨k0,k1,k2,k3⟩:=BX.out;go_upto_region 4 with fail
 go_wp2_with (refine wpList_store_mid rfl 178 (.tmp 2) (.tmp 42) rfl (w.heap.size+1) 0 cs.toArray rfl (by rw [<- HC.out];rfl) HT.out (by simpa using HI.out) HO.out ?_)
 have HR:Hid ((W0.setCells (w.heap.size+1) 0 cs).rangeAt (w.heap.size+1) 0 cs):=World.rangeAt_setCells_same _ _ _ _ (by simpa using HT.out);have BE:Hid (Below w.heap.size w (W0.setCells (w.heap.size+1) 0 cs)):=BW.out.trans ((qaa.sets (P:=fun b=>b=w.heap.size+1) rfl _ _ (qaa.refl _ _)).below BW.out.size fun b e=>by omega);clear HT HC BW BX;generalize W0.setCells (w.heap.size+1) 0 cs=W1 at *;exact bodyPost_ret (qfw Tryz.results130 _ _ (w.heap.size+1) cs _ rfl HR.out Tryz.underlying178 rfl HI.out) rfl ⟨rfl,BE.out⟩
theorem qqt (pa:Option Addr) (pn pc:Nat) (sa:Option Addr) (sn sc:Nat) (wa:Option Addr) (wn wc:Nat) (ha:Option Addr) (hn hc:Nat) (w:World) (h:¬ ((1<=pn/\pn<=4)/\sn=pn/\hn=pn/\wn=pn*pn)):
  Calls Tryz.prog 130 #[sysV pa pn pc sa sn sc wa wn wc ha hn hc] w fun e w'=>e=.returned (.tuple #[.agg (sysL none 0 0 none 0 0 none 0 0 none 0 0).toArray,.bool false])/\Below w.heap.size w w':=by
 by_cases h1:(pn:Int)<1
 ·exact qcq pa pn pc sa sn sc wa wn wc ha hn hc w (.inl h1)
 by_cases h4:(4:Int)<(pn:Int)
 ·exact qcq pa pn pc sa sn sc wa wn wc ha hn hc w (.inr (.inl ⟨h1,h4⟩))
 rcases zK ((sn:Int) != (pn:Int)) with h5 | h5
 ·exact qcq pa pn pc sa sn sc wa wn wc ha hn hc w (.inr (.inr (.inl ⟨h1,h4,h5⟩)))
 rcases zK ((hn:Int) != (pn:Int)) with h6 | h6
 ·exact qcq pa pn pc sa sn sc wa wn wc ha hn hc w (.inr (.inr (.inr (.inl ⟨h1,h4,h5,h6⟩))))
 have h8:0<=(pn:Int)*(pn:Int):=Int.mul_nonneg (by omega) (by omega)
 have h9:(pn:Int)*(pn:Int)<=16:=by
  have:=Int.mul_le_mul (show (pn:Int)<=4 by omega) (show (pn:Int)<=4 by omega) (by omega) (by omega);omega
 rcases zK ((wn:Int) != (pn:Int)*(pn:Int)) with h7 | h7
 ·exact qcq pa pn pc sa sn sc wa wn wc ha hn hc w (.inr (.inr (.inr (.inr ⟨h1,h4,h5,h6,h8,h9,h7⟩))))
 ·exfalso
  refine h ⟨⟨by omega,by omega⟩,?_,?_,?_⟩
  ·simp at h5
   omega
  ·simp at h6
   omega
  ·have h7':(wn:Int)=(pn:Int)*(pn:Int):=by simpa using h7
   have:((wn:Nat):Int)=((pn*pn:Nat):Int):=by rw [h7',Int.natCast_mul]
   omega
theorem qqu (pa:Option Addr) (pn pc:Nat) (sa:Option Addr) (sn sc:Nat) (wa:Option Addr) (wn wc:Nat) (ha:Option Addr) (hn hc:Nat) (w:World) (h:(1<=pn/\pn<=4)/\sn=pn/\hn=pn/\wn=pn*pn):
  Calls Tryz.prog 130 #[sysV pa pn pc sa sn sc wa wn wc ha hn hc] w fun e w'=>e=.returned (.tuple #[.agg (sysL pa pn pc sa sn sc wa wn wc ha hn hc).toArray,.bool true])/\Below w.heap.size w w':=by
 obtain ⟨⟨h1,h4⟩,h5,h6,h7⟩:=h;have h8:0<=(pn:Int)*(pn:Int):=Int.mul_nonneg (by omega) (by omega)
 have h9:(pn:Int)*(pn:Int)<=16:=by
  have:=Int.mul_le_mul (show (pn:Int)<=4 by omega) (show (pn:Int)<=4 by omega) (by omega) (by omega);omega
 exact qoo pa pn pc sa sn sc wa wn wc ha hn hc w (by omega) (by omega) (by simp [h5]) (by simp [h6]) h8 h9 (by rw [h7,Int.natCast_mul];simp)
theorem qy7 {x:SysIn} (hc:(1<=x.pn/\x.pn<=4)/\x.sn=x.pn/\x.hn=x.pn/\x.wn=x.pn*x.pn):
  ((∀ p,p<x.pn->qac (x.pH p) (x.pL p) x.pn=true)/\(∀ p,p<x.pn->x.StP p)/\(∀ p,p<x.hn->∀ i,i<x.hL p->belB (x.hH p i).q x.hn=true)/\(∀ i,i<x.wn->x.WyP i)/\x.y.hs.Row) ↔ x.y.Ok:=by
 obtain ⟨⟨c1,c4⟩,c5,c6,c7⟩:=hc;refine ⟨fun ⟨a,b,c,d,e⟩=>⟨⟨⟨c1,c4⟩,c5,c6,c7⟩,a,b,fun p hp i hi=>?_,fun p hp q hq=>?_,e⟩,fun h=>⟨h.pr,h.rp,fun p hp i hi=>?_,fun i hi=>?_,h.ro⟩⟩
 ·have hp':p<x.pn:=hp
  have hi':i<x.hL p:=hi;have:=c p (by omega) i hi';simp only [belB,decide_eq_true_eq] at this;show (x.hH p i).q<(x.pn:Int);omega
 ·have hp':p<x.pn:=hp
  have hq':q<x.pn:=hq
  have hlt:p*x.pn+q<x.wn:=by
   rw [c7];have:(p+1)*x.pn<=x.pn*x.pn:=Nat.mul_le_mul_right _ (by omega);rw [Nat.add_mul] at this;omega
  have h1:(p*x.pn+q) / x.pn=p:=by
   rw [Nat.add_comm,Nat.add_mul_div_right _ _ (by omega),Nat.div_eq_of_lt hq'];omega
  have h2:(p*x.pn+q) % x.pn=q:=by
   rw [Nat.add_comm,Nat.add_mul_mod_self_right,Nat.mod_eq_of_lt hq']
  obtain ⟨ok,eq⟩:=d _ hlt;rw [h1,h2] at eq;simp only [Bool.and_eq_true,decide_eq_true_eq] at ok;exact ⟨qef.1 ok.2,ok.1,eq⟩
 ·have h1:=h.pe p (show p<x.pn by omega) i hi
  have h2:=qqp (qcp (h.rp p (show p<x.pn by omega))).2.2 i hi;have h3:(x.hH p i).q<(x.pn:Int):=h1;have h4:0<=(x.hH p i).q:=h2;simp only [belB,decide_eq_true_eq];omega
 ·have hlt:i<x.pn*x.pn:=by rw [<- c7];exact hi
  have ha:i / x.pn<x.pn:=Nat.div_lt_of_lt_mul hlt;have hb:i % x.pn<x.pn:=Nat.mod_lt _ (by omega);have e:i / x.pn*x.pn+i % x.pn=i:=by rw [Nat.mul_comm];exact Nat.div_add_mod i x.pn
  have h1:WayP (x.wH (i / x.pn*x.pn+i % x.pn)) (x.wL (i / x.pn*x.pn+i % x.pn)) (valL (x.hH (i % x.pn)) 3 ((i / x.pn:Nat):Int) (x.hL (i % x.pn))) (valL (x.hH (i / x.pn)) 2 ((i % x.pn:Nat):Int) (x.hL (i / x.pn))):=h.wa _ ha _ hb;rw [e] at h1;refine ⟨?_,h1.eq⟩;simp only [Bool.and_eq_true,decide_eq_true_eq];exact ⟨h1.le,qef.2 h1.it⟩
theorem SysG.his {w:World} {x:SysIn} (h:SysG w x) (hn:x.hn=x.pn):HisE w x.ha x.hA x.hC x.y.hs:=by
 refine ⟨?_,fun i hi=>h.hi i (by rw [hn];exact hi)⟩;show RowS w x.ha x.pn fun i=>.slice (x.hA i) (x.hL i) (x.hC i);rw [<- hn];exact h.h
theorem SysB.of_range {w:World} {X:Nat} {x:SysIn} (h:w.rangeAt X 0 (sysL x.pa x.pn x.pc x.sa x.sn x.sc x.wa x.wn x.wc x.ha x.hn x.hc)):SysB w X x:=
 ⟨h 0 _ rfl,h 1 _ rfl,h 2 _ rfl,h 3 _ rfl,h 4 _ rfl⟩
theorem HisP.of_range {w:World} {X:Nat} {x:SysIn} (h:w.rangeAt X 0 (sysL x.pa x.pn x.pc x.sa x.sn x.sc x.wa x.wn x.wc x.ha x.hn x.hc)) (hn:x.hn=x.pn) (hf:∀ j,w.frozen? ⟨X,j,none⟩=false):HisP w X x.ha x.hc x.y.hs (fun _=>0):=by
 have hz:∀ j,j<20->w.cell? ⟨X,5+j,none⟩=some (.int .i64 0):=fun j hj=>by
  have h1:(sysL x.pa x.pn x.pc x.sa x.sn x.sc x.wa x.wn x.wc x.ha x.hn x.hc)[5+j]? = some (.int .i64 0):=by
   match j,hj with
   | 0,_=>rfl
   | 1,_=>rfl
   | 2,_=>rfl
   | 3,_=>rfl
   | 4,_=>rfl
   | 5,_=>rfl
   | 6,_=>rfl
   | 7,_=>rfl
   | 8,_=>rfl
   | 9,_=>rfl
   | 10,_=>rfl
   | 11,_=>rfl
   | 12,_=>rfl
   | 13,_=>rfl
   | 14,_=>rfl
   | 15,_=>rfl
   | 16,_=>rfl
   | 17,_=>rfl
   | 18,_=>rfl
   | 19,_=>rfl
   | n+20,h=>exact absurd h (by omega)
  have:=h (5+j) _ h1
  rwa [Nat.zero_add] at this
 refine ⟨?_,fun i hi=>hz i (by omega),fun a b ha hb=>?_,hf⟩
 ·have:=h 4 _ rfl
  show w.cell? ⟨X,4,none⟩=some (.slice x.ha x.pn x.hc);rw [<- hn];exact this
 ·rw [Hs.opn_start,show 9+a*4+b=5+(4+a*4+b) by omega]
  exact hz _ (by omega)
theorem qk5 (x:SysIn) (w:World) (hG:SysG w x) (hL:x.Len) (hV:w.cell? ⟨0,0,none⟩=some (.iface 300 (.agg #[.pointer (some ⟨1,269,none⟩)]))):
  Calls Tryz.prog 64 #[x.v] w fun e w'=>e=.returned (.bool x.y.okB)/\Below w.heap.size w w':=by
 have HG:Hid (SysG w x):=hG;have HL:Hid x.Len:=hL;have HV:Hid (w.cell? ⟨0,0,none⟩=some (.iface 300 (.agg #[.pointer (some ⟨1,269,none⟩)]))):=hV;have HV0:Hid (0<w.heap.size):=zJ w _ hV;have bA:=zS w (oQ4 x.pa x.pn x.pc x.sa x.sn x.sc x.wa x.wn x.wc x.ha x.hn x.hc);have BA:Hid (Below w.heap.size w (w.alloc (oQ4 x.pa x.pn x.pc x.sa x.sn x.sc x.wa x.wn x.wc x.ha x.hn x.hc))):=bA;clear hG hL hV bA;by_cases hc:(1<=x.pn/\x.pn<=4)/\x.sn=x.pn/\x.hn=x.pn/\x.wn=x.pn*x.pn
 case neg=>
  have HN:Hid (x.y.okB=false):=Sy.okB_false fun h=>hc h.cn;have HC:Hid (¬ ((1<=x.pn/\x.pn<=4)/\x.sn=x.pn/\x.hn=x.pn/\x.wn=x.pn*x.pn)):=hc;clear hc
  go_enter Tryz.func64,Tryz.ntmps64
  go_wp2_with fail
  generalize w.alloc (oQ4 x.pa x.pn x.pc x.sa x.sn x.sc x.wa x.wn x.wc x.ha x.hn x.hc)=wa at *;refine (qqt _ _ _ _ _ _ _ _ _ _ _ _ wa HC.out).mono ?_;rintro e w1 ⟨rfl,b1⟩;have B1:Hid (Below w.heap.size w w1):=BA.out.trans (b1.mono BA.out.size);have hl:=qhy none 0 0 none 0 0 none 0 0 none 0 0;have ho:=qhz none 0 0 none 0 0 none 0 0 none 0 0;generalize sysL none 0 0 none 0 0 none 0 0 none 0 0=cs at *;have hs:cs.toArray.size=25:=by simpa using hl
  have HI:Hid ((Tryz.prog.info? 178).map (·.size)=some cs.toArray.size):=by rw [hs];exact qed
  have HO:Hid (cs.toArray.all (·.oneCell')=true):=all_oneCell_toArray ho;have HT:Hid ((w1.alloc (zQ6)).there w1.heap.size 0 cs.toArray.size):=qf5 _ _ _ _ _ (by rw [hs];rfl) rfl;have BE:Hid (Below w.heap.size w ((w1.alloc (zQ6)).setCells w1.heap.size 0 cs)):=B1.out.trans ((qaa.sets (P:=fun b=>b=w1.heap.size) rfl _ _ (qaa.of_below (zS _ _))).below B1.out.size fun b e=>by have:=B1.out.size;omega);clear b1 hl ho hs B1;go_upto_region 2 with (refine wpList_store_mid rfl 178 (.tmp 3) (.tmp 8) rfl w1.heap.size 0 cs.toArray rfl rfl HT.out HI.out HO.out ?_)
  clear HT HI HO;generalize (w1.alloc (zQ6)).setCells w1.heap.size 0 cs=w2 at *;go_wp2;go_ret;rw [HN.out];exact ⟨rfl,BE.out⟩
 have HC:Hid ((1<=x.pn/\x.pn<=4)/\x.sn=x.pn/\x.hn=x.pn/\x.wn=x.pn*x.pn):=hc;have HIf:=qy7 hc;have HIF:Hid (((∀ p,p<x.pn->qac (x.pH p) (x.pL p) x.pn=true)/\(∀ p,p<x.pn->x.StP p)/\(∀ p,p<x.hn->∀ i,i<x.hL p->belB (x.hH p i).q x.hn=true)/\(∀ i,i<x.wn->x.WyP i)/\x.y.hs.Row) ↔ x.y.Ok):=HIf;clear hc HIf
 go_enter Tryz.func64,Tryz.ntmps64
 go_wp2_with fail
 generalize w.alloc (oQ4 x.pa x.pn x.pc x.sa x.sn x.sc x.wa x.wn x.wc x.ha x.hn x.hc)=wa at *;refine (qqu _ _ _ _ _ _ _ _ _ _ _ _ wa HC.out).mono ?_;rintro e w1 ⟨rfl,b1⟩;have B1:Hid (Below w.heap.size w w1):=BA.out.trans (b1.mono BA.out.size);have hl:=qhy x.pa x.pn x.pc x.sa x.sn x.sc x.wa x.wn x.wc x.ha x.hn x.hc;have ho:=qhz x.pa x.pn x.pc x.sa x.sn x.sc x.wa x.wn x.wc x.ha x.hn x.hc;generalize hcs:sysL x.pa x.pn x.pc x.sa x.sn x.sc x.wa x.wn x.wc x.ha x.hn x.hc=cs at *;have hs:cs.toArray.size=25:=by simpa using hl
 have HI:Hid ((Tryz.prog.info? 178).map (·.size)=some cs.toArray.size):=by rw [hs];exact qed
 have HO:Hid (cs.toArray.all (·.oneCell')=true):=all_oneCell_toArray ho;have HT:Hid ((w1.alloc (zQ6)).there w1.heap.size 0 cs.toArray.size):=qf5 _ _ _ _ _ (by rw [hs];rfl) rfl;have BE:Hid (Below w.heap.size w ((w1.alloc (zQ6)).setCells w1.heap.size 0 cs)/\w.heap.size<=w1.heap.size):=⟨B1.out.trans ((qaa.sets (P:=fun b=>b=w1.heap.size) rfl _ _ (qaa.of_below (zS _ _))).below B1.out.size fun b e=>by have:=B1.out.size;omega),B1.out.size⟩
 have HR:(((w1.alloc (zQ6)).setCells w1.heap.size 0 cs).rangeAt w1.heap.size 0 cs):=World.rangeAt_setCells_same _ _ _ _ (by simpa using HT.out)
 have HF:∀ j,((w1.alloc (zQ6)).setCells w1.heap.size 0 cs).frozen? ⟨w1.heap.size,j,none⟩=false:=fun j=>by
  rw [World.frozen?_setCells];exact yA _ _ _ _ rfl
 rw [<- hcs] at HR HF
 have SB2:Hid (SysB ((w1.alloc (zQ6)).setCells w1.heap.size 0 cs) w1.heap.size x/\HisP ((w1.alloc (zQ6)).setCells w1.heap.size 0 cs) w1.heap.size x.ha x.hc x.y.hs (fun _=>0)):=by
  rw [<- hcs];exact ⟨SysB.of_range HR,HisP.of_range HR HC.2.2.1 HF⟩
 clear b1 hl ho hs B1 hcs HR HF;go_upto_region 2 with (refine wpList_store_mid rfl 178 (.tmp 3) (.tmp 8) rfl w1.heap.size 0 cs.toArray rfl rfl HT.out HI.out HO.out ?_)
 clear HT HI HO;generalize (w1.alloc (zQ6)).setCells w1.heap.size 0 cs=w2 at *;generalize w1.heap.size=X at *;go_wp2_with fail
 refine (qqm X x w2 SB2.1 (HG.out.below BE.1) HL.out).mono ?_;rintro e w3 ⟨rfl,b3⟩;have B3:Hid (Below w.heap.size w w3):=BE.1.trans (b3.mono BE.1.size);have SB3:Hid (SysB w3 X x/\HisP w3 X x.ha x.hc x.y.hs (fun _=>0)):=⟨SB2.1.below b3,SB2.2.below b3⟩
 clear b3 SB2;by_cases q1:∀ p,p<x.pn->qac (x.pH p) (x.pL p) x.pn=true
 case neg=>
  have HN:Hid (x.y.okB=false):=Sy.okB_false fun h=>q1 (HIF.2 h).1;rw [qa4 q1];clear q1;go_wp2;go_ret;rw [HN.out];exact ⟨rfl,B3.out⟩
 have Q1:Hid (∀ p,p<x.pn->qac (x.pH p) (x.pL p) x.pn=true):=q1;rw [qbs q1];clear q1;go_wp2_with fail
 refine (qoj X x w3 SB3.1 (HG.out.below B3.out) HL.out HC.2.1 HC.2.2.1 ((B3.out.cell (p:=⟨0,0,none⟩) HV0.out).trans HV.out)).mono ?_;rintro e w4 ⟨rfl,b4⟩;have B4:Hid (Below w.heap.size w w4):=B3.out.trans (b4.mono B3.out.size);have SB4:Hid (SysB w4 X x/\HisP w4 X x.ha x.hc x.y.hs (fun _=>0)):=⟨SB3.1.below b4,SB3.2.below b4⟩
 clear b4 SB3;by_cases q2:∀ p,p<x.pn->x.StP p
 case neg=>
  have HN:Hid (x.y.okB=false):=Sy.okB_false fun h=>q2 (HIF.2 h).2.1;rw [qa4 q2];clear q2;go_wp2;go_ret;rw [HN.out];exact ⟨rfl,B4.out⟩
 have Q2:Hid (∀ p,p<x.pn->x.StP p):=q2;have H2:Hid (∀ p,p<x.hn->x.hL p<=200):=fun p hp=>(qcp (Q2.out p (by have:=HC.out;omega))).2.1;rw [qbs q2];clear q2;go_wp2_with fail
 refine (qqj X x w4 SB4.1 (HG.out.below B4.out) HL.out).mono ?_;rintro e w5 ⟨rfl,b5⟩;have B5:Hid (Below w.heap.size w w5):=B4.out.trans (b5.mono B4.out.size);have SB5:Hid (SysB w5 X x/\HisP w5 X x.ha x.hc x.y.hs (fun _=>0)):=⟨SB4.1.below b5,SB4.2.below b5⟩
 clear b5 SB4;by_cases q3:∀ p,p<x.hn->∀ i,i<x.hL p->belB (x.hH p i).q x.hn=true
 case neg=>
  have HN:Hid (x.y.okB=false):=Sy.okB_false fun h=>q3 (HIF.2 h).2.2.1;rw [qa4 q3];clear q3;go_wp2;go_ret;rw [HN.out];exact ⟨rfl,B5.out⟩
 have Q3:Hid (∀ p,p<x.hn->∀ i,i<x.hL p->belB (x.hH p i).q x.hn=true):=q3;rw [qbs q3];clear q3;go_wp2_with fail
 refine (qt4 X x w5 SB5.1 (HG.out.below B5.out) HL.out HC.2.2.1 HC.2.2.2 HC.1.1 HC.1.2 H2.out).mono ?_;rintro e w6 ⟨rfl,b6⟩;have B6:Hid (Below w.heap.size w w6):=B5.out.trans (b6.mono B5.out.size);have SB6:Hid (SysB w6 X x/\HisP w6 X x.ha x.hc x.y.hs (fun _=>0)):=⟨SB5.1.below b6,SB5.2.below b6⟩
 clear b6 SB5;by_cases q4:∀ i,i<x.wn->x.WyP i
 case neg=>
  have HN:Hid (x.y.okB=false):=Sy.okB_false fun h=>q4 (HIF.2 h).2.2.2.1;rw [qa4 q4];clear q4;go_wp2;go_ret;rw [HN.out];exact ⟨rfl,B6.out⟩
 have Q4:Hid (∀ i,i<x.wn->x.WyP i):=q4;rw [qbs q4];clear q4
 have HP:Hid x.y.hs.Peers:=fun p hp i hi=>by
  have h1:=Q3.out p (by have:=HC.out;have:p<x.pn:=hp;omega) i hi;simp only [belB,decide_eq_true_eq] at h1;rw [HC.2.2.1] at h1;exact h1
 go_wp2_with fail
 refine (qse X x.ha x.hc x.hA x.hC x.y.hs w w6 (HG.out.his HC.2.2.1) B6.out BE.2 SB6.2 HC.1.2 HP.out (fun i hi=>H2.out i (by have:=HC.out;have:i<x.pn:=hi;omega))).mono ?_;rintro e w7 ⟨rfl,b7⟩;have B7:Hid (Below w.heap.size w w7):=b7
 have HN:Hid (qB x.y.hs.Row=x.y.okB):=by
  show qB x.y.hs.Row=x.y.okB;by_cases hr:x.y.hs.Row
  ·rw [qbs hr,Sy.okB_true (HIF.1 ⟨Q1.out,Q2.out,Q3.out,Q4.out,hr⟩)]
  ·rw [qa4 hr,Sy.okB_false fun h=>hr (HIF.2 h).2.2.2.2]
 rw [HN.out];clear b7 HN;go_wp2;go_ret;exact ⟨rfl,B7.out⟩
