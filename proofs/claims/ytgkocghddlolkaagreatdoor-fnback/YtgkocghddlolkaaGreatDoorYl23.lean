import Derived.Test.YtgkocghddlolkaaGreatDoorYl21
import Derived.Test.YtgkocghddlolkaaGreatDoorYl22
namespace Go.Proofs.YtgkocghddlolkaaGreatDoor
open Go.Proofs.Tryz
set_option maxRecDepth 100000
set_option maxHeartbeats 8000000
open Go.ChangeShapes Go.WideShapes Go.ChangeAt Go.RowKit Go.Deep
noncomputable def nwN (n:Nat) (L:Nat->Nat) (H:Nat->Nat->I5):Nat:=if snB n L H=true then n else 0
def NwR (w:World) (n:Nat) (L:Nat->Nat) (H:Nat->Nat->I5) (e:Ending) (w':World):Prop:=∃ pa pc sa sc wa wc ha hc,e=.returned (.tuple #[sysV pa (nwN n L H) pc sa (nwN n L H) sc wa (nwN n L H*nwN n L H) wc ha (nwN n L H) hc,.bool (snB n L H)])/\Own1 w' w.heap.size w'.heap.size (nwN n L H) L H (.slice pa (nwN n L H) pc) (.slice sa (nwN n L H) sc) (.slice wa (nwN n L H*nwN n L H) wc) (.slice ha (nwN n L H) hc)/\Bw w w'
theorem NwR.yes {w w':World} {n:Nat} {L:Nat->Nat} {H:Nat->Nat->I5} {pa sa wa ha:Option Addr} {pc sc wc hc:Nat} (h:snB n L H=true) (o:Own1 w' w.heap.size w'.heap.size n L H (.slice pa n pc) (.slice sa n sc) (.slice wa (n*n) wc) (.slice ha n hc)) (b:Bw w w'):NwR w n L H (.returned (.tuple #[sysV pa n pc sa n sc wa (n*n) wc ha n hc,.bool true])) w':=by
 have e:nwN n L H=n:=if_pos h;refine ⟨pa,pc,sa,sc,wa,wc,ha,hc,?_,?_,b⟩
 ·rw [e,h]
 ·rw [e]
  exact o
theorem NwR.no {w w':World} {n:Nat} {L:Nat->Nat} {H:Nat->Nat->I5} (h:snB n L H=false) (b:Bw w w'):NwR w n L H (.returned (.tuple #[sysV none 0 0 none 0 0 none 0 0 none 0 0,.bool false])) w':=by
 have e:nwN n L H=0:=if_neg (by rw [h];decide);refine ⟨none,0,none,0,none,0,none,0,?_,?_,b⟩
 ·rw [e,h]
 ·rw [e]
  exact Own1.zero _ _ _ _ _
theorem qil (pa:Option Addr) (n pc:Nat) (A:Nat->Option Addr) (L C:Nat->Nat) (H:Nat->Nat->I5) (w:World) (hn:n<=1048576) (hL:∀ i,i<n->L i<=1048576) (hr:RowS w pa n fun i=>.slice (A i) (L i) (C i)) (hI:∀ i,i<n->Src w (A i) (fI (H i) (L i))):
  Calls prog 138 #[.slice pa n pc] w (NwR w n L H):=by
 have hn':(n:Int)<=1048576:=by omega
 have HP:Hid (∀ wx,Bw w wx->Calls prog 56 #[.slice pa n pc] wx fun e w'=>∃ v u,e=.returned v/\LI true w' (fun k=>wx.heap.size<=k/\k<w'.heap.size) v n u L H/\Bw wx w'):=fun wx hb=>qfz pa n pc A L C H wx hn hL (hr.below hb) fun i hi=>(hI i hi).below hb;have HL:Hid (∀ i,i<n->L i<=1048576):=hL;have BW:Hid (Bw w (w.alloc (zQ3))):=zQ _ _;have RB:Hid (BoxC (w.alloc (zQ3)) w.heap.size nS nS nS nS/\∀ j,(w.alloc (zQ3)).frozen? ⟨w.heap.size,j,none⟩=false):=⟨BoxC.new w _ _ _ _ _,fun j=>yD _ _ _ _ rfl⟩
 have hM:w.heap.size<=w.heap.size:=Nat.le_refl _;clear hL hr hI;by_cases h4:n<=4
 case neg=>
  have h4':(4:Int)<(n:Int):=by omega
  have HV:Hid (snB n L H=false):=by
   show snB n L H=false;rw [snB,decide_eq_false h4];rfl
  go_enter func138,ntmps138
  go_upto_region 1 with fail
  generalize w.alloc (zQ3)=W1 at *;obtain ⟨⟨r0,r1,r2,r3⟩,rf⟩:=RB.out;go_wp2;exact bodyPost_ret (v:=.tuple #[sysV none 0 0 none 0 0 none 0 0 none 0 0,.bool false]) (by simp [results,results138,go_sem,r0,r1,r2,r3]) rfl (NwR.no HV.out ((((BW.setCell hM _).setCell hM _).setCell hM _).setCell hM _))
 have h4':¬ (4:Int)<(n:Int):=by omega
 obtain ⟨NN,hNN⟩:∃ NN,NN=n*n:=⟨_,rfl⟩
 have HNN:Hid (NN=n*n):=hNN;have hm0:(n:Int)*(n:Int)=(NN:Int):=by rw [hNN];simp
 have h16:NN<=16:=by rw [hNN];exact zP (Nat.mul_le_mul h4 h4) (by omega)
 have h16':(NN:Int)<=16:=by omega
 have hn4:(n:Int)<=4:=by omega
 clear hNN
 go_enter func138,ntmps138
 go_upto_region 4 with fail
 have z1:w.heap.size<(w.alloc (zQ3)).heap.size:=by simp
 generalize w.alloc (zQ3)=W1 at *;have F0:Hid (NwF W1 n L H false false false false undef undef undef undef W1.drew):=⟨(Below.refl _ _).drew,fun _=>0,(fun e=>by cases e),(fun e=>by cases e),(fun e=>by cases e),(fun e=>by cases e)⟩
 refine qah (fun _=>True) (fun _=>false) (by kernel_rfl) ?_;refine qax [0,2,3] ?_;iterate 3 (refine qa8 rfl trivial ?_)
 refine qaq ?_;refine qcv 4 rfl trivial ⟨.int .i64 (NN:Int),fun wq _=>?_,?_⟩
 ·go_simp
  rw [IntKind.wrap_i64];omega
 refine qbk 6 rfl trivial ?_;refine qo2 6 #[true,false,true,true,true,false,true,false,false,false,false] (by kernel_rfl) (by kernel_rfl) ?_;refine quy (fun a b c d e=>#[true,a,true,true,true,b,true,c,e,d,false]) 1 5 7 9 8 (fun a b c d x wq=>∃ v1 v2 v3 v4,x=⟨#[.slice pa n pc,undef,.pointer (some (aQ w.heap.size 0)),.bool false,.int .i64 n,v4,undef,.slice pa n pc,.int .i64 n,.int .i64 n,.bool false,undef,.slice pa n pc,v1,.int .i64 n,.int .i64 n,.int .i64 NN,v2,.int .i64 n,v3,undef,undef,undef,undef,undef,undef,undef,undef,undef,undef,undef,undef,undef,undef,undef,undef,undef],[]⟩/\NwF W1 n L H a b c d v1 v2 v3 v4 wq) (fun d x wq=>∃ a1 c1 a2 c2 a3 c3 v4,x=⟨#[.slice pa n pc,undef,.pointer (some (aQ w.heap.size 0)),.bool false,.int .i64 n,v4,undef,.slice pa n pc,.int .i64 n,.int .i64 n,.bool false,undef,.slice pa n pc,.slice a1 n c1,.int .i64 n,.int .i64 n,.int .i64 NN,.slice a2 (n*n) c2,.int .i64 n,.slice a3 n c3,.agg #[.slice a1 n c1,nS,.slice a2 (n*n) c2,.slice a3 n c3],undef,undef,undef,undef,undef,undef,undef,undef,undef,undef,undef,undef,undef,undef,undef,undef],[]⟩/\NwF W1 n L H true true true d (.slice a1 n c1) (.slice a2 (n*n) c2) (.slice a3 n c3) v4 wq) (f0:=1) ?_ (fun _ _ _=>rfl) (fun _ _ _=>rfl) (fun _ _ _=>rfl) (fun _ _ _ _=>rfl) (fun _=>rfl) rfl (by kernel_rfl) (fun d=>by cases d <;> kernel_rfl) (fun d=>by cases d <;> kernel_rfl) (by kernel_rfl) (fun _ _ _ _ h=>h) ?_ ?_ ?_ ?_ ?_ ?_ ?_ 4 false false false false _ _ rfl ⟨_,_,_,_,rfl,F0.out⟩
 ·intro a b c d h
  cases a <;> cases b <;> cases c <;> cases d <;> first | exact absurd h (by decide) | kernel_rfl
 ·rintro b c d x wq ⟨v1,v2,v3,v4,rfl,F⟩
  refine wpOp_step rfl fun K hK=>?_;refine qaf rfl 56 _ _ rfl #[.slice pa n pc] (by simp [Act.eval]) (yB func56 (by kernel_rfl) rfl) (HP.out wq (BW.trans (F.be.mono BW.size))) ?_;rintro e w5 ⟨v5,u5,rfl,o5,d5⟩;exact ⟨_,rfl,hK _ _ ⟨fun _ _=>trivial,v5,v2,v3,v4,rfl,F.one o5 d5⟩⟩
 ·rintro a c d x wq ⟨v1,v2,v3,v4,rfl,F⟩
  have hmk:=qd3 qmv qrv NN (by omega) wq;refine wpOp_step rfl fun K hK=>?_;go_simp;refine hK _ _ ⟨fun _ _=>trivial,v1,.slice (some (aQ wq.heap.size 0)) NN NN,v3,v4,rfl,?_⟩;rw [HNN.out];exact F.two (by rw [<- HNN.out];omega)
 ·rintro a b d x wq ⟨v1,v2,v3,v4,rfl,F⟩
  have hmk:=qd3 qjm qtu n (by omega) wq;refine wpOp_step rfl fun K hK=>?_;go_simp;exact hK _ _ ⟨fun _ _=>trivial,v1,v2,.slice (some (aQ wq.heap.size 0)) n n,v4,rfl,F.three (by omega)⟩
 ·rintro a b c x wq ⟨v1,v2,v3,v4,rfl,F⟩
  refine wpOp_step rfl fun K hK=>?_;go_simp;exact hK _ _ ⟨fun _ _=>trivial,v1,v2,v3,.pointer (some (aQ wq.heap.size 0)),rfl,F.four⟩
 ·rintro d x wq ⟨v1,v2,v3,v4,rfl,F⟩
  obtain ⟨k,h1,h2,h3,-⟩:=F.ow;obtain ⟨u,o1⟩:=h1 rfl;obtain ⟨a1,c1,rfl⟩:=zU o1.row;obtain ⟨a2,c2,rfl⟩:=zU (h2 rfl).row;obtain ⟨a3,c3,rfl⟩:=zU (h3 rfl).row;refine ⟨rfl,.agg #[.slice a1 n c1,nS,.slice a2 (n*n) c2,.slice a3 n c3],fun wz=>?_,a1,c1,a2,c2,a3,c3,v4,rfl,F⟩;go_simp
 ·rintro x wq ⟨a1,c1,a2,c2,a3,c3,v4,rfl,F⟩
  refine wpOp_step rfl fun K hK=>?_;go_simp;exact hK _ _ ⟨fun _ _=>trivial,a1,c1,a2,c2,a3,c3,.pointer (some (aQ wq.heap.size 0)),rfl,F.four⟩
 rintro x w4 ⟨a1,c1,a2,c2,a3,c3,v4,rfl,F⟩;clear F0;obtain ⟨N,c,up,us,rfl,nl,⟨g0,g1,g2,g3⟩,gf,ns⟩:=NwS.start F rfl (.inr trivial);refine qab 10 rfl (by kernel_rfl) (fun K hK=>?_);go_simp;refine hK.out _ _ (fun _=>trivial) ?_;clear hK K
 (try simp only [zD,zE,zF])
 refine qan (by kernel_rfl) ?_ _;have NS0:Hid (NwS W1 N n L H true 0 ((((w4.setCell (aQ N 0) (.slice a1 n c1)).setCell (aQ N 1) nS).setCell (aQ N 2) (.slice a2 (n*n) c2)).setCell (aQ N 3) (.slice a3 n c3)) (.slice a1 n c1) nS (.slice a2 (n*n) c2) (.slice a3 n c3) c up us):=ns;clear ns g0 g1 g2 g3 gf nl F;go_upto_region 5 with fail
 generalize ((((w4.setCell (aQ N 0) (.slice a1 n c1)).setCell (aQ N 1) nS).setCell (aQ N 2) (.slice a2 (n*n) c2)).setCell (aQ N 3) (.slice a3 n c3))=W5 at *;go_wp2_with fail
 go_loopw [6] (fun i wr=>∃ k:Nat,k<=n/\i=.int .i64 k/\Hid (∃ vs c up us,NwS W1 N n L H true k wr (.slice a1 n c1) vs (.slice a2 (n*n) c2) (.slice a3 n c3) c up us)) (fun i _=>n - (intOf i).toNat)
 case atStart=>exact ⟨0,Nat.zero_le _,rfl,_,_,_,_,NS0.out⟩
 case round=>
  clear NS0 c up us;obtain ⟨k,hk,rfl,HK⟩:=hrel;obtain ⟨vs,c,up,us,ns⟩:=HK.out;have NS:Hid (NwS W1 N n L H true k wr (.slice a1 n c1) vs (.slice a2 (n*n) c2) (.slice a3 n c3) c up us):=ns;clear ns HK;by_cases hlt:k<n
  ·have hlt':(k:Int)<(n:Int):=by omega
   go_wp2_with fail
   obtain ⟨x0,x1,x2,x3⟩:=NS.bx;have xf:=NS.fr;obtain ⟨sa,sc,rfl⟩:=zU NS.s.row;have nl:=NS.lt;refine qah (fun w'=>w'.cell? (aQ N 1)=some (.slice sa k sc)) (fun i=>i == 6) (by kernel_rfl) ?_;have hHeld:(fun w':World=>w'.cell? (aQ N 1)=some (.slice sa k sc)) wr.drew:=x1;refine qbk 0 rfl hHeld ?_;refine qbk 1 rfl hHeld ?_;refine qab 2 rfl (by kernel_rfl) (fun K hK=>?_);refine qaf rfl 113 _ _ rfl #[] (by simp) (yB func113 (by kernel_rfl) rfl) (qd8 wr.drew) ?_;rintro e w5 ⟨u5,rfl,o5,d5⟩;refine ⟨_,rfl,?_⟩;obtain ⟨ra5,rc5,oa5,oc5,rfl,-,-⟩:=o5.read;have q5:Bw wr w5:=(Below.refl wr.heap.size wr).drew.trans d5;have hc5:=(qag q5).1;refine hK.out _ _ (fun _=>(hc5 _ _ nl).trans x1) ?_;clear hK K
   (try simp only [Act.put,zD,zE,zF])
   refine qab 3 rfl (by kernel_rfl) (fun K hK=>?_);go_simp;have ba:=zQ w5 (oQ1 0 ra5 4 rc5 oa5 0 oc5 0);refine hK.out _ _ (fun _=>((ba.cell (p:=(aQ N 1)) (zL nl q5.size)).trans ((hc5 _ _ nl).trans x1))) ?_;clear ba;clear hK K
   (try simp only [Act.put,zD,zE,zF])
   refine qab 4 rfl (by kernel_rfl) (fun K hK=>?_);refine qa5 kndS w5 rfl rfl _ _ rfl 0 (.slice sa k sc) k _ rfl (NS.s.below q5).row #[.int .i64 0,.slice ra5 4 rc5,.slice oa5 0 oc5,.int .i64 0] rfl rfl (by intro u hu;simp at hu;rcases hu with rfl | rfl | rfl | rfl <;> rfl) (by omega) (Nat.zero_le _) ?_;intro v6 w6 o6 g6 q6 n6;obtain ⟨a6,c6,rfl⟩:=zU o6
   have gN : w6.heap[N]? = wr.heap[N]? := (g6.block N (Nat.lt_of_lt_of_le nl q5.size) fun e => by
    have:=(NS.s.rb N e.symm).2;rw [NS.cN] at this
    cases this).trans (q5.block N nl)
   have y1:=(zH gN).trans x1;have yf:∀ j,w6.frozen? ⟨N,j,none⟩=false:=fun j=>(zI gN).trans (xf j);have NS6:Hid (NwS W1 N n L H true (k+1) (w6.setCell (aQ N 1) (.slice a6 (k+1) c6)) (.slice a1 n c1) (.slice a6 (k+1) c6) (.slice a2 (n*n) c2) (.slice a3 n c3) (rcol c wr.heap.size 2) up (fun j=>if j=k then stV 0 ra5 4 rc5 oa5 0 oc5 0 else us j)):=NS.push q5 (o5.mono (by simp)) o6 g6 q6;refine hK.out _ _ (fun _=>y1) ?_;clear hHeld;have hHeld:(fun w':World=>w'.cell? (aQ N 1)=some (.slice sa k sc)) w6:=y1;clear o6 g6 q6 n6 gN;clear hK K;refine qbk 5 rfl hHeld ?_;refine qab 6 rfl (by kernel_rfl) (fun K hK=>?_);have y2:=yf 1;go_simp;refine hK.out _ _ (fun h=>?_) ?_
   ·exact absurd h (by decide)
   clear hK K
   (try simp only [Act.put,zD,zE,zF])
   refine qan (by kernel_rfl) ?_ _;clear x0 x1 x2 x3 xf y1 y2 yf hHeld o5 d5 q5 hc5;go_wp2;go_roundw
   case rel=>exact ⟨k+1,by omega,by go_num,_,_,_,_,NS6.out⟩
   case measure=>simp [intOf];omega
  ·have hkn:k=n:=by omega
   have NS':=NS.out;rw [hkn] at NS';obtain ⟨sa,sc,rfl⟩:=zU NS'.s.row;have NE:Hid (NwS W1 N n L H true n wr (.slice a1 n c1) (.slice sa n sc) (.slice a2 (n*n) c2) (.slice a3 n c3) c up us):=NS';clear NS NS' hkn
   have HG:Hid (∀ wx,Bw wr wx->Calls prog 18 #[sysV a1 n c1 sa n sc a2 (n*n) c2 a3 n c3] wx (rB wx (.bool (nwY n L H).okB))):=fun wx hb=>by
    have h:=NE.below hb;have hp:=h.p rfl
    exact qcu (nwX a1 n c1 (fun i => adOf (up i)) L (fun i => cpOf (up i)) H (.slice sa n sc) (.slice a2 (n * n) c2) (.slice a3 n c3) us) wx (h.g (qfi hp) fun i hi => by
     obtain ⟨b,cap,eu,hb',hI,-⟩:=atI (hp.own i hi) (hp.nn nzI i hi)
     exact ⟨b,by rw [eu];rfl,hb',hI⟩) (qv0 h4 HL.out) (fun i _=>Nat.le_refl _)
   obtain ⟨x0,x1,x2,x3⟩:=NE.bx;go_wp2_with fail
   refine (HG.out wr (Below.refl _ _)).mono ?_;rintro e w6 ⟨rfl,q6⟩;have NF:Hid (NwS W1 N n L H true n w6 (.slice a1 n c1) (.slice sa n sc) (.slice a2 (n*n) c2) (.slice a3 n c3) c up us):=NE.below q6;have hbe:=NF.be;have R6:Hid (BoxC w6 w.heap.size nS nS nS nS/\∀ j,w6.frozen? ⟨w.heap.size,j,none⟩=false):=⟨RB.1.below hbe,fun j=>((qag hbe).2 _ j z1).trans (RB.2 j)⟩
   have B6:Hid (Bw w w6):=BW.trans (hbe.mono BW.size);clear q6 NE HG x0 x1 x2 x3 hbe;obtain ⟨⟨r0,r1,r2,r3⟩,rf⟩:=R6.out
   rcases zK (nwY n L H).okB with t | t
   case inr=>
    have HV:Hid (snB n L H=false):=by
     show snB n L H=false;rw [snB,t,Bool.and_false]
    rw [t];clear t;go_wp2;exact bodyPost_ret (v:=.tuple #[sysV none 0 0 none 0 0 none 0 0 none 0 0,.bool false]) (by simp [results,results138,go_sem,r0,r1,r2,r3]) rfl (NwR.no HV.out ((((B6.setCell hM _).setCell hM _).setCell hM _).setCell hM _))
   have HV:Hid (snB n L H=true):=by
    show snB n L H=true;rw [snB,t,decide_eq_true h4];rfl
   rw [t];clear t;obtain ⟨x0,x1,x2,x3⟩:=NF.bx;go_wp2;exact bodyPost_ret (v:=.tuple #[sysV a1 n c1 sa n sc a2 (n*n) c2 a3 n c3,.bool true]) (by simp [results,results138,go_sem,r0,r1,r2,r3]) rfl (NwR.yes HV.out (((NF.own1 rfl).out4 z1 _ _ _ _).base (Nat.le_of_lt z1) (by simp)) ((((B6.setCell hM _).setCell hM _).setCell hM _).setCell hM _))
theorem Own1.g {w:World} {B T n pc:Nat} {L:Nat->Nat} {H:Nat->Nat->I5} {pa:Option Addr} {vs vw vh:Value} (o:Own1 w B T n L H (.slice pa n pc) vs vw vh):∃ A C us,SysG w (nwX pa n pc A L C H vs vw vh us):=by
 obtain ⟨c,up,us,o,-⟩:=o;refine ⟨fun i=>adOf (up i),fun i=>cpOf (up i),us,qvz o.s o.t o.h (qfi o.p) fun i hi=>?_⟩;obtain ⟨b,cap,eu,hb,hI,-⟩:=atI (o.p.own i hi) (o.p.nn nzI i hi);exact ⟨b,by show adOf (up i)=_;rw [eu];rfl,hb,hI⟩
def Abv (c:Nat) (w w':World):Prop:=w.heap.size<=w'.heap.size/\∀ b,c<b->b<w.heap.size->w'.heap[b]? = w.heap[b]?
theorem Abv.refl (c:Nat) (w:World):Abv c w w:=⟨Nat.le_refl _,fun _ _ _=>rfl⟩
theorem Abv.trans {c:Nat} {w w1 w2:World} (h:Abv c w w1) (k:Abv c w1 w2):Abv c w w2:=
 ⟨zP h.1 k.1,fun b hb hl=>(k.2 b hb (zL hl h.1)).trans (h.2 b hb hl)⟩
theorem Abv.grown {c:Nat} {w w':World} (h:w.grownBy w' (some c)):Abv c w w':=⟨h.size,fun b hb hl=>h.block b hl (by simp;omega)⟩
theorem Abv.below {c:Nat} {w w':World} (h:Bw w w'):Abv c w w':=⟨h.size,fun b _ hl=>h.block b hl⟩
def SysK (c:Nat) (w:World) (x:SysIn):Prop:=∀ w',Abv c w w'->SysG w' x
theorem SysK.g {c:Nat} {w:World} {x:SysIn} (h:SysK c w x):SysG w x:=h w (Abv.refl c w)
theorem SysK.on {c:Nat} {w w':World} {x:SysIn} (h:SysK c w x) (k:Abv c w w'):SysK c w' x:=fun w2 h2=>h w2 (k.trans h2)
theorem Own1.k {w:World} {c B T n pc:Nat} {L:Nat->Nat} {H:Nat->Nat->I5} {pa:Option Addr} {vs vw vh:Value} (o:Own1 w B T n L H (.slice pa n pc) vs vw vh) (hB:c<B):∃ A C us,SysK c w (nwX pa n pc A L C H vs vw vh us):=by
 obtain ⟨col,up,us,o,-⟩:=o;refine ⟨fun i=>adOf (up i),fun i=>cpOf (up i),us,fun w' hw=>?_⟩;have key:∀ i b,Cl B col i b->b<w.heap.size->w'.heap[b]? = w.heap[b]?:=fun i b hb hl=>hw.2 b (zL hB hb.1) hl;have hp:=o.p.keep (key 1);refine qvz (o.s.keep (key 2)) (o.t.keep (key 3)) (o.h.keep (key 4)) (qfi hp) fun i hi=>?_;obtain ⟨b,cap,eu,hb,hI,-⟩:=atI (hp.own i hi) (hp.nn nzI i hi);exact ⟨b,by show adOf (up i)=_;rw [eu];rfl,hb,hI⟩
theorem OwnS.k {w:World} {d B:Nat} {c:Nat->Nat} {y:Sy} {vp vs vw vh:Value} {up us uw uh:Nat->Value} (o:OwnS true w B c y vp vs vw vh up us uw uh) (hB:d<B):SysK d w (y.sysIn vp vs vw vh up us uw uh):=by
 intro w' hw;have key:∀ i b,Cl B c i b->b<w.heap.size->w'.heap[b]? = w.heap[b]?:=fun i b hb hl=>hw.2 b (zL hB hb.1) hl;exact OwnS.g (B:=B) (c:=c) ⟨o.p.keep (key 1),o.s.keep (key 2),o.t.keep (key 3),o.h.keep (key 4)⟩
theorem Own1.s {w:World} {B T n:Nat} {L:Nat->Nat} {H:Nat->Nat->I5} {vp vs vw vh:Value} (o:Own1 w B T n L H vp vs vw vh):∃ c up us,OwnS false w B c (nwY n L H) vp vs vw vh up us (fun _=>.slice none 0 0) (fun _=>.slice none 0 0):=by
 obtain ⟨c,up,us,o,-⟩:=o;exact ⟨c,up,us,o.p.weak,o.s,o.t.ll (by decide) _ (fun _=>rfl),o.h.ll (by decide) _ (fun _=>rfl)⟩
theorem OwnS.nf {z:Bool} {w:World} {B:Nat} {c:Nat->Nat} {y:Sy} {vp vs vw vh:Value} {up us uw uh:Nat->Value} (o:OwnS z w B c y vp vs vw vh up us uw uh):(y.sysIn vp vs vw vh up us uw uh).Nn false:=by
 refine ⟨fun i hi=>?_,fun i hi=>?_⟩
 ·rcases (o.t.own i hi).2 with ⟨e,h⟩ | ⟨g,cap,cur,e,_⟩
  ·exact .inr ⟨rfl,by show adOf (uw i)=none;rw [e];rfl,h,by show cpOf (uw i)=0;rw [e];rfl⟩
  ·exact .inl ⟨g,0,by show adOf (uw i)=_;rw [e];rfl⟩
 ·rcases (o.h.own i hi).2 with ⟨e,h⟩ | ⟨g,cap,cur,e,_⟩
  ·exact .inr ⟨rfl,by show adOf (uh i)=none;rw [e];rfl,h,by show cpOf (uh i)=0;rw [e];rfl⟩
  ·exact .inl ⟨g,0,by show adOf (uh i)=_;rw [e];rfl⟩
theorem qld (W0 c len cap:Nat) (a0:Option Addr) (n:Int) (w:World) (hc:Cur w W0 c a0 len cap) (n1:1<=n) (n2:n<=1048576):
  Calls prog 38 #[.pointer (some (aQ c 0)),.int .i64 n] w fun e w'=>∃ x:Int,e=.returned (.int .i64 x)/\(0<=x/\x<n)/\Cur w' W0 c a0 len cap/\w.grownBy w' (some c):=by
 by_cases hs:n<=256
 ·exact zY W0 c len cap a0 n w hc n1 hs
 have n3:¬ n<=0:=by omega
 have n4:(n == 0)=false:=by simp;omega
 have HCur:Hid (Cur w W0 c a0 len cap):=hc;clear hc
 go_enter func38,ntmps38
 go_wp2_with fail
 refine (qdq W0 c len cap a0 _ HCur.out).mono ?_;rintro e w1 ⟨x,rfl,⟨x0,x1⟩,hc1,hg1⟩;have H1:Hid (Cur w1 W0 c a0 len cap/\w.grownBy w1 (some c)):=⟨hc1,hg1⟩
 clear hc1 hg1 HCur;go_wp2_with fail
 refine (qdq W0 c len cap a0 _ H1.1).mono ?_;rintro e w2 ⟨y,rfl,⟨y0,y1⟩,hc2,hg2⟩;have H2:Hid (Cur w2 W0 c a0 len cap/\w.grownBy w2 (some c)):=⟨hc2,H1.2.trans hg2⟩
 clear hc2 hg2 H1;go_wp2_with fail
 refine (qdq W0 c len cap a0 _ H2.1).mono ?_;rintro e w3 ⟨z,rfl,⟨z0,z1⟩,hc3,hg3⟩;have H3:Hid (Cur w3 W0 c a0 len cap/\w.grownBy w3 (some c)):=⟨hc3,H2.2.trans hg3⟩
 clear hc3 hg3 H2;go_wp2_with fail
 refine (qdq W0 c len cap a0 _ H3.1).mono ?_;rintro e w4 ⟨u,rfl,⟨u0,u1⟩,hc4,hg4⟩;have H4:Hid (Cur w4 W0 c a0 len cap/\w.grownBy w4 (some c)):=⟨hc4,H3.2.trans hg4⟩
 clear hc4 hg4 H3;have hp:0<=x*16777216+y*65536+z*256+u:=by omega
 go_wp2;go_ret;exact ⟨_,rfl,⟨Int.emod_nonneg _ (by omega),Int.emod_lt_of_pos _ (by omega)⟩,H4.1,H4.2⟩
def pickP (i:Nat):Int:=if i=0 then -1 else 4
def pickK (i:Nat):Int:=if i=0 then -1 else 201
theorem qon (i:Nat):-1<=pickP i/\pickP i<=4:=by unfold pickP;split <;> omega
theorem qol (i:Nat):-1<=pickK i/\pickK i<=201:=by unfold pickK;split <;> omega
theorem qom (w:World):qhg (w.alloc (.cells #[.int .i64 (-1),.int .i64 4] 3)) w.heap.size 2 pickP:=fun j hj=>by
 rw [zW _ _ _ j rfl]
 match j,hj with
 | 0,_=>rfl
 | 1,_=>rfl
theorem qok (w:World):qhg (w.alloc (.cells #[.int .i64 (-1),.int .i64 201] 3)) w.heap.size 2 pickK:=fun j hj=>by
 rw [zW _ _ _ j rfl]
 match j,hj with
 | 0,_=>rfl
 | 1,_=>rfl
open Go.Sort
def sndN (y:Sy) (p i:Nat):Int:=if (y.hH p i).k=3 then nthV (y.hH (y.hH p i).q.toNat) 2 p (y.hL (y.hH p i).q.toNat) ((plN (y.hH p) 3 (y.hH p i).q i).length:Nat) else -1
open Classical in
noncomputable def hasB (y:Sy) (p i:Int):Bool:=y.okB && belB p y.pn && belB i (y.hL p.toNat)
theorem qiq {y:Sy} {p i:Int} (h:hasB y p i=true):y.Ok/\∃ a b:Nat,p=a/\i=b/\a<y.pn/\b<y.hL a:=by
 simp only [hasB,Bool.and_eq_true,belB,decide_eq_true_eq] at h;obtain ⟨⟨h1,h2⟩,h3⟩:=h;refine ⟨Sy.ok_of h1,p.toNat,i.toNat,by omega,by omega,by omega,by omega⟩
theorem qq4 {y:Sy} {a b:Nat} (h:y.okB=true) (ha:a<y.pn) (hb:b<y.hL a):hasB y a b=true:=by
 simp only [hasB,h,belB,Bool.true_and,Int.toNat_natCast,Bool.and_eq_true,decide_eq_true_eq];omega
structure HisQ (w:World) (X:Nat) (ha:Option Addr) (hc:Nat) (y:Hs) (d:Nat->Nat):Prop where
 c4:w.cell? (aQ X 0)=some (.slice ha y.n hc)
 pt:∀ i,i<4->w.cell? ⟨X,1+i,none⟩=some (.int .i64 (d i))
 op:∀ a b,a<4->b<4->w.cell? ⟨X,5+a*4+b,none⟩=some (.int .i64 (y.opn d a b))
 fr:∀ j,w.frozen? ⟨X,j,none⟩=false
theorem HisQ.lt {w:World} {X:Nat} {ha:Option Addr} {hc:Nat} {y:Hs} {d:Nat->Nat} (h:HisQ w X ha hc y d):X<w.heap.size:=zJ w _ h.c4
theorem HisQ.blk {w w':World} {X:Nat} {ha:Option Addr} {hc:Nat} {y:Hs} {d:Nat->Nat} (h:HisQ w X ha hc y d) (hb:w'.heap[X]? = w.heap[X]?):HisQ w' X ha hc y d:=
 ⟨(zH hb).trans h.c4,fun i hi=>(zH hb).trans (h.pt i hi),fun a b h1 h2=>(zH hb).trans (h.op a b h1 h2),fun j=>(zI hb).trans (h.fr j)⟩
theorem HisQ.below {w w':World} {X:Nat} {ha:Option Addr} {hc:Nat} {y:Hs} {d:Nat->Nat} (h:HisQ w X ha hc y d) (hb:Bw w w'):HisQ w' X ha hc y d:=h.blk (hb.block X h.lt)
theorem qs4 (X:Nat) (ha:Option Addr) (hc:Nat) (hA:Nat->Option Addr) (hC:Nat->Nat) (y:Hs) (d:Nat->Nat) (k:Nat) (w:World) (hE:HisE w ha hA hC y) (hP:HisQ w X ha hc y d) (h4:y.n<=4) (hk:k<y.n) (hp:y.Peers) (hl:∀ i,i<y.n->y.l i<=200) (hd:∀ i,d i<=y.l i):
  Calls prog 105 #[.pointer (some (aQ X 0)),.int .i64 k] w (rB w (.bool (qB (y.Can d k)))):=by
 have HE:Hid (HisE w ha hA hC y):=hE;have HP:Hid (HisQ w X ha hc y d):=hP;have HCan:Hid (y.Can d k ↔ d k<y.l k/\((y.e k (d k)).k=3->0<y.opn d (y.e k (d k)).q.toNat k)):=Hs.can_iff hp hk;have hk4:(k:Int)<4:=by omega
 have hk':(k:Int)<(y.n:Int):=by omega
 have hl200:(y.l k:Int)<=200:=by have:=hl k hk;omega
 have hdk:(d k:Int)<=(y.l k:Int):=by have:=hd k;omega
 obtain ⟨bh,oh,eh,ch⟩:=hE.row.at hk;obtain ⟨c4,pt,op,-⟩:=hP;have pk:=pt k (by omega);rw [eh] at c4;clear hE;by_cases he:d k=y.l k
 ·have HN:Hid (qB (y.Can d k)=false):=qat fun h=>by have:=h.1;omega
  rw [he] at pk;clear op pt
  go_enter func105,ntmps105
  go_wp2_with fail
  go_quiet (fail)
  go_wp2;go_ret;rw [HN.out];exact ⟨rfl,yE (Below.refl _ _) _⟩
 ·have hlt:d k<y.l k:=by have:=hd k;omega
  have hlt':(d k:Int)<(y.l k:Int):=by omega
  have hne:((d k:Int) == (y.l k:Int))=false:=by
   have:¬ (d k:Int)=(y.l k:Int):=by omega
   simpa using this
  obtain ⟨b,off,ea,zb,e0,e1,e2⟩:=(HE.ev k hk).at hlt;rw [ea] at ch;have n1:w.heap.size≠X:=by have:=HP.lt;omega
  have n2:w.heap.size≠b:=by omega
  have n3:w.heap.size≠bh:=by have:=zJ w _ ch;simp at this;omega
  clear zb;have hq:=hp k hk (d k) hlt;obtain ⟨q,hqe⟩:∃ q:Nat,(y.e k (d k)).q=(q:Int):=⟨(y.e k (d k)).q.toNat,by omega⟩
  have hq4:(q:Int)<4:=by omega
  have oq:=op q k (by omega) (by omega);rw [hqe] at e1
  rcases zK ((y.e k (d k)).k != 3) with t | t
  ·have HN:Hid (qB (y.Can d k)=true):=qay (HCan.2 ⟨hlt,fun h=>by rw [h] at t;cases t⟩)
   clear op pt hq hqe oq HCan;generalize (y.e k (d k)).k=kd at *;generalize (y.e k (d k)).v=vd at *
   go_enter func105,ntmps105
   go_wp2_with fail
   go_quiet (fail)
   go_wp2_with fail
   have BD:Hid (Bw w (w.drewN nq)):=yE (Below.refl _ _) _;replace n1:(w.drewN nq).heap.size≠X:=n1;replace n2:(w.drewN nq).heap.size≠b:=n2;replace n3:(w.drewN nq).heap.size≠bh:=n3;replace c4:(w.drewN nq).cell? (aQ X 0)=_:=c4;replace pk:(w.drewN nq).cell? ⟨X,1+k,none⟩=_:=pk;replace ch:(w.drewN nq).cell? ⟨bh,oh+k,none⟩=_:=ch;replace e0:(w.drewN nq).cell? ⟨b,off+d k*3,none⟩=_:=e0;replace e1:(w.drewN nq).cell? ⟨b,off+d k*3+1,none⟩=_:=e1;replace e2:(w.drewN nq).cell? ⟨b,off+d k*3+2,none⟩=_:=e2;generalize w.drewN nq=wd at *;have c4':=qaa c4;have pk':=qaa pk;have ch':=qaa ch;have e0':=qaa e0;have e1':=qaa e1;have e2':=qaa e2
   go_region
   all_goals
    go_wp2_with fail
    go_quiet (fail)
    go_wp2;go_ret;rw [HN.out];exact ⟨rfl,yE (BD.trans ((zT _ _).mono BD.size)).drew _⟩
  ·have hk3:(y.e k (d k)).k=3:=by simpa using t
   have HN:Hid (qB (y.Can d k)=decide (0<y.opn d q k)):=by
    show qB (y.Can d k)=decide (0<y.opn d q k);have e:(y.e k (d k)).q.toNat=q:=by omega
    by_cases h0:0<y.opn d q k
    ·rw [decide_eq_true h0]
     exact qay (HCan.2 ⟨hlt,fun _=>by rw [e];exact h0⟩)
    ·rw [decide_eq_false h0]
     refine qat fun h=>h0 ?_;have:=(HCan.1 h).2 hk3
     rwa [e] at this
   rw [hk3] at e0;clear op pt hq hqe HCan t hk3;generalize (y.e k (d k)).v=vd at *;generalize y.opn d q k=on at *
   go_enter func105,ntmps105
   go_wp2_with fail
   go_quiet (fail)
   go_wp2_with fail
   have BD:Hid (Bw w (w.drewN nq)):=yE (Below.refl _ _) _;replace n1:(w.drewN nq).heap.size≠X:=n1;replace n2:(w.drewN nq).heap.size≠b:=n2;replace n3:(w.drewN nq).heap.size≠bh:=n3;replace c4:(w.drewN nq).cell? (aQ X 0)=_:=c4;replace pk:(w.drewN nq).cell? ⟨X,1+k,none⟩=_:=pk;replace ch:(w.drewN nq).cell? ⟨bh,oh+k,none⟩=_:=ch;replace e0:(w.drewN nq).cell? ⟨b,off+d k*3,none⟩=_:=e0;replace e1:(w.drewN nq).cell? ⟨b,off+d k*3+1,none⟩=_:=e1;replace e2:(w.drewN nq).cell? ⟨b,off+d k*3+2,none⟩=_:=e2;replace oq:(w.drewN nq).cell? ⟨X,5+q*4+k,none⟩=_:=oq;generalize w.drewN nq=wd at *;have c4':=qaa c4;have pk':=qaa pk;have ch':=qaa ch;have e0':=qaa e0;have e1':=qaa e1;have e2':=qaa e2;have oq':=qaa oq
   go_region
   all_goals
    go_wp2_with fail
    go_quiet (fail)
    go_wp2;go_ret;rw [HN.out];exact ⟨rfl,yE (BD.trans ((zT _ _).mono BD.size)).drew _⟩
theorem HisQ.put {w w':World} {X:Nat} {ha:Option Addr} {hc:Nat} {y:Hs} {d:Nat->Nat} {k:Nat} (h:HisQ w X ha hc y d) (c4:w'.cell? ⟨X,0,none⟩=w.cell? ⟨X,0,none⟩) (pt:∀ i,i<4->w'.cell? ⟨X,1+i,none⟩=if i=k then some (.int .i64 (d k+1:Nat)) else w.cell? ⟨X,1+i,none⟩)
  (op:∀ a b,a<4->b<4->w'.cell? ⟨X,5+a*4+b,none⟩=some (.int .i64 (y.opn (up d k) a b))) (fr:∀ j,w'.frozen? ⟨X,j,none⟩=false):HisQ w' X ha hc y (up d k):=by
 refine ⟨c4.trans h.c4,fun i hi=>?_,op,fr⟩;rw [pt i hi];by_cases e:i=k
 ·subst e
  rw [if_pos rfl,qbi]
 ·rw [if_neg e,up_other e]
  exact h.pt i hi
theorem HisQ.put2 {w:World} {X:Nat} {ha:Option Addr} {hc:Nat} {y:Hs} {d:Nat->Nat} {k i0 j0:Nat} {on:Int} {o:Obj} (h:HisQ w X ha hc y d) (hk:k<4) (hi:i0<4) (hj:j0<4) (HO:∀ a b,y.opn (up d k) a b=if a=i0/\b=j0 then on else y.opn d a b):
  HisQ (((w.setCell ⟨X,5+i0*4+j0,none⟩ (.int .i64 on)).setCell ⟨X,1+k,none⟩ (.int .i64 ((d k:Int)+1))).alloc o) X ha hc y (up d k)/\qar (fun b=>b=X) w (((w.setCell ⟨X,5+i0*4+j0,none⟩ (.int .i64 on)).setCell ⟨X,1+k,none⟩ (.int .i64 ((d k:Int)+1))).alloc o):=by
 have hX:=h.lt;refine ⟨h.put (k:=k) (qdj (by omega) (by omega) hX) (fun i hi'=>?_) (fun a b ha' hb'=>?_) (fun j=>?_),?_⟩
 ·by_cases e:i=k
  ·subst e
   rw [if_pos rfl,qio (by omega) (by rw [h.pt i hi'];rfl) hX];rfl
  ·rw [if_neg e]
   exact qdj (by omega) (by omega) hX
 ·rw [HO]
  by_cases e:a=i0/\b=j0
  ·obtain ⟨rfl,rfl⟩:=e
   rw [if_pos ⟨rfl,rfl⟩];exact qin (by omega) (by rw [h.op a b ha' hb'];rfl) hX
  ·rw [if_neg e,<- h.op a b ha' hb']
   exact qdj (by omega) (by omega) hX
 ·rw [qcb (by simpa [World.setCell] using hX),World.frozen?_setCell,World.frozen?_setCell]
  exact h.fr j
 ·exact ((qar.of_set (P:=fun b=>b=X) w (a:=(aQ X _)) rfl _).trans (qar.of_set (P:=fun b=>b=X) _ (a:=(aQ X _)) rfl _)).trans (qar.of_below (zT _ _))
theorem HisQ.put1 {w:World} {X:Nat} {ha:Option Addr} {hc:Nat} {y:Hs} {d:Nat->Nat} {k:Nat} {o:Obj} (h:HisQ w X ha hc y d) (hk:k<4) (HO:∀ a b,y.opn (up d k) a b=y.opn d a b):
  HisQ ((w.setCell ⟨X,1+k,none⟩ (.int .i64 ((d k:Int)+1))).alloc o) X ha hc y (up d k)/\qar (fun b=>b=X) w ((w.setCell ⟨X,1+k,none⟩ (.int .i64 ((d k:Int)+1))).alloc o):=by
 have hX:=h.lt
 have ho:∀ m,m≠1+k->((w.setCell ⟨X,1+k,none⟩ (.int .i64 ((d k:Int)+1))).alloc o).cell? ⟨X,m,none⟩=w.cell? ⟨X,m,none⟩:=fun m hm=>by
  rw [World.cell?_alloc_lt _ _ _ (by simpa [World.setCell] using hX),World.cell?_setCell_other _ _ _ _ (by intro e;injection e with _ e;exact hm e.symm)]
 refine ⟨h.put (k:=k) (ho 0 (by omega)) (fun i hi'=>?_) (fun a b ha' hb'=>?_) (fun j=>?_),?_⟩
 ·by_cases e:i=k
  ·subst e
   rw [if_pos rfl,World.cell?_alloc_lt _ _ _ (by simpa [World.setCell] using hX),World.cell?_setCell_same' _ _ _ (by rw [h.pt i hi'];rfl)];rfl
  ·rw [if_neg e]
   exact ho _ (by omega)
 ·rw [HO,<- h.op a b ha' hb']
  exact ho _ (by omega)
 ·rw [qcb (by simpa [World.setCell] using hX),World.frozen?_setCell]
  exact h.fr j
 ·exact (qar.of_set (P:=fun b=>b=X) w (a:=(aQ X _)) rfl _).trans (qar.of_below (zT _ _))
theorem HisQ.dr {w:World} {X:Nat} {ha:Option Addr} {hc:Nat} {y:Hs} {d:Nat->Nat} (h:HisQ w X ha hc y d):HisQ w.drew X ha hc y d:=⟨h.c4,h.pt,h.op,h.fr⟩
theorem qt1 (X:Nat) (ha:Option Addr) (hc:Nat) (hA:Nat->Option Addr) (hC:Nat->Nat) (y:Hs) (d:Nat->Nat) (k:Nat) (w:World) (hE:HisE w ha hA hC y) (hP:HisQ w X ha hc y d) (h4:y.n<=4) (hk:k<y.n) (hp:y.Peers) (hl:∀ i,i<y.n->y.l i<=200) (hd:∀ i,d i<=y.l i) (hlt:d k<y.l k):
  Calls prog 72 #[.pointer (some (aQ X 0)),.int .i64 k] w fun e w'=>e=.returned (.tuple #[])/\HisQ w' X ha hc y (up d k)/\qar (fun b=>b=X) w w':=by
 have HP:Hid (HisQ w X ha hc y d):=hP;have hk4:(k:Int)<4:=by omega
 have hk':(k:Int)<(y.n:Int):=by omega
 have hl200:(y.l k:Int)<=200:=by have:=hl k hk;omega
 have hlt':(d k:Int)<(y.l k:Int):=by omega
 obtain ⟨bh,oh,eh,ch⟩:=hE.row.at hk;obtain ⟨c4,pt,op,fr⟩:=hP;have pk:=pt k (by omega);rw [eh] at c4;obtain ⟨b,off,ea,zb,e0,e1,e2⟩:=(hE.ev k hk).at hlt;rw [ea] at ch;have n1:w.heap.size≠X:=by have:=HP.lt;omega
 have n2:w.heap.size≠b:=by omega
 have n3:w.heap.size≠bh:=by have:=zJ w _ ch;simp at this;omega
 have zX:X<w.heap.size:=HP.lt;have hq:=hp k hk (d k) hlt;obtain ⟨q,hqe⟩:∃ q:Nat,(y.e k (d k)).q=(q:Int):=⟨(y.e k (d k)).q.toNat,by omega⟩
 have hq4:(q:Int)<4:=by omega
 have hqn:q<y.n:=by omega
 rw [hqe] at e1;have c4':=qaa c4;have pk':=qaa pk;have ch':=qaa ch;have e0':=qaa e0;have e1':=qaa e1;have e2':=qaa e2;have fr':∀ j,w.frozen? ⟨X,j,none⟩=false:=fr
 rcases zK ((y.e k (d k)).k == 2) with t | t
 ·have hk2:(y.e k (d k)).k=2:=by simpa using t
  have oq:=op k q (by omega) (by omega);obtain ⟨o1,o2⟩:=Hs.opn_le hd hl hk hqn;have oq':=qaa oq;rw [hk2] at e0 e0'
  have HO:Hid (∀ a b,y.opn (up d k) a b=if a=k/\b=q then y.opn d k q+1 else y.opn d a b):=fun a b=>by
   rw [Hs.opn_up,hk2,hqe];by_cases e:a=k/\b=q
   ·obtain ⟨rfl,rfl⟩:=e
    simp
   ·rw [if_neg e,if_neg (fun h=>e ⟨h.1,by omega⟩),if_neg (fun h=>absurd h.2.1 (by decide))]
    omega
  clear op pt t hk2 hq hqe hp hE eh ea;generalize (y.e k (d k)).v=vd at *;generalize y.opn d k q=on at *
  go_enter func72,ntmps72
  go_wp2_with fail
  go_region
  all_goals
   go_wp2_with fail
   go_region
   all_goals
    go_wp2_with fail
    go_region
    all_goals
     go_wp2_with fail
     go_end0
     have hz:=HP.put2 (o:=oQ0 2 q vd) (show k<4 by omega) (show k<4 by omega) (show q<4 by omega) HO.out;exact ⟨rfl,hz.1.dr.dr.dr,hz.2.dr.dr.dr⟩
 rcases zK ((y.e k (d k)).k == 3) with t3 | t3
 ·have hk3:(y.e k (d k)).k=3:=by simpa using t3
  have oq:=op q k (by omega) (by omega);obtain ⟨o1,o2⟩:=Hs.opn_le hd hl hqn hk;have oq':=qaa oq;rw [hk3] at e0 e0'
  have HO:Hid (∀ a b,y.opn (up d k) a b=if a=q/\b=k then y.opn d q k - 1 else y.opn d a b):=fun a b=>by
   rw [Hs.opn_up,hk3,hqe];by_cases e:a=q/\b=k
   ·obtain ⟨rfl,rfl⟩:=e
    simp
   ·rw [if_neg e,if_neg (fun h=>absurd h.2.1 (by decide)),if_neg (fun h=>e ⟨by omega,h.1⟩)]
    omega
  clear op pt t t3 hk3 hq hqe hp hE eh ea;generalize (y.e k (d k)).v=vd at *;generalize y.opn d q k=on at *
  go_enter func72,ntmps72
  go_wp2_with fail
  go_region
  all_goals
   go_wp2_with fail
   go_region
   all_goals
    go_wp2_with fail
    go_region
    all_goals
     go_wp2_with fail
     go_end0
     have hz:=HP.put2 (o:=oQ0 3 q vd) (show k<4 by omega) (show q<4 by omega) (show k<4 by omega) HO.out;exact ⟨rfl,hz.1.dr.dr.dr,hz.2.dr.dr.dr⟩
 ·have HO:Hid (∀ a b,y.opn (up d k) a b=y.opn d a b):=fun a b=>by
   have t2:(y.e k (d k)).k≠2:=by simpa using t
   have t3':(y.e k (d k)).k≠3:=by simpa using t3
   rw [Hs.opn_up,if_neg (fun h=>t2 h.2.1),if_neg (fun h=>t3' h.2.1)];omega
  clear op pt hq hqe hp hE eh ea;generalize (y.e k (d k)).v=vd at *;generalize (y.e k (d k)).k=kd at *
  go_enter func72,ntmps72
  go_wp2_with fail
  go_region
  all_goals
   go_wp2_with fail
   go_region
   all_goals
    go_wp2_with fail
    go_end0
    have hz:=HP.put1 (o:=oQ0 kd q vd) (show k<4 by omega) HO.out;exact ⟨rfl,hz.1.dr.dr,hz.2.dr.dr⟩
theorem qru (X:Nat) (ha:Option Addr) (hc:Nat) (hA:Nat->Option Addr) (hC:Nat->Nat) (y:Hs) (d:Nat->Nat) (w:World) (hE:HisE w ha hA hC y) (hP:HisQ w X ha hc y d) (h4:y.n<=4) (hp:y.Peers) (hl:∀ i,i<y.n->y.l i<=200) (hd:∀ i,d i<=y.l i):
  Calls prog 71 #[.pointer (some (aQ X 0))] w (NxtR w y d):=by
 have HE:Hid (HisE w ha hA hC y):=hE;have HP:Hid (HisQ w X ha hc y d):=hP;have HH:Hid (y.Peers/\(∀ i,i<y.n->y.l i<=200)/\∀ i,d i<=y.l i):=⟨hp,hl,hd⟩
 have hn:(y.n:Int)<=4:=by omega
 obtain ⟨c4,-,-,-⟩:=hP;clear hE hp hl hd
 go_enter func71,ntmps71
 go_wp2_with fail
 clear c4
 go_loopw [9] (fun i wr=>∃ k:Nat,k<=y.n/\i=.int .i64 k/\Bw w wr/\Hid (∀ j,j<k->¬ y.Can d j)) (fun i _=>y.n - (intOf i).toNat)
 case atStart=>exact ⟨0,Nat.zero_le _,rfl,Below.refl _ _,fun j hj=>by omega⟩
 case round=>
  obtain ⟨k,hk,rfl,hbw,HZ⟩:=hrel;by_cases hlt:k<y.n
  ·have hlt':(k:Int)<(y.n:Int):=by omega
   go_wp2_with fail
   refine (qs4 X ha hc hA hC y d k wr (HE.below hbw) (HP.below hbw) h4 hlt HH.1 HH.2.1 HH.2.2).mono ?_;rintro e w1 ⟨rfl,b1⟩;have B1:Hid (Bw w w1):=hbw.trans (b1.mono hbw.size);clear b1 hbw;by_cases hc':y.Can d k
   ·have HF:Hid (NxtR w y d (.returned (.int .i64 k)) w1):=⟨B1.out,.inl ⟨k,hlt,hc',rfl⟩⟩
    rw [qay hc'];clear hc' B1;go_wp2;go_ret;exact HF.out
   ·have HZ':Hid (∀ j,j<k+1->¬ y.Can d j):=fun j hj=>by
     by_cases e:j=k
     ·subst e
      exact hc'
     ·exact HZ.out j (by omega)
    rw [qat hc'];clear hc' HZ;go_wp2;go_roundw
    case rel=>exact ⟨k+1,by omega,by go_num,B1.out,HZ'.out⟩
    case measure=>simp [intOf];omega
  ·have HF:Hid (NxtR w y d (.returned (.int .i64 (-1))) wr):=⟨hbw,.inr ⟨rfl,fun p hp=>HZ.out p (by omega)⟩⟩
   clear HZ hbw;go_wp2;go_ret;exact HF.out
def snV (y:Sy) (p i:Nat):Value:=if (y.hH p i).k=3 then .tuple #[.agg #[.int .i64 (y.hH p i).q,.int .i64 (sndN y p i)],.bool true] else .tuple #[.agg #[.int .i64 0,.int .i64 0],.bool false]
theorem qlp (x:SysIn) (p i:Nat) (w:World) (hG:SysG w x) (hcap:∀ i,i<x.hn->x.hL i<=x.hC i) (hO:x.y.Ok) (hp:p<x.pn) (hi:i<x.hL p):
  Calls prog 79 #[x.v,.agg #[.int .i64 p,.int .i64 i]] w (rB w (snV x.y p i)):=by
 have hhn:x.hn=x.pn:=hO.cn.2.2.1;have hph:p<x.hn:=by omega
 have hq:0<=(x.hH p i).q/\(x.hH p i).q<(x.pn:Int):=hO.evq hp hi;have hlp:x.hL p<=200:=hO.hl200 hp;obtain ⟨q,hqe⟩:∃ q:Nat,(x.hH p i).q=q:=⟨(x.hH p i).q.toNat,by omega⟩
 have hqn:q<x.hn:=by omega
 have hlq:x.hL q<=200:=hO.hl200 (by show q<x.pn;omega);have hcp:=hcap p hph;have hph':(p:Int)<(x.hn:Int):=by omega
 have hqn':(q:Int)<(x.hn:Int):=by omega
 have hi':(i:Int)<(x.hL p:Int):=by omega
 have HG:Hid (SysG w x):=hG
 have HV:Hid (sndN x.y p i=if (x.hH p i).k=3 then nthV (x.hH q) 2 p (x.hL q) ((plN (x.hH p) 3 q i).length:Nat) else -1):=by
  show sndN x.y p i=_;unfold sndN;show (if (x.hH p i).k=3 then nthV (x.hH (x.hH p i).q.toNat) 2 p (x.hL (x.hH p i).q.toNat) ((plN (x.hH p) 3 (x.hH p i).q i).length:Nat) else -1)=_;rw [hqe,Int.toNat_natCast]
 have hcn:(plN (x.hH p) 3 q i).length<=i:=qf3 _ _ _ _;have ks:=qe0 (x.hA p) (x.hL p) (x.hC p) i (by omega);have HCk:Hid (∀ wx,Bw w wx->Calls prog 106 #[.slice (x.hA p) i (x.hC p),.int .i64 3,.int .i64 q] wx (rB wx (.int .i64 ((plN (x.hH p) 3 q i).length:Nat)))):=fun wx hb=>qms (x.hA p) i (x.hC p) (x.hH p) 3 q wx (by omega) (((hG.below hb).hi p hph).take (by omega));have HNt:Hid (∀ wx,Bw w wx->Calls prog 94 #[.slice (x.hA q) (x.hL q) (x.hC q),.int .i64 2,.int .i64 p,.int .i64 ((plN (x.hH p) 3 q i).length:Nat)] wx fun e w'=>e=.returned (.int .i64 (nthV (x.hH q) 2 p (x.hL q) ((plN (x.hH p) 3 q i).length:Nat)))/\Bw wx w'):=fun wx hb=>qla (x.hA q) (x.hL q) (x.hC q) (x.hH q) 2 p _ wx (by omega) ((hG.below hb).hi q hqn);generalize hCn:(plN (x.hH p) 3 q i).length=cn at *;generalize hNv:nthV (x.hH q) 2 p (x.hL q) (cn:Nat)=nv at *;have HQ:Hid ((x.hH p i).q=q):=hqe;clear hG hcap hO hq hqe hNv hCn hhn;have HSV:Hid (snV x.y p i=if (x.hH p i).k=3 then .tuple #[.agg #[.int .i64 (x.hH p i).q,.int .i64 (sndN x.y p i)],.bool true] else .tuple #[.agg #[.int .i64 0,.int .i64 0],.bool false]):=rfl;generalize snV x.y p i=R at *;have BW:Hid (Bw w (((w.alloc (x.oX)).alloc (oQ5 p i)).alloc (oQ5 0 0))):=(zT _ _).trans (((zT _ _).trans ((zT _ _).mono (by simp))).mono (by simp));have NB:Hid (BoxC (((w.alloc (x.oX)).alloc (oQ5 p i)).alloc (oQ5 0 0)) w.heap.size (.slice x.pa x.pn x.pc) (.slice x.sa x.sn x.sc) (.slice x.wa x.wn x.wc) (.slice x.ha x.hn x.hc)):=((BoxC.new w _ _ _ _ _).below (zT _ _)).below (zT _ _)
 have NS:Hid ((((w.alloc (x.oX)).alloc (oQ5 p i)).alloc (oQ5 0 0)).cell? ⟨w.heap.size+1,0,none⟩=some (.int .i64 p)/\(((w.alloc (x.oX)).alloc (oQ5 p i)).alloc (oQ5 0 0)).cell? ⟨w.heap.size+1,1,none⟩=some (.int .i64 i)):=⟨qaa (zW (w.alloc (x.oX)) _ _ 0 (by simp)) _,qaa (zW (w.alloc (x.oX)) _ _ 1 (by simp)) _⟩
 have NZ:Hid ((((w.alloc (x.oX)).alloc (oQ5 p i)).alloc (oQ5 0 0)).cell? ⟨w.heap.size+2,0,none⟩=some (.int .i64 0)/\(((w.alloc (x.oX)).alloc (oQ5 p i)).alloc (oQ5 0 0)).cell? ⟨w.heap.size+2,1,none⟩=some (.int .i64 0)/\∀ j,(((w.alloc (x.oX)).alloc (oQ5 p i)).alloc (oQ5 0 0)).frozen? ⟨w.heap.size+2,j,none⟩=false):=⟨zW ((w.alloc (x.oX)).alloc (oQ5 p i)) _ _ 0 (by simp),zW ((w.alloc (x.oX)).alloc (oQ5 p i)) _ _ 1 (by simp),fun j=>yD ((w.alloc (x.oX)).alloc (oQ5 p i)) _ _ _ (by simp)⟩
 have hM2:w.heap.size<=w.heap.size+2:=Nat.le_add_right _ _
 go_enter func79,ntmps79
 go_upto_region 1 with fail
 generalize ((w.alloc (x.oX)).alloc (oQ5 p i)).alloc (oQ5 0 0)=W2 at *;obtain ⟨-,-,-,b3⟩:=NB.out;obtain ⟨d0,d1⟩:=NS.out;obtain ⟨z0,z1,zf⟩:=NZ.out;obtain ⟨bh,oh,eh,cp⟩:=(HG.below BW.out).h.at hph;obtain ⟨bh',oh',eh',cq⟩:=(HG.below BW.out).h.at hqn;rw [eh] at eh' b3;simp only [Option.some.injEq,Addr.mk.injEq] at eh';obtain ⟨rfl,rfl,-⟩:=eh';obtain ⟨b,off,ea,zb,e0,e1,e2⟩:=((HG.below BW.out).hi p hph).at hi;rw [ea] at cp ks;rw [HQ.out] at e1;have HCk':=HCk.out;rw [ea] at HCk';clear HCk;have HCk:Hid (∀ wx,Bw w wx->Calls prog 106 #[.slice (some ⟨b,off,none⟩) i (x.hC p),.int .i64 3,.int .i64 q] wx (rB wx (.int .i64 (cn:Nat)))):=HCk';have hSV:=HSV.out;rw [HQ.out] at hSV;clear HSV HCk' eh ea NB NS NZ;generalize (x.hH p i).k=K at *;generalize (x.hH p i).v=V at *;have HSV:Hid (R=if K=3 then .tuple #[.agg #[.int .i64 q,.int .i64 (sndN x.y p i)],.bool true] else .tuple #[.agg #[.int .i64 0,.int .i64 0],.bool false]):=hSV;clear hSV;have BW3:Hid (Bw w (W2.alloc (oQ0 K q V)).drew):=(BW.trans ((zT _ _).mono BW.size)).drew;have c0:(W2.alloc (oQ0 K q V)).drew.cell? (aQ W2.heap.size 0)=some (.int .i64 K):=zW W2 #[.int .i64 K,.int .i64 q,.int .i64 V] 83 0 rfl;have c1:(W2.alloc (oQ0 K q V)).drew.cell? (aQ W2.heap.size 1)=some (.int .i64 q):=zW W2 #[.int .i64 K,.int .i64 q,.int .i64 V] 83 1 rfl;have hb3:∀ o,(W2.alloc o).cell? _=_:=qaa b3;have hd0:∀ o,(W2.alloc o).cell? _=_:=qaa d0;have hd1:∀ o,(W2.alloc o).cell? _=_:=qaa d1;have hcpo:∀ o,(W2.alloc o).cell? _=_:=qaa cp;have he0:∀ o,(W2.alloc o).cell? _=_:=qaa e0
 have he1:∀ o,(W2.alloc o).cell? _=_:=qaa e1;have he2:∀ o,(W2.alloc o).cell? _=_:=qaa e2;have F3:Hid ((W2.alloc (oQ0 K q V)).drew.cell? (aQ w.heap.size 3)=some (.slice (some (aQ bh oh)) x.hn x.hc)/\(W2.alloc (oQ0 K q V)).drew.cell? ⟨bh,oh+p,none⟩=some (.slice (some (aQ b off)) (x.hL p) (x.hC p))/\(W2.alloc (oQ0 K q V)).drew.cell? ⟨bh,oh+q,none⟩=some (.slice (x.hA q) (x.hL q) (x.hC q))/\(W2.alloc (oQ0 K q V)).drew.cell? ⟨w.heap.size+1,0,none⟩=some (.int .i64 p)/\(W2.alloc (oQ0 K q V)).drew.cell? ⟨w.heap.size+1,1,none⟩=some (.int .i64 i)):=⟨qaa b3 _,qaa cp _,qaa cq _,qaa d0 _,qaa d1 _⟩
 have Z3:Hid ((W2.alloc (oQ0 K q V)).drew.cell? ⟨w.heap.size+2,0,none⟩=some (.int .i64 0)/\(W2.alloc (oQ0 K q V)).drew.cell? ⟨w.heap.size+2,1,none⟩=some (.int .i64 0)/\∀ j,(W2.alloc (oQ0 K q V)).drew.frozen? ⟨w.heap.size+2,j,none⟩=false):=⟨qaa z0 _,qaa z1 _,fun j=>((qag (zT W2 _)).2 _ j (zJ W2 _ z0)).trans (zf j)⟩
 go_wp2_with fail
 go_region
 all_goals
  go_upto_region 2 with fail
  clear b3 d0 d1 z0 z1 zf cp cq e0 e1 e2 zb BW hb3 hd0 hd1 hcpo he0 he1 he2;generalize hN2:W2.heap.size=N2 at *;clear hN2;generalize (W2.alloc (oQ0 K q V)).drew=W3 at *;obtain ⟨z0,z1,zf⟩:=Z3.out
  rcases zK (K == 3) with t | t
  case inr=>
   have HV2:Hid (R=.tuple #[.agg #[.int .i64 0,.int .i64 0],.bool false]):=by
    show R=_;rw [HSV.out,if_neg (by simpa using t)]
   clear HV HSV;go_wp2;exact bodyPost_ret (v:=.tuple #[.agg #[.int .i64 0,.int .i64 0],.bool false]) (by simp [results,results79,go_sem,z0,z1]) rfl ⟨by rw [HV2.out],(BW3.setCell hM2 _).setCell hM2 _⟩
  case inl=>
   have HV2:Hid (R=.tuple #[.agg #[.int .i64 q,.int .i64 nv],.bool true]):=by
    show R=_;have hk:K=3:=by simpa using t
    rw [HSV.out,if_pos hk,HV.out,if_pos hk]
   clear HV HSV;obtain ⟨b3,cp,cq,d0,d1⟩:=F3.out;have q1:=cell_regrown c1;have q3:=cell_regrown b3;have qp:=cell_regrown cp;have qd0:=cell_regrown d0;have qd1:=cell_regrown d1;have HQ2:Hid (∀ d os,Bw w (grow (redrawn W3 d) os)):=fun d os=>BW3.trans ((below_regrown W3 d os).mono BW3.size);go_upto_region 4 with fail
   refine wp_region_quiet_below (by kernel_rfl) (by kernel_rfl) ?_
   repeat (quiet_step (first|(go_at_call 106;exact Calls.regrown_of (HCk.out _ (HQ2.out _ _)))))
   refine wpQuiet_nil ?_;intro _ hw';obtain ⟨⟨dd,os⟩,hw''⟩:=hw';subst hw'';have B4:Hid (Bw w (grow (redrawn W3 dd) os)):=HQ2.out dd os;have br:=below_regrown W3 dd os
   have F4:Hid (∀ wx,Below (grow (redrawn W3 dd) os).heap.size (grow (redrawn W3 dd) os) wx->wx.cell? ⟨N2,1,none⟩=some (.int .i64 q)/\wx.cell? ⟨w.heap.size,3,none⟩=some (.slice (some ⟨bh,oh,none⟩) x.hn x.hc)/\wx.cell? ⟨bh,oh+q,none⟩=some (.slice (x.hA q) (x.hL q) (x.hC q))/\wx.cell? ⟨w.heap.size+1,0,none⟩=some (.int .i64 p)/\wx.cell? ⟨w.heap.size+2,0,none⟩=some (.int .i64 0)/\wx.cell? ⟨w.heap.size+2,1,none⟩=some (.int .i64 0)/\∀ j,wx.frozen? ⟨w.heap.size+2,j,none⟩=false):=fun wx hx=>by
    have hx':Bw W3 wx:=br.trans (hx.mono br.size);have hcl:∀ a v,W3.cell? a=some v->wx.cell? a=some v:=fun a v ha=>(hx'.cell (zJ W3 _ ha)).trans ha;exact ⟨hcl _ _ c1,hcl _ _ b3,hcl _ _ cq,hcl _ _ d0,hcl _ _ z0,hcl _ _ z1,fun j=>((qag hx').2 _ j (zJ W3 _ z0)).trans (zf j)⟩
   clear q1 q3 qp qd0 qd1 c0 c1 b3 cp cq d0 d1 z0 z1 zf F3 Z3 HCk BW3 HQ2 br;generalize grow (redrawn W3 dd) os=W4 at *;obtain ⟨c1,b3,cq,d0,z0,z1,zf⟩:=F4.out W4 (Below.refl _ _);have HNw:Hid (Calls prog 94 #[.slice (x.hA q) (x.hL q) (x.hC q),.int .i64 2,.int .i64 p,.int .i64 (cn:Nat)] W4.drew fun e w'=>e=.returned (.int .i64 nv)/\Below W4.drew.heap.size W4.drew w'):=HNt.out W4.drew B4.drew;go_upto_region 5 with fail
   refine qah (fun w'=>w'.cell? (aQ N2 1)=some (.int .i64 q)/\w'.cell? (aQ w.heap.size 3)=some (.slice (some (aQ bh oh)) x.hn x.hc)/\w'.cell? ⟨bh,oh+q,none⟩=some (.slice (x.hA q) (x.hL q) (x.hC q))/\w'.cell? ⟨w.heap.size+1,0,none⟩=some (.int .i64 p)/\w'.cell? ⟨w.heap.size+2,0,none⟩=some (.int .i64 0)/\w'.cell? ⟨w.heap.size+2,1,none⟩=some (.int .i64 0)) (fun i=>i == 13 || i == 14) (by kernel_rfl) ?_;have hHeld:(fun w'=>w'.cell? (aQ N2 1)=some (.int .i64 q)/\w'.cell? (aQ w.heap.size 3)=some (.slice (some (aQ bh oh)) x.hn x.hc)/\w'.cell? ⟨bh,oh+q,none⟩=some (.slice (x.hA q) (x.hL q) (x.hC q))/\w'.cell? ⟨w.heap.size+1,0,none⟩=some (.int .i64 p)/\w'.cell? ⟨w.heap.size+2,0,none⟩=some (.int .i64 0)/\w'.cell? ⟨w.heap.size+2,1,none⟩=some (.int .i64 0)) W4.drew:=⟨c1,b3,cq,d0,z0,z1⟩
   refine qax [0,1,2,3,4,5,6,7,8,9,10] ?_;iterate 11 (refine qa8 rfl hHeld ?_)
   refine qaq ?_;refine qab 11 rfl (by kernel_rfl) (fun K hK=>?_);refine qaf rfl 94 _ _ rfl #[.slice (x.hA q) (x.hL q) (x.hC q),.int .i64 2,.int .i64 p,.int .i64 (cn:Nat)] (by simp [Act.eval]) (yB func94 (by kernel_rfl) rfl) HNw.out ?_;rintro e w1 ⟨rfl,b1⟩;refine ⟨_,rfl,?_⟩;have q1:Bw W4 w1:=(Below.refl W4.heap.size W4).drew.trans b1;obtain ⟨r1,r3,rq,rd,rz0,rz1,rzf⟩:=F4.out w1 q1;have Q1:Hid (Bw w w1):=B4.trans (q1.mono B4.size);refine hK.out _ _ (fun _=>⟨r1,r3,rq,rd,rz0,rz1⟩) ?_;clear hHeld;have hHeld:(fun w'=>w'.cell? (aQ N2 1)=some (.int .i64 q)/\w'.cell? (aQ w.heap.size 3)=some (.slice (some (aQ bh oh)) x.hn x.hc)/\w'.cell? ⟨bh,oh+q,none⟩=some (.slice (x.hA q) (x.hL q) (x.hC q))/\w'.cell? ⟨w.heap.size+1,0,none⟩=some (.int .i64 p)/\w'.cell? ⟨w.heap.size+2,0,none⟩=some (.int .i64 0)/\w'.cell? ⟨w.heap.size+2,1,none⟩=some (.int .i64 0)) w1:=⟨r1,r3,rq,rd,rz0,rz1⟩
   clear b1 q1;clear hK K;refine qbk 12 rfl hHeld ?_;refine qab 13 rfl (by kernel_rfl) (fun K hK=>?_);go_simp;refine hK.out _ _ (fun h=>?_) ?_
   ·exact absurd h (by decide)
   clear hK K
   (try simp only [Act.put,zD,zE,zF])
   refine qab 14 rfl (by kernel_rfl) (fun K hK=>?_);go_simp;refine hK.out _ _ (fun h=>?_) ?_
   ·exact absurd h (by decide)
   clear hK K
   (try simp only [Act.put,zD,zE,zF])
   refine qan (by kernel_rfl) ?_ _;go_wp2;refine bodyPost_ret (v:=.tuple #[.agg #[.int .i64 q,.int .i64 nv],.bool true]) (by simp [results,results79,go_sem,rz0,rz1]) rfl ⟨by rw [HV2.out],?_⟩;exact (Q1.setCell hM2 _).setCell hM2 _
def SpAt (w:World) (b n:Nat) (f:Nat->Int × Int):Prop:=∀ k,k<n->w.cell? ⟨b,k*2,none⟩=some (.int .i64 (f k).1)/\w.cell? ⟨b,k*2+1,none⟩=some (.int .i64 (f k).2)
theorem SpAt.below {w w':World} {b n:Nat} {f:Nat->Int × Int} (h:SpAt w b n f) (hb:b<w.heap.size) (q:Bw w w'):SpAt w' b n f:=fun k hk=>⟨(q.cell (p:=(aQ b _)) hb).trans (h k hk).1,(q.cell (p:=(aQ b _)) hb).trans (h k hk).2⟩
def Sy.Has (y:Sy) (u:Int × Int):Prop:=belB u.1 y.hn=true/\belB u.2 (y.hL u.1.toNat)=true
noncomputable def arB (y:Sy) (n:Nat) (f:Nat->Int × Int):Bool:=y.okB && qB (∀ k,k<n->y.Has (f k))
theorem qqi (x:SysIn) (b n cap:Nat) (f:Nat->Int × Int) (w:World) (hG:SysG w x) (hL:x.Len) (hV:w.cell? (aQ 0 0)=some vT) (hb:b<w.heap.size) (hn:n<=1000) (hS:SpAt w b n f):
  Calls prog 33 #[x.v,.slice (some (aQ b 0)) n cap] w (rB w (.bool (arB x.y n f))):=by
 have HG:Hid (SysG w x):=hG;have HSp:Hid (SpAt w b n f):=hS;have hn':(n:Int)<=1000:=by omega
 have HS:Hid (∀ wx,Bw w wx->Calls prog 9 #[x.v] wx (rB wx (.bool x.y.okB))):=fun wx hb=>qbp x wx (HG.below hb) hL ((hb.cell (p:=⟨0,0,none⟩) (zJ w _ hV)).trans hV);have BW:Hid (Bw w (w.alloc (x.oX))):=zT _ _;have NB:Hid (x.bX (w.alloc (x.oX)) w.heap.size):=BoxC.new w _ _ _ _ _;have HR:Hid (arB x.y n f=(x.y.okB && qB (∀ k,k<n->x.y.Has (f k)))):=rfl;generalize arB x.y n f=R at *;clear hG hL hV hS
 go_enter func33,ntmps33
 go_wp2_with fail
 generalize w.alloc (x.oX)=W2 at *;refine (HS.out W2 BW.out).mono ?_;rintro e w1 ⟨rfl,q1⟩;have B1:Hid (Bw w w1/\x.bX w1 w.heap.size):=⟨BW.trans (q1.mono BW.size),NB.below q1⟩
 clear q1 BW NB HS
 rcases zK x.y.okB with t | t
 case inr=>
  have HV:Hid (R=false):=by
   show R=false;rw [HR.out,t];rfl
  rw [t];clear t;go_wp2;go_ret;rw [HV.out];exact ⟨rfl,B1.1⟩
 have HO:Hid x.y.Ok:=Sy.ok_of t
 have HV:Hid (R=qB (∀ k,k<n->x.y.Has (f k))):=by
  show R=_;rw [HR.out,t];rfl
 have h4:(x.hn:Int)<=4:=by
  have h1:x.pn<=4:=HO.cn.1.2;have h2:x.hn=x.pn:=HO.cn.2.2.1;omega
 have HH : Hid (∀ a, a < x.hn → x.hL a ≤ 200) := fun a ha => HO.hl200 (by
  show a<x.pn;have h2:x.hn=x.pn:=HO.cn.2.2.1
  omega)
 rw [t];clear t HR;go_wp2_with fail
 go_loopw [12] (fun i wr=>∃ k:Nat,k<=n/\i=.int .i64 k/\Hid (Bw w wr/\x.bX wr w.heap.size/\∀ j,j<k->x.y.Has (f j))) (fun i _=>n - (intOf i).toNat)
 case atStart=>exact ⟨0,Nat.zero_le _,rfl,B1.1,B1.2,fun j hj=>by omega⟩
 case round=>
  clear B1;obtain ⟨k,hk,rfl,HK⟩:=hrel;by_cases hlt:k<n
  ·have hlt':(k:Int)<(n:Int):=by omega
   obtain ⟨c0,c1⟩:=HSp.below hb HK.1 k hlt;have HU:Hid (x.y.Has (f k) ↔ (belB (f k).1 x.hn=true/\belB (f k).2 (x.hL (f k).1.toNat)=true)):=Iff.rfl;have BA:Hid (Bw w (wr.alloc (oQ5 (f k).1 (f k).2))/\x.bX (wr.alloc (oQ5 (f k).1 (f k).2)) w.heap.size):=⟨HK.1.trans ((zT _ _).mono HK.1.size),HK.2.1.below (zT _ _)⟩
   have NA:Hid ((wr.alloc (oQ5 (f k).1 (f k).2)).cell? (aQ wr.heap.size 0)=some (.int .i64 (f k).1)/\(wr.alloc (oQ5 (f k).1 (f k).2)).cell? (aQ wr.heap.size 1)=some (.int .i64 (f k).2)):=⟨zW wr _ _ 0 rfl,zW wr _ _ 1 rfl⟩
   generalize (f k).1=P at *;generalize (f k).2=I at *;go_upto_region 6 with fail
   clear c0 c1;generalize hNN:wr.heap.size=NN at *;clear hNN;generalize wr.alloc (oQ5 P I)=W3 at *;have z0:=cell_regrown NA.1;have z1:=cell_regrown NA.2;have z3:=cell_regrown BA.2.2.2.2
   rcases zK (belB P x.hn) with tp | tp
   case inr=>
    have HT:Hid (belB P x.hn=false):=tp
    have HZ:Hid (R=false):=by
     show R=false;rw [HV.out,qat fun h=>by have:=(HU.1 (h k hlt)).1;rw [tp] at this;cases this]
    clear tp;refine wp_region_quiet_below (by kernel_rfl) (by kernel_rfl) ?_;iterate 5 (quiet_step (fail))
    quiet_step (first|(go_at_call 13;exact Calls.regrown_same (isBelow_any P x.hn _)))
    rw [HT.out]
    repeat (first | go_big_quiet_skip | quiet_step (fail))
    refine wpQuiet_nil ?_;intro _ hw';obtain ⟨⟨dq,osq⟩,hw''⟩:=hw';subst hw'';have B3:Hid (Bw w (grow (redrawn W3 dq) osq)):=BA.1.trans ((below_regrown W3 dq osq).mono BA.1.size);generalize grow (redrawn W3 dq) osq=w3 at *;clear z0 z1 z3;go_wp2;go_ret;rw [HZ.out];exact ⟨rfl,B3.out⟩
   have hP:0<=P/\P<(x.hn:Int):=by simpa [belB] using tp
   obtain ⟨a,rfl⟩:∃ a:Nat,P=a:=⟨P.toNat,by omega⟩
   have ha:a<x.hn:=by omega
   have ha':(a:Int)<(x.hn:Int):=by omega
   have hl:(x.hL a:Int)<=200:=by have:=HH.out a ha;omega
   obtain ⟨bh,oh,eh,ca⟩:=(HG.below BA.1).h.at ha;rw [eh] at z3;clear eh;have zc:=cell_regrown ca
   have HB1:Hid (∀ wx,Calls prog 13 #[.int .i64 a,.int .i64 x.hn] wx fun e w'=>e=.returned (.bool true)/\w'=wx):=fun wx=>by
    have:=isBelow_any a x.hn wx;rw [tp] at this;exact this
   have HB2:Hid (∀ wx,Calls prog 13 #[.int .i64 I,.int .i64 (x.hL a)] wx fun e w'=>e=.returned (.bool (belB I (x.hL a)))/\w'=wx):=fun wx=>isBelow_any I (x.hL a) wx
   have HU2:Hid (x.y.Has (f k) ↔ belB I (x.hL a)=true):=by
    show x.y.Has (f k) ↔ _;rw [HU.out,Int.toNat_natCast];exact ⟨fun h=>h.2,fun h=>⟨tp,h⟩⟩
   clear HU tp hP;generalize belB I (x.hL a)=T at *;refine wp_region_quiet_below (by kernel_rfl) (by kernel_rfl) ?_
   repeat (quiet_step (first|(go_at_call_of 13 (x.hn);exact Calls.regrown_same (HB1.out _))|(go_at_call_of 13 (I);exact Calls.regrown_same (HB2.out _))))
   refine wpQuiet_nil ?_;intro _ hw';obtain ⟨⟨dq,osq⟩,hw''⟩:=hw';subst hw'';have B3:Hid (Bw w (grow (redrawn W3 dq) osq)/\x.bX (grow (redrawn W3 dq) osq) w.heap.size):=⟨BA.1.trans ((below_regrown W3 dq osq).mono BA.1.size),BA.2.below (below_regrown W3 dq osq)⟩
   generalize grow (redrawn W3 dq) osq=w3 at *;clear z0 z1 z3 zc NA BA HB1 HB2 ca;cases T with
   | false=>
    have HZ:Hid (R=false):=by
     show R=false;rw [HV.out,qat fun h=>by have:=HU2.1 (h k hlt);cases this]
    go_wp2;go_ret;rw [HZ.out];exact ⟨rfl,B3.1⟩
   | true=>
    have HZ:Hid (∀ j,j<k+1->x.y.Has (f j)):=fun j hj=>by
     by_cases e:j=k
     ·rw [e];exact HU2.2 rfl
     ·exact HK.2.2 j (by omega)
    clear HU2 HK;go_wp2;go_roundw
    case rel=>exact ⟨k+1,by omega,by go_num,B3.1,B3.2,HZ.out⟩
    case measure=>simp [intOf];omega
  ·have HZ:Hid (R=true):=by
    show R=true;rw [HV.out,qay fun j hj=>HK.2.2 j (by omega)]
   have B3:=HK.1;clear HK;go_wp2;go_ret;rw [HZ.out];exact ⟨rfl,B3⟩
section
variable {z:Bool} {e:TypeId} {sz:Nat} {E:TypeId} {w:World} {P:Nat->Prop} {v:Value} {n:Nat} {u:Nat->Value} {L:Nat->Nat} {c:Nat->List Value}
theorem LL.pushP (o:LL z e sz E w P v n u L c) {w1 w2:World} {u' v':Value} (hsz:w.heap.size<=w1.heap.size) (hb:∀ k,P k->k<w.heap.size->w1.heap[k]? = w.heap[k]?) (hu:w1.ownsRow w.heap.size e sz u' (L n) (c n)) (hne:Nz z e->u'≠nS) (hv:w2.ownsRow 0 E 1 v' (n+1) ((List.range n).map u ++ [u'])) (g:w1.grownBy w2 v.ownBlock)
  (hv':∀ j,v'.ownBlock=some j->v.ownBlock=some j\/w1.heap.size<=j) {P':Nat->Prop} (hP:∀ k,P k->k<w.heap.size->P' k) (hPu:∀ k,u'.ownBlock=some k->P' k) (hPv:∀ k,w1.heap.size<=k->v'.ownBlock=some k->P' k):LL z e sz E w2 P' v' (n+1) (fun j=>if j=n then u' else u j) L c:=by
 have hvlt:∀ k,v.ownBlock=some k->k<w.heap.size:=fun k hk=>(o.row.lt k hk).2
 have hu2 : w2.ownsRow w.heap.size e sz u' (L n) (c n) := hu.kept g (by
  cases hk:u'.ownBlock with
  | none=>exact .inl rfl
  | some k=>
   refine .inr fun e=>?_;have q1:=(hu.lt k hk).1;have q2:=hvlt k e.symm
   omega)
 have ho2:∀ i,i<n->w2.ownsRow 0 e sz (u i) (L i) (c i):=fun i hi=>qav (o.own i hi) fun k hk=>(g.block k (zL ((o.own i hi).lt k hk).2 hsz) fun e=>o.ra i hi k hk e.symm).trans (hb k (o.ob i hi k hk) ((o.own i hi).lt k hk).2);have lts:∀ i,i<n->∀ k,(u i).ownBlock=some k->k<w.heap.size:=fun i hi k hk=>((o.own i hi).lt k hk).2;refine ⟨?_,fun i hi=>?_,fun k hk=>?_,fun i hi k hk=>?_,fun i hi k hk=>?_,fun i j hi hj hij k hk=>?_,fun hz i hi=>?_⟩
 ·have e:(List.range (n+1)).map (fun j=>if j=n then u' else u j)=(List.range n).map u ++ [u']:=by
   rw [List.range_succ,List.map_append];simp only [List.map_cons,List.map_nil,if_true]
   congr 1
   exact List.map_congr_left fun j hj=>by
    rw [if_neg];have:=List.mem_range.1 hj;omega
  rw [e];exact hv
 ·by_cases ei:i=n
  ·subst ei
   rw [if_pos rfl];exact qcs hu2
  ·rw [if_neg ei]
   exact ho2 i (by omega)
 ·rcases hv' k hk with h | h
  ·exact hP k (o.rb k h) (hvlt k h)
  ·exact hPv k h hk
 ·by_cases ei:i=n
  ·simp only [if_pos ei] at hk
   exact hPu k hk
  ·simp only [if_neg ei] at hk
   exact hP k (o.ob i (by omega) k hk) (lts i (by omega) k hk)
 ·intro hvk
  by_cases ei:i=n
  ·simp only [if_pos ei] at hk
   rcases hv' k hvk with h | h
   ·have:=hvlt k h
    have:=(hu.lt k hk).1;omega
   ·have:=(hu.lt k hk).2
    omega
  ·simp only [if_neg ei] at hk
   rcases hv' k hvk with h | h
   ·exact o.ra i (by omega) k hk h
   ·have:=lts i (by omega) k hk
    omega
 ·intro hjk
  by_cases ei:i=n
  ·have ej:j≠n:=fun e=>hij (by omega)
   simp only [if_pos ei] at hk;simp only [if_neg ej] at hjk;have:=lts j (by omega) k hjk;have:=(hu.lt k hk).1;omega
  ·simp only [if_neg ei] at hk
   by_cases ej:j=n
   ·simp only [if_pos ej] at hjk
    have:=lts i (by omega) k hk;have:=(hu.lt k hjk).1;omega
   ·simp only [if_neg ej] at hjk
    exact o.oa i j (by omega) (by omega) hij k hk hjk
 ·by_cases ei:i=n
  ·rw [if_pos ei]
   exact hne hz
  ·rw [if_neg ei]
   exact o.nn hz i (by omega)
end
section
variable {w:World} {P:Nat->Prop} {v:Value} {n:Nat} {vs:Nat->Value} {S:Nat->S4}
theorem LS.pushP (o:LS w P v n vs S) {w1 w2:World} {u' v':Value} (hsz:w.heap.size<=w1.heap.size) (hb:∀ k,P k->k<w.heap.size->w1.heap[k]? = w.heap[k]?) (hu:qae w1 w.heap.size u' (S n).p (S n).rs (S n).os (S n).c) (hv:w2.ownsRow 0 73 4 v' (n+1) (flat (fun i=>cellsL (vs i)) n ++ cellsL u')) (g:w1.grownBy w2 v.ownBlock)
  (hv':∀ j,v'.ownBlock=some j->v.ownBlock=some j\/w1.heap.size<=j) {P':Nat->Prop} (hP:∀ k,P k->k<w.heap.size->P' k) (hPu:∀ k,qam u' k->P' k) (hPv:∀ k,w1.heap.size<=k->v'.ownBlock=some k->P' k):LS w2 P' v' (n+1) (fun j=>if j=n then u' else vs j) S:=by
 have hvlt:∀ k,v.ownBlock=some k->k<w.heap.size:=fun k hk=>(o.row.lt k hk).2;have lts:∀ i,i<n->∀ k,qam (vs i) k->k<w.heap.size:=fun i hi k hk=>((o.own i hi).lt hk).2
 have hu2:qae w2 w.heap.size u' (S n).p (S n).rs (S n).os (S n).c:=hu.blk fun k hk=>g.block k (hu.lt hk).2 fun e=>by
  have q1:=(hu.lt hk).1;have q2:=hvlt k e.symm;omega
 have ho2:∀ i,i<n->qae w2 0 (vs i) (S i).p (S i).rs (S i).os (S i).c:=fun i hi=>(o.own i hi).blk fun k hk=>(g.block k (zL (lts i hi k hk) hsz) fun e=>o.ra i hi k hk e.symm).trans (hb k (o.ob i hi k hk) (lts i hi k hk));refine ⟨?_,fun i hi=>?_,fun k hk=>?_,fun i hi k hk=>?_,fun i hi k hk=>?_,fun i j hi hj hij k hk=>?_⟩
 ·have e:flat (fun i=>cellsL (if i=n then u' else vs i)) (n+1)=flat (fun i=>cellsL (vs i)) n ++ cellsL u':=by
   rw [flat,if_pos rfl]
   congr 1
   exact qcw fun i hi=>by rw [if_neg (by omega)]
  rw [e];exact hv
 ·by_cases ei:i=n
  ·subst ei
   simp only [if_true];exact hu2.mono (Nat.zero_le _)
  ·simp only [if_neg ei]
   exact ho2 i (by omega)
 ·rcases hv' k hk with h | h
  ·exact hP k (o.rb k h) (hvlt k h)
  ·exact hPv k h hk
 ·by_cases ei:i=n
  ·simp only [if_pos ei] at hk
   exact hPu k hk
  ·simp only [if_neg ei] at hk
   exact hP k (o.ob i (by omega) k hk) (lts i (by omega) k hk)
 ·intro hvk
  by_cases ei:i=n
  ·simp only [if_pos ei] at hk
   rcases hv' k hvk with h | h
   ·have:=hvlt k h
    have:=(hu.lt hk).1;omega
   ·have:=(hu.lt hk).2
    omega
  ·simp only [if_neg ei] at hk
   rcases hv' k hvk with h | h
   ·exact o.ra i (by omega) k hk h
   ·have:=lts i (by omega) k hk
    omega
 ·intro hjk
  by_cases ei:i=n
  ·have ej:j≠n:=fun e=>hij (by omega)
   simp only [if_pos ei] at hk;simp only [if_neg ej] at hjk;have:=lts j (by omega) k hjk;have:=(hu.lt hk).1;omega
  ·simp only [if_neg ei] at hk
   by_cases ej:j=n
   ·simp only [if_pos ej] at hjk
    have:=lts i (by omega) k hk;have:=(hu.lt hjk).1;omega
   ·simp only [if_neg ej] at hjk
    exact o.oa i j (by omega) (by omega) hij k hk hjk
end
section
variable {z:Bool} {B N:Nat} {c:Nat->Nat} {y:Sy} {wr:World} {vp vs vw vh:Value} {up us uw uh:Nat->Value}
theorem AtP.both (h:AtP z B N c y wr vp vs vw vh up us uw uh) {w1 w2 w3 w4:World} {ue ust v3 v4:Value} (b1:Bw wr w1) (hue:w1.ownsRow wr.heap.size 83 3 ue (y.hL y.hn) (fE (y.hH y.hn) (y.hL y.hn))) (hne:ue≠nS) (b2:Bw w1 w2) (hst:qae w2 w1.heap.size ust (y.sS y.sn).p (y.sS y.sn).rs (y.sS y.sn).os (y.sS y.sn).c)
  (hv3:w3.ownsRow 0 36 1 v3 (y.hn+1) ((List.range y.hn).map uh ++ [ue])) (g3:w2.grownBy w3 vh.ownBlock) (hv3':∀ j,v3.ownBlock=some j->vh.ownBlock=some j\/w2.heap.size<=j)
  (hv4:w4.ownsRow 0 73 4 v4 (y.sn+1) (flat (fun i=>cellsL (us i)) y.sn ++ cellsL ust)) (g4:(w3.setCell ⟨N,3,none⟩ v3).grownBy w4 vs.ownBlock) (hv4':∀ j,v4.ownBlock=some j->vs.ownBlock=some j\/(w3.setCell ⟨N,3,none⟩ v3).heap.size<=j):
  ∃ c',AtP z B N c' { y with sn:=y.sn+1,hn:=y.hn+1 } (w4.setCell (aQ N 1) v4) vp v4 vw v3 up (fun j=>if j=y.sn then ust else us j) uw (fun j=>if j=y.hn then ue else uh j):=by
 have hN:=h.lt;have hBN:=h.bN;have s1:=b1.size;have s2:=b2.size;have s3:=g3.size;have s4:=g4.size;have s3':(w3.setCell (aQ N 3) v3).heap.size=w3.heap.size:=by simp
 rw [s3'] at s4;obtain ⟨q,hq⟩:∃ q:Nat->Nat,q=fun k=>if k<wr.heap.size then c k else if k<w1.heap.size then 4 else if k<w2.heap.size then 2 else if k<w3.heap.size then 4 else 2:=⟨_,rfl⟩
 have q0:∀ k,k<wr.heap.size->q k=c k:=fun k hk=>by rw [hq];exact if_pos hk
 have q1:∀ k,wr.heap.size<=k->k<w1.heap.size->q k=4:=fun k h1 h2=>by rw [hq];dsimp only;rw [if_neg (by omega),if_pos h2]
 have q2:∀ k,w1.heap.size<=k->k<w2.heap.size->q k=2:=fun k h1 h2=>by rw [hq];dsimp only;rw [if_neg (by omega),if_neg (by omega),if_pos h2]
 have q3:∀ k,w2.heap.size<=k->k<w3.heap.size->q k=4:=fun k h1 h2=>by rw [hq];dsimp only;rw [if_neg (by omega),if_neg (by omega),if_neg (by omega),if_pos h2]
 have q4:∀ k,w3.heap.size<=k->q k=2:=fun k h1=>by rw [hq];dsimp only;rw [if_neg (by omega),if_neg (by omega),if_neg (by omega),if_neg (by omega)]
 clear hq;have qN:q N=0:=(q0 N hN).trans h.cN;have vhc:∀ k,vh.ownBlock=some k->k<wr.heap.size/\c k=4:=fun k hk=>⟨(h.o.h.row.lt k hk).2,(h.o.h.rb k hk).2⟩
 have vsc:∀ k,vs.ownBlock=some k->k<wr.heap.size/\c k=2:=fun k hk=>⟨(h.o.s.row.lt k hk).2,(h.o.s.rb k hk).2⟩
 have e12:∀ k,k<wr.heap.size->w2.heap[k]? = wr.heap[k]?:=fun k hk=>(b2.block k (by omega)).trans (b1.block k hk);have e3:∀ k,k<w2.heap.size->q k≠4->k≠N->(w3.setCell ⟨N,3,none⟩ v3).heap[k]? = w2.heap[k]?:=fun k hk hc hn=>(zO _ _ _ _ hn).trans (g3.block k hk fun e=>hc (by rw [q0 k (vhc k e.symm).1];exact (vhc k e.symm).2));have e4:∀ k,k<w3.heap.size->q k≠2->k≠N->(w4.setCell ⟨N,1,none⟩ v4).heap[k]? = (w3.setCell ⟨N,3,none⟩ v3).heap[k]?:=fun k hk hc hn=>(zO _ _ _ _ hn).trans (g4.block k (by rw [s3'];exact hk) fun e=>hc (by rw [q0 k (vsc k e.symm).1];exact (vsc k e.symm).2));have hP:∀ i k,Cl B c i k->k<wr.heap.size->Cl B q i k:=fun i k hk hl=>⟨hk.1,(q0 k hl).trans hk.2⟩
 have hnN:∀ i k,i≠0->Cl B q i k->k≠N:=fun i k hi hk e=>hi (by rw [<- hk.2,e,qN]);have eN2:w2.heap[N]? = wr.heap[N]?:=e12 N hN
 have eN3 : w3.heap[N]? = wr.heap[N]? := (g3.block N (by omega) fun e => by
  have:=(vhc N e.symm).2;rw [h.cN] at this
  cases this).trans eN2
 have eN4:w4.heap[N]? = (w3.setCell (aQ N 3) v3).heap[N]?:=g4.block N (by rw [s3'];omega) fun e=>by
  have:=(vsc N e.symm).2;rw [h.cN] at this;cases this
 obtain ⟨x0,x1,x2,x3⟩:=h.bx;have c3:∀ j,w3.cell? ⟨N,j,none⟩=wr.cell? ⟨N,j,none⟩:=fun j=>zH eN3;have c4:∀ j,w4.cell? ⟨N,j,none⟩=(w3.setCell ⟨N,3,none⟩ v3).cell? ⟨N,j,none⟩:=fun j=>zH eN4;have hkk:∀ i,i≠0->i≠2->i≠4->∀ k,Cl B q i k->k<wr.heap.size->(w4.setCell ⟨N,1,none⟩ v4).heap[k]? = wr.heap[k]?:=fun i h0 h2 h4 k hk hl=>((e4 k (by omega) (by rw [hk.2];exact h2) (hnN i k h0 hk)).trans (e3 k (by omega) (by rw [hk.2];exact h4) (hnN i k h0 hk))).trans (e12 k hl);refine ⟨q,⟨?_,?_,?_,?_⟩,fun j=>?_,qN,hBN,⟨?_,?_,?_,?_⟩⟩
 ·rw [World.cell?_setCell_other _ _ _ _ (by simp),c4,World.cell?_setCell_other _ _ _ _ (by simp),c3];exact x0
 ·exact World.cell?_setCell_same _ _ _ (((c4 1).trans ((World.cell?_setCell_other _ _ _ _ (by simp)).trans (c3 1))).trans x1)
 ·rw [World.cell?_setCell_other _ _ _ _ (by simp),c4,World.cell?_setCell_other _ _ _ _ (by simp),c3];exact x2
 ·rw [World.cell?_setCell_other _ _ _ _ (by simp),c4];exact World.cell?_setCell_same _ _ _ ((c3 3).trans x3)
 ·rw [World.frozen?_setCell,zI eN4,World.frozen?_setCell,zI eN3];exact h.fr j
 ·exact (h.o.p.mono (hP 1)).keep (hkk 1 (by decide) (by decide) (by decide))
 ·have hs':qae (w3.setCell (aQ N 3) v3) wr.heap.size ust (y.sS y.sn).p (y.sS y.sn).rs (y.sS y.sn).os (y.sS y.sn).c:=(hst.mono s1).blk fun k hk=>by
   have hl:=hst.lt hk;exact e3 k hl.2 (by rw [q2 k hl.1 hl.2];decide) (by omega)
  refine (h.o.s.pushP (w1:=w3.setCell (aQ N 3) v3) (w2:=w4) (P':=Cl B q 2) (by omega) (fun k hk hl=>?_) hs' hv4 g4 hv4' (hP 2) (fun k hk=>?_) (fun k h1 hk=>?_)).keep fun k hk _=>zO _ _ _ _ (hnN 2 k (by decide) hk)
  ·exact (e3 k (by omega) (by rw [(hP 2 k hk hl).2];decide) (hnN 2 k (by decide) (hP 2 k hk hl))).trans (e12 k hl)
  ·have hl:=hst.lt hk
   exact ⟨by omega,q2 k hl.1 hl.2⟩
  ·exact ⟨by omega,q4 k (by omega)⟩
 ·exact (h.o.t.mono (hP 3)).keep (hkk 3 (by decide) (by decide) (by decide))
 ·have hue2:w2.ownsRow wr.heap.size 83 3 ue (y.hL y.hn) (fE (y.hH y.hn) (y.hL y.hn)):=qav hue fun k hk=>b2.block k (hue.lt k hk).2
  refine (h.o.h.pushP (w1:=w2) (w2:=w3) (P':=Cl B q 4) (by omega) (fun k _ hl=>e12 k hl) hue2 (fun _=>hne) hv3 g3 hv3' (hP 4) (fun k hk=>?_) (fun k h1 hk=>?_)).keep fun k hk hl=>(e4 k hl (by rw [hk.2];decide) (hnN 4 k (by decide) hk)).trans (zO _ _ _ _ (hnN 4 k (by decide) hk))
  ·have hl:=hue.lt k hk
   exact ⟨by omega,q1 k hl.1 hl.2⟩
  ·exact ⟨by omega,q3 k h1 (hv3.lt k hk).2⟩
theorem AtP.putW {g cap:Nat} (h:AtP z B N c y wr vp vs (sG g y.wn cap) vh up us uw uh) {i:Nat} (hi:i<y.wn) {w1:World} {u':Value} {m:Nat} {H':Nat->I2} (hs:wr.heap.size<=w1.heap.size) (g1:∀ k,k<wr.heap.size->(uw i).ownBlock≠some k->w1.heap[k]? = wr.heap[k]?)
  (hu:w1.ownsRow 0 80 2 u' m (fT H' m)) (hne:u'≠nS) (hb:∀ k,u'.ownBlock=some k->(uw i).ownBlock=some k\/wr.heap.size<=k):
  AtP z B N (rcol c wr.heap.size 3) (y.setW i m H') (w1.setCell (aQ g i) u') vp vs (sG g y.wn cap) vh up us (fun j=>if j=i then u' else uw j) uh:=by
 have hN:=h.lt;have hgc:c g=3:=(h.o.t.rb g rfl).2;have hgN:N≠g:=fun e=>by rw [<- e,h.cN] at hgc;cases hgc
 have eN : (w1.setCell ⟨g, i, none⟩ u').heap[N]? = wr.heap[N]? := (Below.heap_setCell _ _ _ _ hgN).trans (g1 N hN fun e => by
  have:=(h.o.t.ob i hi N e).2;rw [h.cN] at this
  cases this)
 obtain ⟨x0,x1,x2,x3⟩:=h.bx;exact ⟨⟨(zH eN).trans x0,(zH eN).trans x1,(zH eN).trans x2,(zH eN).trans x3⟩,fun j=>(zI eN).trans (h.fr j),(qa1 hN).trans h.cN,h.bN,h.o.putW hi (zP h.bN (Nat.le_of_lt hN)) hs g1 hu hne hb⟩
end
theorem BoxC.blkA {w w':World} {N:Nat} {p vr vo code:Value} (h:BoxC w N p vr vo code) (hb:w'.heap[N]? = w.heap[N]?):BoxC w' N p vr vo code:=by
 obtain ⟨h0,h1,h2,h3⟩:=h;exact ⟨(zH hb).trans h0,(zH hb).trans h1,(zH hb).trans h2,(zH hb).trans h3⟩
theorem AtP.startM {W1 w:World} {n:Nat} {L:Nat->Nat} {H:Nat->Nat->I5} {v1 v2 v3 v4:Value} (h:NwF W1 n L H true true false true v1 v2 v3 v4 w) (S:Nat->S4) (wH:Nat->Nat->I2) (d:Nat->Nat) (hH:Nat->Nat->E3):
  ∃ N c up,v4=.pointer (some ⟨N,0,none⟩)/\N<w.heap.size/\BoxC w N nS nS nS nS/\(∀ j,w.frozen? ⟨N,j,none⟩=false)/\W1.heap.size<=N/\AtP false W1.heap.size N c ⟨n,L,H,0,S,n*n,fun _=>0,wH,0,d,hH⟩ ((((w.setCell ⟨N,0,none⟩ v1).setCell ⟨N,1,none⟩ nS).setCell ⟨N,2,none⟩ v2).setCell ⟨N,3,none⟩ nS) v1 nS v2 nS up (fun _=>.slice none 0 0) (fun _=>.slice none 0 0) (fun _=>.slice none 0 0):=by
 obtain ⟨k,h1,h2,-,h4⟩:=h.ow;obtain ⟨N,e,hN,bx,fr,cN⟩:=h4 rfl;obtain ⟨u,o⟩:=h1 rfl;have hl:=zJ w _ bx.1
 have hk:∀ i,i≠0->∀ j,Cl W1.heap.size k i j->j<w.heap.size->((((w.setCell ⟨N,0,none⟩ v1).setCell ⟨N,1,none⟩ nS).setCell ⟨N,2,none⟩ v2).setCell ⟨N,3,none⟩ nS).heap[j]? = w.heap[j]?:=fun i hi j hj _=>by
  have hne:j≠N:=fun e=>hi (by rw [<- hj.2,e,cN]);exact (zO _ _ _ _ hne).trans ((zO _ _ _ _ hne).trans ((zO _ _ _ _ hne).trans (zO _ _ _ _ hne)))
 obtain ⟨g0,g1,g2,g3⟩:=id bx;exact ⟨N,k,u,e,hl,bx,fr,hN,BoxC.set4 ⟨g0,g1,g2,g3⟩ _ _ _ _,fun j=>by simp only [World.frozen?_setCell];exact fr j,cN,hN,⟨(o.keep (hk 1 (by decide))).weak,LS.nil _ _ _ _,((h2 rfl).keep (hk 3 (by decide))).ll (by decide) _ (fun _=>rfl),LL.nil _ _ _ _ _ _ _ _⟩⟩
