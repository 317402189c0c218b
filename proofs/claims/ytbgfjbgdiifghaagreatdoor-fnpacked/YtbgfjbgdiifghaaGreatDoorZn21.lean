import Derived.Test.YtbgfjbgdiifghaaGreatDoorZn19
import Derived.Test.YtbgfjbgdiifghaaGreatDoorZn20
namespace Go.Proofs.YtbgfjbgdiifghaaGreatDoor
open Go.Proofs.Tryz
set_option maxRecDepth 100000
set_option maxHeartbeats 8000000
open Go.ChangeShapes Go.WideShapes Go.ChangeAt Go.RowKit Go.Deep
noncomputable def nwN (n:Nat) (L:Nat->Nat) (H:Nat->Nat->I5):Nat:=if snB n L H=true then n else 0
def NwR (w:World) (n:Nat) (L:Nat->Nat) (H:Nat->Nat->I5) (e:Ending) (w':World):Prop:=∃ pa pc sa sc wa wc ha hc,e=.returned (.tuple #[sysV pa (nwN n L H) pc sa (nwN n L H) sc wa (nwN n L H*nwN n L H) wc ha (nwN n L H) hc,.bool (snB n L H)])/\Own1 w' w.heap.size w'.heap.size (nwN n L H) L H (.slice pa (nwN n L H) pc) (.slice sa (nwN n L H) sc) (.slice wa (nwN n L H*nwN n L H) wc) (.slice ha (nwN n L H) hc)/\Bw w w'
theorem NwR.yes {w w':World} {n:Nat} {L:Nat->Nat} {H:Nat->Nat->I5} {pa sa wa ha:Option Addr} {pc sc wc hc:Nat} (h:snB n L H=true) (o:Own1 w' w.heap.size w'.heap.size n L H (.slice pa n pc) (.slice sa n sc) (.slice wa (n*n) wc) (.slice ha n hc)) (b:Bw w w'):NwR w n L H (.returned (.tuple #[sysV pa n pc sa n sc wa (n*n) wc ha n hc,.bool true])) w':=by
 have e:nwN n L H=n:=nC h;refine ⟨pa,pc,sa,sc,wa,wc,ha,hc,?_,?_,b⟩
 ·rw [e,h]
 ·rw [e]
  exact o
theorem NwR.no {w w':World} {n:Nat} {L:Nat->Nat} {H:Nat->Nat->I5} (h:snB n L H=false) (b:Bw w w'):NwR w n L H (.returned (.tuple #[sysV none 0 0 none 0 0 none 0 0 none 0 0,.bool false])) w':=by
 have e:nwN n L H=0:=nB (by rw [h];decide);refine ⟨none,0,none,0,none,0,none,0,?_,?_,b⟩
 ·rw [e,h]
 ·rw [e]
  exact Own1.zero _ _ _ _ _
theorem qfb (pa:Option Addr) (n pc:Nat) (A:Nat->Option Addr) (L C:Nat->Nat) (H:Nat->Nat->I5) (w:World) (hn:n<=1048576) (hL:∀ i,i<n->L i<=1048576) (hr:RowS w pa n fun i=>.slice (A i) (L i) (C i)) (hI:∀ i,i<n->Src w (A i) (fI (H i) (L i))):
  Calls prog 34 #[.slice pa n pc] w (NwR w n L H):=by
 have hn':(n:Int)<=1048576:=by omega
 have HP:Hid (∀ wx,Bw w wx->Calls prog 69 #[.slice pa n pc] wx fun e w'=>∃ v u,e=.returned v/\LI true w' (fun k=>wx.heap.size<=k/\k<w'.heap.size) v n u L H/\Bw wx w'):=fun wx hb=>qfx pa n pc A L C H wx hn hL (hr.bw hb) fun i hi=>(hI i hi).bw hb;have HL:Hid (∀ i,i<n->L i<=1048576):=hL;have BW:Hid (Bw w (w.alloc (zQ3))):=zQ _ _;have RB:Hid (BoxC (w.alloc (zQ3)) w.heap.size nS nS nS nS/\∀ j,(w.alloc (zQ3)).frozen? ⟨w.heap.size,j,none⟩=false):=⟨BoxC.new w _ _ _ _ _,fun j=>yB _ _ _ _ rfl⟩
 have hM:w.heap.size<=w.heap.size:=nA _;clear hL hr hI;by_cases h4:n<=4
 case neg=>
  have h4':(4:Int)<(n:Int):=by omega
  have HV:Hid (snB n L H=false):=by
   show snB n L H=false;rw [snB,decide_eq_false h4];rfl
  go_enter func34,ntmps34
  go_upto_region 1 with fail
  generalize w.alloc (zQ3)=W1 at *;obtain ⟨⟨r0,r1,r2,r3⟩,rf⟩:=RB.out;go_wp2;exact bodyPost_ret (v:=.tuple #[sysV none 0 0 none 0 0 none 0 0 none 0 0,.bool false]) (by simp [results,results34,go_sem,r0,r1,r2,r3]) rfl (NwR.no HV.out ((((BW.setCell hM _).setCell hM _).setCell hM _).setCell hM _))
 have h4':¬ (4:Int)<(n:Int):=by omega
 obtain ⟨NN,hNN⟩:∃ NN,NN=n*n:=⟨_,rfl⟩
 have HNN:Hid (NN=n*n):=hNN;have hm0:(n:Int)*(n:Int)=(NN:Int):=by rw [hNN];simp
 have h16:NN<=16:=by rw [hNN];exact zP (Nat.mul_le_mul h4 h4) (by omega)
 have h16':(NN:Int)<=16:=by omega
 have hn4:(n:Int)<=4:=by omega
 clear hNN
 go_enter func34,ntmps34
 go_upto_region 4 with fail
 have z1:w.heap.size<(w.alloc (zQ3)).heap.size:=by simp
 generalize w.alloc (zQ3)=W1 at *;have F0:Hid (NwF W1 n L H false false false false undef undef undef undef W1.drew):=⟨(nE _ _).drew,fun _=>0,(fun e=>by cases e),(fun e=>by cases e),(fun e=>by cases e),(fun e=>by cases e)⟩
 refine qag (fun _=>True) (fun _=>false) (by kernel_rfl) ?_;refine qbb [0,2,3] ?_;iterate 3 (refine qbr rfl trivial ?_)
 refine qa2 ?_;refine qch 4 rfl trivial ⟨iV (NN:Int),fun wq _=>?_,?_⟩
 ·go_simp
  rw [IntKind.wrap_i64];omega
 refine qar 6 rfl trivial ?_;refine qpz 6 #[true,false,true,true,true,false,true,false,false,false,false] (by kernel_rfl) (by kernel_rfl) ?_;refine qv4 (fun a b c d e=>#[true,a,true,true,true,b,true,c,e,d,false]) 1 5 7 9 8 (fun a b c d x wq=>∃ v1 v2 v3 v4,x=⟨#[.slice pa n pc,undef,.pointer (some (aQ w.heap.size 0)),.bool false,iV n,v4,undef,.slice pa n pc,iV n,iV n,.bool false,undef,.slice pa n pc,v1,iV n,iV n,iV NN,v2,iV n,v3,undef,undef,undef,undef,undef,undef,undef,undef,undef,undef,undef,undef,undef,undef,undef,undef,undef],[]⟩/\NwF W1 n L H a b c d v1 v2 v3 v4 wq) (fun d x wq=>∃ a1 c1 a2 c2 a3 c3 v4,x=⟨#[.slice pa n pc,undef,.pointer (some (aQ w.heap.size 0)),.bool false,iV n,v4,undef,.slice pa n pc,iV n,iV n,.bool false,undef,.slice pa n pc,.slice a1 n c1,iV n,iV n,iV NN,.slice a2 (n*n) c2,iV n,.slice a3 n c3,.agg #[.slice a1 n c1,nS,.slice a2 (n*n) c2,.slice a3 n c3],undef,undef,undef,undef,undef,undef,undef,undef,undef,undef,undef,undef,undef,undef,undef,undef],[]⟩/\NwF W1 n L H true true true d (.slice a1 n c1) (.slice a2 (n*n) c2) (.slice a3 n c3) v4 wq) (f0:=1) ?_ (fun _ _ _=>rfl) (fun _ _ _=>rfl) (fun _ _ _=>rfl) (fun _ _ _ _=>rfl) (fun _=>rfl) rfl (by kernel_rfl) (fun d=>by cases d <;> kernel_rfl) (fun d=>by cases d <;> kernel_rfl) (by kernel_rfl) (fun _ _ _ _ h=>h) ?_ ?_ ?_ ?_ ?_ ?_ ?_ 4 false false false false _ _ rfl ⟨_,_,_,_,rfl,F0.out⟩
 ·intro a b c d h
  cases a <;> cases b <;> cases c <;> cases d <;> first | exact absurd h (by decide) | kernel_rfl
 ·rintro b c d x wq ⟨v1,v2,v3,v4,rfl,F⟩
  refine wpOp_step rfl fun K hK=>?_;refine qat rfl 69 _ _ rfl #[.slice pa n pc] (by simp [Act.eval]) (yA func69) (HP.out wq (BW.trans (F.be.mono BW.size))) ?_;rintro e w5 ⟨v5,u5,rfl,o5,d5⟩;exact ⟨_,rfl,hK _ _ ⟨fun _ _=>trivial,v5,v2,v3,v4,rfl,F.one o5 d5⟩⟩
 ·rintro a c d x wq ⟨v1,v2,v3,v4,rfl,F⟩
  have hmk:=qdw quz qsq NN (by omega) wq;refine wpOp_step rfl fun K hK=>?_;go_simp;refine hK _ _ ⟨fun _ _=>trivial,v1,.slice (some (aQ wq.heap.size 0)) NN NN,v3,v4,rfl,?_⟩;rw [HNN.out];exact F.two (by rw [<- HNN.out];omega)
 ·rintro a b d x wq ⟨v1,v2,v3,v4,rfl,F⟩
  have hmk:=qdw qqj qu3 n (by omega) wq;refine wpOp_step rfl fun K hK=>?_;go_simp;exact hK _ _ ⟨fun _ _=>trivial,v1,v2,.slice (some (aQ wq.heap.size 0)) n n,v4,rfl,F.three (by omega)⟩
 ·rintro a b c x wq ⟨v1,v2,v3,v4,rfl,F⟩
  refine wpOp_step rfl fun K hK=>?_;go_simp;exact hK _ _ ⟨fun _ _=>trivial,v1,v2,v3,.pointer (some (aQ wq.heap.size 0)),rfl,F.four⟩
 ·rintro d x wq ⟨v1,v2,v3,v4,rfl,F⟩
  obtain ⟨k,h1,h2,h3,-⟩:=F.ow;obtain ⟨u,o1⟩:=h1 rfl;obtain ⟨a1,c1,rfl⟩:=zU o1.row;obtain ⟨a2,c2,rfl⟩:=zU (h2 rfl).row;obtain ⟨a3,c3,rfl⟩:=zU (h3 rfl).row;refine ⟨rfl,.agg #[.slice a1 n c1,nS,.slice a2 (n*n) c2,.slice a3 n c3],fun wz=>?_,a1,c1,a2,c2,a3,c3,v4,rfl,F⟩;go_simp
 ·rintro x wq ⟨a1,c1,a2,c2,a3,c3,v4,rfl,F⟩
  refine wpOp_step rfl fun K hK=>?_;go_simp;exact hK _ _ ⟨fun _ _=>trivial,a1,c1,a2,c2,a3,c3,.pointer (some (aQ wq.heap.size 0)),rfl,F.four⟩
 rintro x w4 ⟨a1,c1,a2,c2,a3,c3,v4,rfl,F⟩;clear F0;obtain ⟨N,c,up,us,rfl,nl,⟨g0,g1,g2,g3⟩,gf,ns⟩:=NwS.start F rfl (.inr trivial);refine yW 10 rfl fun K hK=>?_;go_simp;refine hK.out _ _ (fun _=>trivial) ?_;clear hK K
 (try simp only [zD,zE,zF])
 refine yX ?_ _;have NS0:Hid (NwS W1 N n L H true 0 ((((w4.setCell (aQ N 0) (.slice a1 n c1)).setCell (aQ N 1) nS).setCell (aQ N 2) (.slice a2 (n*n) c2)).setCell (aQ N 3) (.slice a3 n c3)) (.slice a1 n c1) nS (.slice a2 (n*n) c2) (.slice a3 n c3) c up us):=ns;clear ns g0 g1 g2 g3 gf nl F;go_upto_region 5 with fail
 generalize ((((w4.setCell (aQ N 0) (.slice a1 n c1)).setCell (aQ N 1) nS).setCell (aQ N 2) (.slice a2 (n*n) c2)).setCell (aQ N 3) (.slice a3 n c3))=W5 at *;go_wp2_with fail
 go_loopw [6] (fun i wr=>∃ k:Nat,k<=n/\i=.int .i64 k/\Hid (∃ vs c up us,NwS W1 N n L H true k wr (.slice a1 n c1) vs (.slice a2 (n*n) c2) (.slice a3 n c3) c up us)) (fun i _=>n - (intOf i).toNat)
 case atStart=>exact ⟨0,nD _,rfl,_,_,_,_,NS0.out⟩
 case round=>
  clear NS0 c up us;obtain ⟨k,hk,rfl,HK⟩:=hrel;obtain ⟨vs,c,up,us,ns⟩:=HK.out;have NS:Hid (NwS W1 N n L H true k wr (.slice a1 n c1) vs (.slice a2 (n*n) c2) (.slice a3 n c3) c up us):=ns;clear ns HK;by_cases hlt:k<n
  ·have hlt':(k:Int)<(n:Int):=by omega
   go_wp2_with fail
   obtain ⟨x0,x1,x2,x3⟩:=NS.bx;have xf:=NS.fr;obtain ⟨sa,sc,rfl⟩:=zU NS.s.row;have nl:=NS.lt;refine qag (fun w'=>w'.cell? (aQ N 1)=some (.slice sa k sc)) (fun i=>i == 6) (by kernel_rfl) ?_;have hHeld:(fun w':World=>w'.cell? (aQ N 1)=some (.slice sa k sc)) wr.drew:=x1;refine qar 0 rfl hHeld ?_;refine qar 1 rfl hHeld ?_;refine yW 2 rfl fun K hK=>?_;refine qat rfl 70 _ _ rfl #[] (by simp) (yA func70) (qd0 wr.drew) ?_;rintro e w5 ⟨u5,rfl,o5,d5⟩;refine ⟨_,rfl,?_⟩;obtain ⟨ra5,rc5,oa5,oc5,rfl,-,-⟩:=o5.read;have q5:Bw wr w5:=(nE wr.heap.size wr).drew.trans d5;have hc5:=(qal q5).1;refine hK.out _ _ (fun _=>(hc5 _ _ nl).trans x1) ?_;clear hK K
   (try simp only [Act.put,zD,zE,zF])
   refine yW 3 rfl fun K hK=>?_;go_simp;have ba:=zQ w5 (oQ0 0 ra5 4 rc5 oa5 0 oc5 0);refine hK.out _ _ (fun _=>((ba.cell (p:=(aQ N 1)) (zL nl q5.size)).trans ((hc5 _ _ nl).trans x1))) ?_;clear ba;clear hK K
   (try simp only [Act.put,zD,zE,zF])
   refine yW 4 rfl fun K hK=>?_;refine qa1 kndS w5 rfl rfl _ _ rfl 0 (.slice sa k sc) k _ rfl (NS.s.bw q5).row #[.int .i64 0,.slice ra5 4 rc5,.slice oa5 0 oc5,.int .i64 0] rfl rfl (by intro u hu;simp at hu;rcases hu with rfl | rfl | rfl | rfl <;> rfl) (by omega) (nD _) ?_;intro v6 w6 o6 g6 q6 n6;obtain ⟨a6,c6,rfl⟩:=zU o6
   have gN : w6.heap[N]? = wr.heap[N]? := (g6.block N (Nat.lt_of_lt_of_le nl q5.size) fun e => by
    have:=(NS.s.rb N e.symm).2;rw [NS.cN] at this
    cases this).trans (q5.block N nl)
   have y1:=(zH gN).trans x1;have yf:∀ j,w6.frozen? ⟨N,j,none⟩=false:=fun j=>(zI gN).trans (xf j);have NS6:Hid (NwS W1 N n L H true (k+1) (w6.setCell (aQ N 1) (.slice a6 (k+1) c6)) (.slice a1 n c1) (.slice a6 (k+1) c6) (.slice a2 (n*n) c2) (.slice a3 n c3) (rcol c wr.heap.size 2) up (fun j=>if j=k then stV 0 ra5 4 rc5 oa5 0 oc5 0 else us j)):=NS.push q5 (o5.mono (by simp)) o6 g6 q6;refine hK.out _ _ (fun _=>y1) ?_;clear hHeld;have hHeld:(fun w':World=>w'.cell? (aQ N 1)=some (.slice sa k sc)) w6:=y1;clear o6 g6 q6 n6 gN;clear hK K;refine qar 5 rfl hHeld ?_;refine yW 6 rfl fun K hK=>?_;have y2:=yf 1;go_simp;refine hK.out _ _ (fun h=>?_) ?_
   ·exact absurd h (by decide)
   clear hK K
   (try simp only [Act.put,zD,zE,zF])
   refine yX ?_ _;clear x0 x1 x2 x3 xf y1 y2 yf hHeld o5 d5 q5 hc5;go_wp2;go_roundw
   case rel=>exact ⟨k+1,by omega,by go_num,_,_,_,_,NS6.out⟩
   case measure=>simp [intOf];omega
  ·have hkn:k=n:=by omega
   have NS':=NS.out;rw [hkn] at NS';obtain ⟨sa,sc,rfl⟩:=zU NS'.s.row;have NE:Hid (NwS W1 N n L H true n wr (.slice a1 n c1) (.slice sa n sc) (.slice a2 (n*n) c2) (.slice a3 n c3) c up us):=NS';clear NS NS' hkn
   have HG:Hid (∀ wx,Bw wr wx->Calls prog 22 #[sysV a1 n c1 sa n sc a2 (n*n) c2 a3 n c3] wx (rB wx (.bool (nwY n L H).okB))):=fun wx hb=>by
    have h:=NE.bw hb;have hp:=h.p rfl
    exact qcs (nwX a1 n c1 (fun i => adOf (up i)) L (fun i => cpOf (up i)) H (.slice sa n sc) (.slice a2 (n * n) c2) (.slice a3 n c3) us) wx (h.g (qde hp) fun i hi => by
     obtain ⟨b,cap,eu,hb',hI,-⟩:=atI (hp.own i hi) (hp.nn nzI i hi)
     exact ⟨b,by rw [eu];rfl,hb',hI⟩) (qxq h4 HL.out) (fun i _=>nA _)
   obtain ⟨x0,x1,x2,x3⟩:=NE.bx;go_wp2_with fail
   refine (HG.out wr (nE _ _)).mono ?_;rintro e w6 ⟨rfl,q6⟩;have NF:Hid (NwS W1 N n L H true n w6 (.slice a1 n c1) (.slice sa n sc) (.slice a2 (n*n) c2) (.slice a3 n c3) c up us):=NE.bw q6;have hbe:=NF.be;have R6:Hid (BoxC w6 w.heap.size nS nS nS nS/\∀ j,w6.frozen? ⟨w.heap.size,j,none⟩=false):=⟨RB.1.bw hbe,fun j=>((qal hbe).2 _ j z1).trans (RB.2 j)⟩
   have B6:Hid (Bw w w6):=BW.trans (hbe.mono BW.size);clear q6 NE HG x0 x1 x2 x3 hbe;obtain ⟨⟨r0,r1,r2,r3⟩,rf⟩:=R6.out
   rcases zK (nwY n L H).okB with t | t
   case inr=>
    have HV:Hid (snB n L H=false):=by
     show snB n L H=false;rw [snB,t,Bool.and_false]
    rw [t];clear t;go_wp2;exact bodyPost_ret (v:=.tuple #[sysV none 0 0 none 0 0 none 0 0 none 0 0,.bool false]) (by simp [results,results34,go_sem,r0,r1,r2,r3]) rfl (NwR.no HV.out ((((B6.setCell hM _).setCell hM _).setCell hM _).setCell hM _))
   have HV:Hid (snB n L H=true):=by
    show snB n L H=true;rw [snB,t,decide_eq_true h4];rfl
   rw [t];clear t;obtain ⟨x0,x1,x2,x3⟩:=NF.bx;go_wp2;exact bodyPost_ret (v:=.tuple #[sysV a1 n c1 sa n sc a2 (n*n) c2 a3 n c3,.bool true]) (by simp [results,results34,go_sem,r0,r1,r2,r3]) rfl (NwR.yes HV.out (((NF.own1 rfl).out4 z1 _ _ _ _).base (nJ z1) (by simp)) ((((B6.setCell hM _).setCell hM _).setCell hM _).setCell hM _))
theorem Own1.g {w:World} {B T n pc:Nat} {L:Nat->Nat} {H:Nat->Nat->I5} {pa:Option Addr} {vs vw vh:Value} (o:Own1 w B T n L H (.slice pa n pc) vs vw vh):∃ A C us,SysG w (nwX pa n pc A L C H vs vw vh us):=by
 obtain ⟨c,up,us,o,-⟩:=o;refine ⟨fun i=>adOf (up i),fun i=>cpOf (up i),us,qxp o.s o.t o.h (qde o.p) fun i hi=>?_⟩;obtain ⟨b,cap,eu,hb,hI,-⟩:=atI (o.p.own i hi) (o.p.nn nzI i hi);exact ⟨b,by show adOf (up i)=_;rw [eu];rfl,hb,hI⟩
def Abv (c:Nat) (w w':World):Prop:=w.heap.size<=w'.heap.size/\∀ b,c<b->b<w.heap.size->w'.heap[b]? = w.heap[b]?
theorem Abv.refl (c:Nat) (w:World):Abv c w w:=⟨nA _,fun _ _ _=>rfl⟩
theorem Abv.trans {c:Nat} {w w1 w2:World} (h:Abv c w w1) (k:Abv c w1 w2):Abv c w w2:=
 ⟨zP h.1 k.1,fun b hb hl=>(k.2 b hb (zL hl h.1)).trans (h.2 b hb hl)⟩
theorem Abv.grown {c:Nat} {w w':World} (h:w.grownBy w' (some c)):Abv c w w':=⟨h.size,fun b hb hl=>h.block b hl (by simp;omega)⟩
theorem Abv.bw {c:Nat} {w w':World} (h:Bw w w'):Abv c w w':=⟨h.size,fun b _ hl=>h.block b hl⟩
def SysK (c:Nat) (w:World) (x:SysIn):Prop:=∀ w',Abv c w w'->SysG w' x
theorem SysK.g {c:Nat} {w:World} {x:SysIn} (h:SysK c w x):SysG w x:=h w (Abv.refl c w)
theorem SysK.on {c:Nat} {w w':World} {x:SysIn} (h:SysK c w x) (k:Abv c w w'):SysK c w' x:=fun w2 h2=>h w2 (k.trans h2)
theorem Own1.k {w:World} {c B T n pc:Nat} {L:Nat->Nat} {H:Nat->Nat->I5} {pa:Option Addr} {vs vw vh:Value} (o:Own1 w B T n L H (.slice pa n pc) vs vw vh) (hB:c<B):∃ A C us,SysK c w (nwX pa n pc A L C H vs vw vh us):=by
 obtain ⟨col,up,us,o,-⟩:=o;refine ⟨fun i=>adOf (up i),fun i=>cpOf (up i),us,fun w' hw=>?_⟩;have key:∀ i b,Cl B col i b->b<w.heap.size->w'.heap[b]? = w.heap[b]?:=fun i b hb hl=>hw.2 b (zL hB hb.1) hl;have hp:=o.p.keep (key 1);refine qxp (o.s.keep (key 2)) (o.t.keep (key 3)) (o.h.keep (key 4)) (qde hp) fun i hi=>?_;obtain ⟨b,cap,eu,hb,hI,-⟩:=atI (hp.own i hi) (hp.nn nzI i hi);exact ⟨b,by show adOf (up i)=_;rw [eu];rfl,hb,hI⟩
theorem OwnS.k {w:World} {d B:Nat} {c:Nat->Nat} {y:Sy} {vp vs vw vh:Value} {up us uw uh:Nat->Value} (o:OwnS true w B c y vp vs vw vh up us uw uh) (hB:d<B):SysK d w (y.sysIn vp vs vw vh up us uw uh):=by
 intro w' hw;have key:∀ i b,Cl B c i b->b<w.heap.size->w'.heap[b]? = w.heap[b]?:=fun i b hb hl=>hw.2 b (zL hB hb.1) hl;exact OwnS.g (B:=B) (c:=c) ⟨o.p.keep (key 1),o.s.keep (key 2),o.t.keep (key 3),o.h.keep (key 4)⟩
theorem Own1.s {w:World} {B T n:Nat} {L:Nat->Nat} {H:Nat->Nat->I5} {vp vs vw vh:Value} (o:Own1 w B T n L H vp vs vw vh):∃ c up us,OwnS false w B c (nwY n L H) vp vs vw vh up us (fun _=>.slice none 0 0) (fun _=>.slice none 0 0):=by
 obtain ⟨c,up,us,o,-⟩:=o;exact ⟨c,up,us,o.p.weak,o.s,o.t.ll (by decide) _ (fun _=>rfl),o.h.ll (by decide) _ (fun _=>rfl)⟩
theorem OwnS.nf {z:Bool} {w:World} {B:Nat} {c:Nat->Nat} {y:Sy} {vp vs vw vh:Value} {up us uw uh:Nat->Value} (o:OwnS z w B c y vp vs vw vh up us uw uh):(y.sysIn vp vs vw vh up us uw uh).Nn false:=by
 refine ⟨fun i hi=>?_,fun i hi=>?_⟩
 ·rcases (o.t.own i hi).2 with ⟨e,h⟩ | ⟨g,cap,cur,e,_⟩
  ·exact .inr ⟨rfl,by show adOf (uw i)=none;rw [e];rfl,h,by show cpOf (uw i)=0;rw [e];rfl⟩
  ·exact .inl ⟨g,0,by show adOf (uw i)=_;rw [e];rfl⟩
 ·rcases (o.h.own i hi).2 with ⟨e,h⟩ | ⟨g,cap,cur,e,_⟩
  ·exact .inr ⟨rfl,by show adOf (uh i)=none;rw [e];rfl,h,by show cpOf (uh i)=0;rw [e];rfl⟩
  ·exact .inl ⟨g,0,by show adOf (uh i)=_;rw [e];rfl⟩
theorem qqs (y:Sy) (p f:Int) (w:World) (B:Nat) (v:Value) (o:qan true w B y v) (hB:B<=w.heap.size) (hn:y.pn<=1048576) (t1:inB p 0 ((y.pn:Int) - 1)=false):
  Calls prog 123 #[v,iV p,iV f] w fun e w'=>e=.returned (.tuple #[v,iV 2])/\Below B w w'/\qan true w' B y v:=by
 obtain ⟨c,vp,vs,vw,vh,up,us,uw,uh,rfl,o⟩:=o;obtain ⟨pa,pc,rfl⟩:=zU o.p.row;obtain ⟨sa,sc,rfl⟩:=zU o.s.row;obtain ⟨wa,wc,rfl⟩:=zU o.t.row;obtain ⟨ha,hc,rfl⟩:=zU o.h.row;have hpn:(y.pn:Int)<=1048576:=by omega
 have hM:B<=w.heap.size+1:=by omega
 have BW:Hid (Bw w ((w.alloc (oQ4 pa y.pn pc sa y.sn sc wa y.wn wc ha y.hn hc)).alloc (zQ3))):=(zQ _ _).trans ((zQ _ _).mono (by simp));have NB:Hid (BoxC ((w.alloc (oQ4 pa y.pn pc sa y.sn sc wa y.wn wc ha y.hn hc)).alloc (zQ3)) w.heap.size (.slice pa y.pn pc) (.slice sa y.sn sc) (.slice wa y.wn wc) (.slice ha y.hn hc)):=(BoxC.new w _ _ _ _ _).bw (zQ _ _);have RB:Hid (BoxC ((w.alloc (oQ4 pa y.pn pc sa y.sn sc wa y.wn wc ha y.hn hc)).alloc (zQ3)) (w.heap.size+1) nS nS nS nS/\∀ j,((w.alloc (oQ4 pa y.pn pc sa y.sn sc wa y.wn wc ha y.hn hc)).alloc (zQ3)).frozen? ⟨w.heap.size+1,j,none⟩=false):=⟨⟨zW _ _ _ 0 (by simp),zW _ _ _ 1 (by simp),zW _ _ _ 2 (by simp),zW _ _ _ 3 (by simp)⟩,fun j=>yB _ _ _ _ (by simp)⟩
 have l1:w.heap.size+1<((w.alloc (oQ4 pa y.pn pc sa y.sn sc wa y.wn wc ha y.hn hc)).alloc (zQ3)).heap.size:=by simp
 have OO:Hid (OwnS true w B c y (.slice pa y.pn pc) (.slice sa y.sn sc) (.slice wa y.wn wc) (.slice ha y.hn hc) up us uw uh):=o;clear o
 go_enter func123,ntmps123
 go_wp2_with fail
 refine (l1In_any _ _ _ _).mono ?_;rintro e w1 ⟨rfl,rfl⟩;rw [t1];generalize (w.alloc (oQ4 pa y.pn pc sa y.sn sc wa y.wn wc ha y.hn hc)).alloc (zQ3)=W2 at *;obtain ⟨b0,b1,b2,b3⟩:=NB.out;obtain ⟨⟨r0,r1,r2,r3⟩,rf⟩:=RB.out;have O2:Hid (OwnS true W2 B (rcol c w.heap.size 0) y (.slice pa y.pn pc) (.slice sa y.sn sc) (.slice wa y.wn wc) (.slice ha y.hn hc) up us uw uh):=(OO.recol 0).bw BW.out;have BB:Hid (Below B w W2):=BW.mono hB;go_wp2;exact bodyPost_ret (v:=.tuple #[sysV pa y.pn pc sa y.sn sc wa y.wn wc ha y.hn hc,iV 2]) (by simp [results,results123,go_sem,r0,r1,r2,r3]) rfl ⟨rfl,(((BB.setCell hM _).setCell hM _).setCell hM _).setCell hM _,_,_,_,_,_,_,_,_,_,rfl,(((O2.setOut (qad (nK _)) 0 _).setOut (qad (nK _)) 1 _).setOut (qad (nK _)) 2 _).setOut (qad (nK _)) 3 _⟩
noncomputable def stC (y:Sy) (p f:Int):Int:=if y.okB=true then (if belB p y.pn=true then cmS y p.toNat f else 2) else 1
noncomputable def stY (y:Sy) (p f:Int):Sy:=if y.okB=true then (if belB p y.pn=true then y.step p.toNat f else y) else { y with pn:=0,sn:=0,wn:=0,hn:=0 }
theorem qmr (x:SysIn) (p f:Int) (w:World) (hG:SysG w x) (hL:x.Len) (hcap:∀ i,i<x.hn->x.hL i<=x.hC i):
  Calls prog 104 #[x.v,iV p,iV f] w fun e w'=>∃ v,e=.returned (.tuple #[v,iV (stC x.y p f)])/\qan true w' w.heap.size (stY x.y p f) v/\Bw w w':=by
 have HG:Hid (SysG w x):=hG;have HL:Hid x.Len:=hL;have HS:Hid (∀ wx,Bw w wx->Calls prog 22 #[x.v] wx (rB wx (.bool x.y.okB))):=fun wx hb=>qcs x wx (HG.bw hb) hL hcap;have HC4:Hid (∀ wx,Bw w wx->Calls prog 124 #[x.v] wx fun e w'=>∃ v,e=.returned v/\qan true w' wx.heap.size x.y v/\Bw wx w'):=fun wx hb=>qew x wx (HG.bw hb) hL;have BW:Hid (Bw w ((w.alloc (x.oX)).alloc (zQ3))):=(zQ _ _).trans ((zQ _ _).mono (by simp));have NB:Hid (x.bX ((w.alloc (x.oX)).alloc (zQ3)) w.heap.size):=(BoxC.new w _ _ _ _ _).bw (zQ _ _);have RB:Hid (BoxC ((w.alloc (x.oX)).alloc (zQ3)) (w.heap.size+1) nS nS nS nS/\∀ j,((w.alloc (x.oX)).alloc (zQ3)).frozen? ⟨w.heap.size+1,j,none⟩=false):=⟨⟨zW _ _ _ 0 (by simp),zW _ _ _ 1 (by simp),zW _ _ _ 2 (by simp),zW _ _ _ 3 (by simp)⟩,fun j=>yB _ _ _ _ (by simp)⟩
 have hM:w.heap.size<=w.heap.size+1:=nK _;clear hG hL hcap
 go_enter func104,ntmps104
 go_wp2_with fail
 generalize (w.alloc (x.oX)).alloc (zQ3)=W2 at *;refine (HS.out W2 BW.out).mono ?_;rintro e w1 ⟨rfl,q1⟩;have B1:Hid (Bw w w1/\x.bX w1 w.heap.size/\BoxC w1 (w.heap.size+1) nS nS nS nS/\∀ j,w1.frozen? ⟨w.heap.size+1,j,none⟩=false):=⟨BW.trans (q1.mono BW.size),NB.bw q1,RB.1.bw q1,fun j=>((qal q1).2 _ j (zJ _ _ RB.1.1)).trans (RB.2 j)⟩
 clear q1 BW NB RB HS;have l1:w.heap.size+1<w1.heap.size:=zJ _ _ B1.2.2.1.1;obtain ⟨b0,b1,b2,b3⟩:=B1.2.1
 rcases zK x.y.okB with t | t
 case inr=>
  have HV:Hid (stC x.y p f=1/\stY x.y p f={ x.y with pn:=0,sn:=0,wn:=0,hn:=0 }):=⟨nB (by rw [t];simp),nB (by rw [t];simp)⟩
  obtain ⟨⟨r0,r1,r2,r3⟩,rf⟩:=B1.2.2;rw [t];clear t;go_wp2;exact bodyPost_ret (v:=.tuple #[sysV none 0 0 none 0 0 none 0 0 none 0 0,iV 1]) (by simp [results,results104,go_sem,r0,r1,r2,r3]) rfl ⟨_,by rw [HV.1],by rw [HV.2];exact qan.zero _ _ _,(((B1.1.setCell hM _).setCell hM _).setCell hM _).setCell hM _⟩
 have HO:Hid x.y.Ok:=Sy.ok_of t
 have HC:Hid (∀ wx v,w1.heap.size<=wx.heap.size->qan true wx w1.heap.size x.y v->Calls prog 123 #[v,iV p,iV f] wx fun e w'=>e=.returned (.tuple #[v,iV (stC x.y p f)])/\Below w1.heap.size wx w'/\qan true w' w1.heap.size (stY x.y p f) v):=by
  show ∀ wx v,_;intro wx v hwx o;have hc4:x.y.pn<=4:=HO.cn.1.2;by_cases hb:belB p x.y.pn=true
  ·have hb':0<=p/\p<(x.y.pn:Int):=by simpa [belB] using hb
   obtain ⟨k,rfl⟩:∃ k:Nat,p=k:=⟨p.toNat,by omega⟩
   rw [stC,nC t,nC hb,stY,nC t,nC hb];exact qi7 x.y k f wx _ v o (by omega) HO.out
  ·rw [stC,nC t,nB hb,stY,nC t,nB hb]
   exact qqs x.y p f wx _ v o hwx (by omega) (by
    simp only [inB,decide_eq_false_iff_not];simp only [belB,nI] at hb
    omega)
 have HZ:Hid (stC x.y p f≠0->stY x.y p f=x.y):=fun h=>by
  rw [stC,nC t] at h;rw [stY,nC t];by_cases hb:belB p x.y.pn=true
  ·rw [nC hb] at h ⊢
   exact Sy.step_no h
  ·rw [nB hb]
 rw [t];clear t;go_wp2_with fail
 refine (HC4.out w1 B1.1).mono ?_;rintro e w3 ⟨v3,rfl,o3,q3⟩;obtain ⟨pa,pc,sa,sc,wa,wc,ha,hc,rfl⟩:=o3.form;have HC':=HC.out w3 _ q3.size o3;clear HC;generalize hC:stC x.y p f=C at *;generalize hY:stY x.y p f=Y at *;go_wp2_with fail
 refine HC'.mono ?_;rintro e w5 ⟨rfl,q5,o5⟩;have Q5:Bw w1 w5:=q3.trans q5;have B5:Hid (Bw w w5/\x.bX w5 w.heap.size/\BoxC w5 (w.heap.size+1) nS nS nS nS/\(∀ j,w5.frozen? ⟨w.heap.size+1,j,none⟩=false)/\w1.heap.size<=w5.heap.size/\qan true w5 w1.heap.size Y (sysV pa x.y.pn pc sa x.y.sn sc wa x.y.wn wc ha x.y.hn hc)):=⟨B1.1.trans (Q5.mono B1.1.size),B1.2.1.bw Q5,B1.2.2.1.bw Q5,fun j=>((qal Q5).2 _ j l1).trans (B1.2.2.2 j),Q5.size,o5⟩
 clear o3 q3 q5 o5 Q5 HC' B1 b0 b1 b2 b3;obtain ⟨b0,b1,b2,b3⟩:=B5.2.1;obtain ⟨r0,r1,r2,r3⟩:=B5.2.2.1;have rf:=B5.2.2.2.1;have l5:w.heap.size+1<w5.heap.size:=zJ _ _ r0;have l50:w.heap.size<w5.heap.size:=by omega
 by_cases hc0:C=0
 ·subst hc0
  go_wp2
  exact bodyPost_ret (v := .tuple #[sysV pa x.y.pn pc sa x.y.sn sc wa x.y.wn wc ha x.y.hn hc, iV 0]) (by simp [results, results104, go_sem, r0, r1, r2, r3, l5]) rfl ⟨_, by rw [hC], by
   rw [hY]
   exact (((((B5.2.2.2.2.2.setBelow l1 0 _).setBelow l1 1 _).setBelow l1 2 _).setBelow l1 3 _).bw (zQ _ _)).base (by omega),((((B5.1.setCell hM _).setCell hM _).setCell hM _).setCell hM _).trans ((zQ _ _).mono (by simp;omega))⟩
 ·have tc:(C == 0)=false:=by simpa using hc0
  go_wp2_with fail
  refine (HC4.out _ (B5.1.trans ((zQ _ _).mono (nJ l50)))).mono ?_;rintro e w7 ⟨v7,rfl,o7,q7⟩;obtain ⟨pa7,pc7,sa7,sc7,wa7,wc7,ha7,hc7,rfl⟩:=o7.form;have Q7:Bw w5 w7:=(zQ _ _).trans (q7.mono (by simp));have hc:=(qal Q7).1;replace r0:=(hc _ _ l5).trans r0;replace r1:=(hc _ _ l5).trans r1;replace r2:=(hc _ _ l5).trans r2;replace r3:=(hc _ _ l5).trans r3;replace rf:∀ j,w7.frozen? ⟨w.heap.size+1,j,none⟩=false:=fun j=>((qal Q7).2 _ j l5).trans (rf j);have l7:w.heap.size+1<w7.heap.size:=zL l5 Q7.size;have B7:Hid (Bw w w7/\qan true w7 w5.heap.size x.y (sysV pa7 x.y.pn pc7 sa7 x.y.sn sc7 wa7 x.y.wn wc7 ha7 x.y.hn hc7)):=⟨B5.1.trans (Q7.mono (nJ l50)),o7.base (by simp)⟩
  clear o7 q7 Q7 hc B5 b0 b1 b2 b3;go_wp2
  exact bodyPost_ret (v := .tuple #[sysV pa7 x.y.pn pc7 sa7 x.y.sn sc7 wa7 x.y.wn wc7 ha7 x.y.hn hc7, iV C]) (by simp [results, results104, go_sem, r0, r1, r2, r3]) rfl ⟨_, by rw [hC], by
   rw [hY,HZ.out hc0]
   exact ((((B7.2.setBelow l5 0 _).setBelow l5 1 _).setBelow l5 2 _).setBelow l5 3 _).base (by omega),(((B7.1.setCell hM _).setCell hM _).setCell hM _).setCell hM _⟩
def SysT (w:World) (B T:Nat) (y:Sy) (v:Value):Prop:=∃ c vp vs vw vh up us uw uh,v=.agg #[vp,vs,vw,vh]/\OwnS false w B c y vp vs vw vh up us uw uh/\∀ b,T<=b->c b=0
theorem OwnS.sysT {z:Bool} {w:World} {B:Nat} {c:Nat->Nat} {y:Sy} {vp vs vw vh:Value} {up us uw uh:Nat->Value} (o:OwnS z w B c y vp vs vw vh up us uw uh):SysT w B w.heap.size y (.agg #[vp,vs,vw,vh]):=by
 have o:=o.weak
 have h : ∀ i k, Cl B c i k → k < w.heap.size → Cl B (fun b => if b < w.heap.size then c b else 0) i k := fun i k hk hl => ⟨hk.1, by
  show (if k<w.heap.size then c k else 0)=i;rw [nC hl]
  exact hk.2⟩
 exact ⟨fun b=>if b<w.heap.size then c b else 0,vp,vs,vw,vh,up,us,uw,uh,rfl,⟨o.p.mono (h 1),o.s.mono (h 2),o.t.mono (h 3),o.h.mono (h 4)⟩,fun b hb=>nB (by omega)⟩
theorem qan.sysT {z:Bool} {w:World} {B:Nat} {y:Sy} {v:Value} (o:qan z w B y v):SysT w B w.heap.size y v:=by
 obtain ⟨c,vp,vs,vw,vh,up,us,uw,uh,rfl,o⟩:=o;exact OwnS.sysT o
theorem Own1.sysT {w:World} {B T n:Nat} {L:Nat->Nat} {H:Nat->Nat->I5} {vp vs vw vh:Value} (o:Own1 w B T n L H vp vs vw vh):SysT w B w.heap.size (nwY n L H) (.agg #[vp,vs,vw,vh]):=by
 obtain ⟨c,up,us,o⟩:=o.s;exact OwnS.sysT o
theorem SysT.keep {w w':World} {B T:Nat} {y:Sy} {v:Value} (o:SysT w B T y v) (h:∀ b,B<=b->b<T->b<w.heap.size->w'.heap[b]? = w.heap[b]?):SysT w' B T y v:=by
 obtain ⟨c,vp,vs,vw,vh,up,us,uw,uh,e,o,ht⟩:=o
 have key : ∀ i, i ≠ 0 → ∀ k, Cl B c i k → k < w.heap.size → w'.heap[k]? = w.heap[k]? := fun i hi k hk hl => h k hk.1 (by
  apply Classical.byContradiction;intro hn;have h1:=ht k (by omega);have h2:c k=i:=hk.2
  omega) hl
 exact ⟨c,vp,vs,vw,vh,up,us,uw,uh,e,⟨o.p.keep (key 1 (by decide)),o.s.keep (key 2 (by decide)),o.t.keep (key 3 (by decide)),o.h.keep (key 4 (by decide))⟩,ht⟩
theorem SysT.bw {w w':World} {B T:Nat} {y:Sy} {v:Value} (o:SysT w B T y v) (hb:Bw w w'):SysT w' B T y v:=o.keep fun b _ _ hl=>hb.block b hl
theorem SysT.base {w:World} {B B' T:Nat} {y:Sy} {v:Value} (o:SysT w B T y v) (h:B'<=B):SysT w B' T y v:=by
 obtain ⟨c,vp,vs,vw,vh,up,us,uw,uh,e,o,ht⟩:=o;exact ⟨c,vp,vs,vw,vh,up,us,uw,uh,e,⟨o.p.mono fun _ q _=>⟨zP h q.1,q.2⟩,o.s.mono fun _ q _=>⟨zP h q.1,q.2⟩,o.t.mono fun _ q _=>⟨zP h q.1,q.2⟩,o.h.mono fun _ q _=>⟨zP h q.1,q.2⟩⟩,ht⟩
theorem SysT.top {w:World} {B T T':Nat} {y:Sy} {v:Value} (o:SysT w B T y v) (h:T<=T'):SysT w B T' y v:=by
 obtain ⟨c,vp,vs,vw,vh,up,us,uw,uh,e,o,ht⟩:=o;exact ⟨c,vp,vs,vw,vh,up,us,uw,uh,e,o,fun b hb=>ht b (by omega)⟩
theorem qrr {w:World} {B sz n:Nat} {e:TypeId} {u:Value} {xs:List Value} (o:w.ownsRow B e sz u n xs):n<=cpOf u:=by
 rcases o.2 with ⟨rfl,h⟩ | ⟨g,cap,cur,rfl,_,_,hnc,_⟩
 ·rw [h];exact nD _
 ·exact hnc
structure SysX (w:World) (B T:Nat) (x:SysIn):Prop where
 g:∀ w',(∀ b,B<=b->b<T->b<w.heap.size->w'.heap[b]? = w.heap[b]?)->SysG w' x
 cap:∀ i,i<x.hn->x.hL i<=x.hC i
 nn:x.Nn false
theorem SysT.x {w:World} {B T:Nat} {y:Sy} {v:Value} (o:SysT w B T y v):∃ x:SysIn,v=x.v/\x.y=y/\SysX w B T x:=by
 obtain ⟨c,vp,vs,vw,vh,up,us,uw,uh,rfl,o,ht⟩:=o;refine ⟨y.sysIn vp vs vw vh up us uw uh,o.v.symm,rfl,fun w' h=>?_,fun i hi=>qrr (o.h.own i hi),o.nf⟩
 have key : ∀ i, i ≠ 0 → ∀ k, Cl B c i k → k < w.heap.size → w'.heap[k]? = w.heap[k]? := fun i hi k hk hl => h k hk.1 (by
  apply Classical.byContradiction;intro hn;have h1:=ht k (by omega);have h2:c k=i:=hk.2
  omega) hl
 exact OwnS.g (z:=false) (B:=B) (c:=c) ⟨o.p.keep (key 1 (by decide)),o.s.keep (key 2 (by decide)),o.t.keep (key 3 (by decide)),o.h.keep (key 4 (by decide))⟩
theorem SysX.abv {w w':World} {B T c:Nat} {x:SysIn} (h:SysX w B T x) (hc:c<B) (ha:Abv c w w'):SysG w' x:=h.g w' fun b hb _ hl=>ha.2 b (by omega) hl
theorem SysX.bw {w w':World} {B T:Nat} {x:SysIn} (h:SysX w B T x) (hb:Bw w w'):SysG w' x:=h.g w' fun b _ _ hl=>hb.block b hl
theorem SysX.self {w:World} {B T:Nat} {x:SysIn} (h:SysX w B T x):SysG w x:=h.g w fun _ _ _ _=>rfl
theorem Sy.Sm.inLen {x:SysIn} (h:x.y.Sm):x.Len:=by
 obtain ⟨⟨h1,h2,h3,h4⟩,hp,hs,hw,hh⟩:=h;have h1':x.pn<=16:=h1;have h2':x.sn<=16:=h2;have h3':x.wn<=16:=h3;have h4':x.hn<=16:=h4;refine ⟨⟨by omega,fun i hi=>?_⟩,⟨by omega,fun i hi=>?_⟩,⟨by omega,fun i hi=>?_⟩,⟨by omega,fun i hi=>?_⟩⟩
 ·have:x.pL i<=1000:=hp i hi
  omega
 ·have:(x.sQ i).rs.length<=1000/\(x.sQ i).os.length<=1000:=hs i hi
  omega
 ·have:x.wL i<=1000:=hw i hi
  omega
 ·have:x.hL i<=1000:=hh i hi
  omega
def Sy.Good (y:Sy):Prop:=y.Ok\/(y.pn=0/\y.sn=0/\y.wn=0/\y.hn=0)
theorem Sy.Good.sm {y:Sy} (h:y.Good):y.Sm:=by
 rcases h with h | ⟨h1,h2,h3,h4⟩
 ·exact h.sm
 ·exact ⟨by omega,fun i hi=>by omega,fun i hi=>by omega,fun i hi=>by omega,fun i hi=>by omega⟩
theorem Sy.Good.step {y:Sy} (_h:y.Good) {p f:Int} (hc:stC y p f=0):(stY y p f).Good:=by
 unfold stC at hc;unfold stY;by_cases ho:y.okB=true
 ·rw [nC ho] at hc ⊢
  by_cases hb:belB p y.pn=true
  ·rw [nC hb] at hc ⊢
   have hb':0<=p/\p<(y.pn:Int):=by simpa [belB] using hb
   exact .inl ((Sy.ok_of ho).step (by omega) hc)
  ·rw [nB hb] at hc
   cases hc
 ·rw [nB ho] at hc
  cases hc
structure DK (w wr:World) (W0 c:Nat) (a0:Option Addr) (len cap B T:Nat) (y:Sy) (v:Value):Prop where
 cu:Cur wr W0 c a0 len cap
 sy:SysT wr B T y v
 gr:w.grownBy wr (some c)
 lt:c<B
theorem DK.draw {w wr w':World} {W0 c:Nat} {a0:Option Addr} {len cap B T:Nat} {y:Sy} {v:Value} (h:DK w wr W0 c a0 len cap B T y v) (hc:Cur w' W0 c a0 len cap) (hg:wr.grownBy w' (some c)):DK w w' W0 c a0 len cap B T y v:=
 ⟨hc,h.sy.keep fun b hb _ hl=>hg.block b hl (by have:=h.lt;simp;omega),h.gr.trans hg,h.lt⟩
theorem DK.bw {w wr w':World} {W0 c:Nat} {a0:Option Addr} {len cap B T:Nat} {y:Sy} {v:Value} (h:DK w wr W0 c a0 len cap B T y v) (hb:Bw wr w'):DK w w' W0 c a0 len cap B T y v:=
 ⟨h.cu.kept (zZ hb) (by simp) (fun k hk=>by cases hk),h.sy.bw hb,h.gr.andThen (zZ hb) (fun j hj=>by cases hj),h.lt⟩
theorem DK.alloc {w wr:World} {W0 c:Nat} {a0:Option Addr} {len cap B T:Nat} {y:Sy} {v:Value} (h:DK w wr W0 c a0 len cap B T y v) (o:Obj):DK w (wr.alloc o) W0 c a0 len cap B T y v:=h.bw (zQ _ _)
theorem DK.set {w wr:World} {W0 c:Nat} {a0:Option Addr} {len cap B T:Nat} {y:Sy} {v:Value} (h:DK w wr W0 c a0 len cap B T y v) {N:Nat} (hN:w.heap.size<=N) (hc:c≠N) (hT:N<B\/T<=N) (hW:W0<=N) (j:Nat) (u:Value):DK w (wr.setCell (aQ N j) u) W0 c a0 len cap B T y v:=by
 have hg:wr.grownBy (wr.setCell (aQ N j) u) (some N):=zV (World.grownBy.refl _ _) (.inl rfl) u;exact ⟨h.cu.kept hg (fun e=>hc (by simpa using e)) (fun k hk=>by cases hk;exact hW),h.sy.keep fun b hb ht hl=>hg.block b hl (by simp;omega),h.gr.andThen hg (fun k hk=>by cases hk;exact .inl hN),h.lt⟩
theorem qg8 (W0 c len cap:Nat) (a0:Option Addr) (n:Int) (w:World) (hc:Cur w W0 c a0 len cap) (n1:1<=n) (n2:n<=1048576):
  Calls prog 31 #[.pointer (some (aQ c 0)),iV n] w fun e w'=>∃ x:Int,e=.returned (iV x)/\(0<=x/\x<n)/\Cur w' W0 c a0 len cap/\w.grownBy w' (some c):=by
 by_cases hs:n<=256
 ·exact zY W0 c len cap a0 n w hc n1 hs
 have n3:¬ n<=0:=by omega
 have n4:(n == 0)=false:=by simp;omega
 have HCur:Hid (Cur w W0 c a0 len cap):=hc;clear hc
 go_enter func31,ntmps31
 go_wp2_with fail
 refine (qdj W0 c len cap a0 _ HCur.out).mono ?_;rintro e w1 ⟨x,rfl,⟨x0,x1⟩,hc1,hg1⟩;have H1:Hid (Cur w1 W0 c a0 len cap/\w.grownBy w1 (some c)):=⟨hc1,hg1⟩
 clear hc1 hg1 HCur;go_wp2_with fail
 refine (qdj W0 c len cap a0 _ H1.1).mono ?_;rintro e w2 ⟨y,rfl,⟨y0,y1⟩,hc2,hg2⟩;have H2:Hid (Cur w2 W0 c a0 len cap/\w.grownBy w2 (some c)):=⟨hc2,H1.2.trans hg2⟩
 clear hc2 hg2 H1;go_wp2_with fail
 refine (qdj W0 c len cap a0 _ H2.1).mono ?_;rintro e w3 ⟨z,rfl,⟨z0,z1⟩,hc3,hg3⟩;have H3:Hid (Cur w3 W0 c a0 len cap/\w.grownBy w3 (some c)):=⟨hc3,H2.2.trans hg3⟩
 clear hc3 hg3 H2;go_wp2_with fail
 refine (qdj W0 c len cap a0 _ H3.1).mono ?_;rintro e w4 ⟨u,rfl,⟨u0,u1⟩,hc4,hg4⟩;have H4:Hid (Cur w4 W0 c a0 len cap/\w.grownBy w4 (some c)):=⟨hc4,H3.2.trans hg4⟩
 clear hc4 hg4 H3;have hp:0<=x*16777216+y*65536+z*256+u:=by omega
 go_wp2;go_ret;exact ⟨_,rfl,⟨Int.emod_nonneg _ (by omega),Int.emod_lt_of_pos _ (by omega)⟩,H4.1,H4.2⟩
open Go.Sort
def hcL (ha:Option Addr) (hn hc:Nat):List Value:=[.slice ha hn hc,iV 0,iV 0,iV 0,iV 0,iV 0,iV 0,iV 0,iV 0,iV 0,iV 0,iV 0,iV 0,iV 0,iV 0,iV 0,iV 0,iV 0,iV 0,iV 0,iV 0]
theorem qxg (ha:Option Addr) (hn hc:Nat):(hcL ha hn hc).length=21:=rfl
theorem qxh (ha:Option Addr) (hn hc:Nat):∀ v ∈ hcL ha hn hc,v.oneCell'=true:=by
 intro v hv;simp only [hcL,List.mem_cons,List.not_mem_nil,or_false] at hv
 rcases hv with rfl | rfl | rfl | rfl | rfl | rfl | rfl | rfl | rfl | rfl | rfl | rfl | rfl | rfl | rfl | rfl | rfl | rfl | rfl | rfl | rfl <;> rfl
theorem qny:(prog.info? 61).map (·.size)=some 21:=by kernel_rfl
theorem qmn (X hc:Nat) (ha:Option Addr) (hA:Nat->Option Addr) (hC:Nat->Nat) (y:Hs) (a b:Nat) (w:World) (c0:w.cell? ⟨X,0,none⟩=some (.slice ha y.n hc)) (hE:HisE w ha hA hC y) (hl:∀ i,i<y.n->y.l i<=200) (han:a<y.n):
  Calls prog 81 #[.pointer (some (aQ X 0)),iV a,iV b] w fun e w'=>∃ a1 c1,e=.returned (.slice a1 (valL (y.e a) 2 b (y.l a)).length c1)/\OwnI w' w.heap.size (.slice a1 (valL (y.e a) 2 b (y.l a)).length c1) (valL (y.e a) 2 b (y.l a))/\Bw w w':=by
 have HE:Hid (EvL w (hA a) (y.l a) (y.e a)):=hE.ev a han;have HLb:Hid (y.l a<=1048576):=by have:=hl a han;show _<=_;omega
 have ha':(a:Int)<(y.n:Int):=by omega
 obtain ⟨bh,oh,eh,ch⟩:=hE.row.at han;rw [eh] at c0;clear hE hl eh
 go_enter func81,ntmps81
 go_wp2_with fail
 refine (qda (hA a) (y.l a) _ (y.e a) 2 b w HLb.out HE.out).mono ?_;rintro e w1 ⟨v,rfl,o1,b1⟩;obtain ⟨a1,c1,rfl,-⟩:=o1.form;have O1:Hid (OwnI w1 w.heap.size (.slice a1 (valL (y.e a) 2 b (y.l a)).length c1) (valL (y.e a) 2 b (y.l a))/\Bw w w1):=⟨o1,b1⟩
 clear o1 b1 c0 ch;go_wp2;go_ret;exact ⟨_,_,rfl,O1.out⟩
theorem qov (X hc:Nat) (ha:Option Addr) (hA:Nat->Option Addr) (hC:Nat->Nat) (y:Hs) (a b:Nat) (w:World) (c0:w.cell? ⟨X,0,none⟩=some (.slice ha y.n hc)) (hE:HisE w ha hA hC y) (hl:∀ i,i<y.n->y.l i<=200) (han:a<y.n) (hbn:b<y.n):
  Calls prog 97 #[.pointer (some (aQ X 0)),iV a,iV b] w (rB w (iV (nthV (y.e b) 3 a (y.l b) (cnt (y.e a) 2 b (y.l a):Nat)))):=by
 have HS:Hid (∀ wx,Bw w wx->Calls prog 81 #[.pointer (some ⟨X,0,none⟩),iV a,iV b] wx fun e w'=>∃ a1 c1,e=.returned (.slice a1 (cnt (y.e a) 2 b (y.l a)) c1)/\Bw wx w'):=fun wx hb=>by
  refine (qmn X hc ha hA hC y a b wx ((hb.cell (p:=(aQ X 0)) (zJ w _ c0)).trans c0) (hE.bw hb) hl han).mono ?_;rintro e w1 ⟨a1,c1,rfl,-,q⟩;exact ⟨a1,c1,by rw [qb2];rfl,q⟩
 have HN:Hid (∀ wx,Bw w wx->Calls prog 115 #[.slice (hA b) (y.l b) (hC b),iV 3,iV a,iV (cnt (y.e a) 2 b (y.l a):Nat)] wx (rB wx (iV (nthV (y.e b) 3 a (y.l b) (cnt (y.e a) 2 b (y.l a):Nat))))):=fun wx hb=>qr9 (hA b) (y.l b) (hC b) (y.e b) 3 a _ wx (by have:=hl b hbn;omega) ((hE.bw hb).ev b hbn);have hcn:cnt (y.e a) 2 b (y.l a)<=200:=zP (qrs _ _ _ _) (hl a han);have hbn':(b:Int)<(y.n:Int):=by omega
 obtain ⟨bh,oh,eh,ch⟩:=hE.row.at hbn;rw [eh] at c0;clear hE hl eh;generalize nthV (y.e b) 3 a (y.l b) (cnt (y.e a) 2 b (y.l a):Nat)=V at *;generalize cnt (y.e a) 2 b (y.l a)=cn at *;have hcn':(cn:Int)<=200:=by omega
 have HC0:Hid (w.cell? (aQ X 0)=some (.slice (some (aQ bh oh)) y.n hc)):=c0;have HC1:Hid (w.cell? ⟨bh,oh+b,none⟩=some (.slice (hA b) (y.l b) (hC b))):=ch
 go_enter func97,ntmps97
 go_wp2_with fail
 go_region_law (first
  | (refine qdl rfl 81 _ _ rfl #[.pointer (some (aQ X 0)),.int .i64 a,.int .i64 b] (by simp [Act.eval,Act.put]) (yA func81) (HS.out w.drew (nE _ _).drew) ?_;rintro e w1 ⟨a1,c1,rfl,b1⟩;refine ⟨_,rfl,?_⟩;have q1:Bw w w1:=(nE w.heap.size w).drew.trans b1;have c2:=(q1.cell (p:=(aQ X 0)) (zJ w _ HC0.out)).trans HC0.out;have c3:=(q1.cell (p:=⟨bh,oh+b,none⟩) (zJ w _ HC1.out)).trans HC1.out;have Q1:Hid (Bw w w1):=q1;clear b1 q1)
  | (refine qdl rfl 115 _ _ rfl #[.slice (hA b) (y.l b) (hC b),.int .i64 3,.int .i64 a,.int .i64 (cn:Nat)] (by simp [Act.eval,Act.put]) (yA func115) (HN.out w1 Q1.out) ?_;rintro e w2 ⟨rfl,b2⟩;refine ⟨_,rfl,?_⟩;have Q2:Hid (Bw w w2):=Q1.trans (b2.mono Q1.size);clear b2))
 all_goals
  clear Q1;go_wp2;go_ret;exact ⟨rfl,Q2.out⟩
theorem ql5 (X hc:Nat) (ha:Option Addr) (hA:Nat->Option Addr) (hC:Nat->Nat) (y:Hs) (w:World) (c0:w.cell? ⟨X,0,none⟩=some (.slice ha y.n hc)) (hE:HisE w ha hA hC y) (hl:∀ i,i<y.n->y.l i<=200) (h4:y.n<=4):
  Calls prog 59 #[.pointer (some ⟨X,0,none⟩)] w fun e w'=>e=.returned (.bool (qB (∀ a,a<y.n->∀ b,b<y.n->nthV (y.e b) 3 a (y.l b) (cnt (y.e a) 2 b (y.l a):Nat)<0)))/\Bw w w':=by
 have HOv:Hid (∀ wx,Bw w wx->∀ a b,a<y.n->b<y.n->Calls prog 97 #[.pointer (some ⟨X,0,none⟩),iV (a:Nat),iV (b:Nat)] wx (rB wx (iV (nthV (y.e b) 3 a (y.l b) (cnt (y.e a) 2 b (y.l a):Nat))))):=fun wx hb a b ha' hb'=>qov X hc ha hA hC y a b wx ((hb.cell (p:=⟨X,0,none⟩) (zJ w _ c0)).trans c0) (hE.bw hb) hl ha' hb';have HC0:Hid (∀ wx,Bw w wx->wx.cell? ⟨X,0,none⟩=some (.slice ha y.n hc)):=fun wx hb=>(hb.cell (p:=⟨X,0,none⟩) (zJ w _ c0)).trans c0;have hl':(y.n:Int)<=4:=by omega
 clear hE hl;generalize hov:(fun a b:Nat=>nthV (y.e b) 3 a (y.l b) (cnt (y.e a) 2 b (y.l a):Nat))=ov;have e1:∀ a b:Nat,nthV (y.e b) 3 a (y.l b) (cnt (y.e a) 2 b (y.l a):Nat)=ov a b:=fun a b=>by rw [<- hov]
 simp only [e1] at HOv ⊢;clear e1 hov
 go_enter func59,ntmps59
 go_wp2_with fail
 clear c0
 go_loopw [10] (fun i wr=>∃ k:Nat,k<=y.n/\i=.int .i64 k/\Hid (Bw w wr)/\Hid (∀ a,a<k->∀ b,b<y.n->ov a b<0)) (fun i _=>y.n - (intOf i).toNat)
 case atStart=>exact ⟨0,nD _,rfl,nE _ _,fun j hj=>by omega⟩
 case round=>
  obtain ⟨k,hk,rfl,HB,HK⟩:=hrel;by_cases hlt:k<y.n
  ·have hlt':(k:Int)<(y.n:Int):=by omega
   have c1:=HC0.out wr HB.out;go_wp2_with fail
   clear c1
   go_loopw [18] (fun i wr=>∃ j:Nat,j<=y.n/\i=.int .i64 j/\Hid (Bw w wr)/\Hid (∀ b,b<j->ov k b<0)) (fun i _=>y.n - (intOf i).toNat)
   case atStart=>exact ⟨0,nD _,rfl,HB.out,fun j hj=>by omega⟩
   case round=>
    clear HB;obtain ⟨j,hj,rfl,HB,HJ⟩:=hrel;by_cases hjt:j<y.n
    ·have hjt':(j:Int)<(y.n:Int):=by omega
     go_wp2_with fail
     refine (HOv.out _ HB.out k j hlt hjt).mono ?_;rintro e w3 ⟨rfl,q3⟩;have B3:Hid (Bw w w3):=HB.trans (q3.mono HB.size);clear q3 HB;by_cases ho:0<=ov k j
     ·have HV:Hid (qB (∀ a,a<y.n->∀ b,b<y.n->ov a b<0)=false):=qax fun h=>by
       have h1:=h k hlt j hjt;omega
      go_wp2;go_ret;rw [HV.out];exact ⟨rfl,B3.out⟩
     ·have HJ':Hid (∀ b,b<j+1->ov k b<0):=fun b hb=>by
       by_cases e:b=j
       ·subst e
        omega
       ·exact HJ.out b (by omega)
      clear HJ;go_wp2;go_roundw
      case rel=>exact ⟨j+1,by omega,by go_num,B3.out,HJ'.out⟩
      case measure=>simp [intOf];omega
    ·have HK':Hid (∀ a,a<k+1->∀ b,b<y.n->ov a b<0):=fun a ha b hb=>by
      by_cases e:a=k
      ·subst e
       exact HJ.out b (by omega)
      ·exact HK.out a (by omega) b hb
     clear HK HJ;go_wp2;go_roundw
     case rel=>exact ⟨k+1,by omega,by go_num,HB.out,HK'.out⟩
     case measure=>simp [intOf];omega
  ·have HV:Hid (qB (∀ a,a<y.n->∀ b,b<y.n->ov a b<0)=true):=qa5 fun a ha b hb=>HK.out a (by omega) b hb
   have B3:=HB.out;clear HK HB;go_wp2;go_ret;rw [HV.out];exact ⟨rfl,B3⟩
def Sy.at (y:Sy) (c:List Int):Hs:=⟨c.length,cN c,y.hH⟩
theorem qux {w:World} {X hc n:Nat} {ha:Option Addr} {cs:List Value} (h:w.rangeAt X 0 cs) (e:hcL ha n hc=cs):w.cell? (aQ X 0)=some (.slice ha n hc):=by
 subst e;have:=h 0 (.slice ha n hc) rfl;simpa using this
def sm:List Int->Nat
 | []=>0
 | x :: xs=>x.toNat+sm xs
theorem qwv:∀ (e:List Int) (b:Nat) (k:Int),b<e.length->k<zi e b->0<=k->sm (e.set b k)<sm e
 | [],b,k,hb,_,_=>by simp at hb
 | x :: xs,0,k,_,hk,h0=>by
  have h1:zi (x :: xs) 0=x:=rfl;rw [h1] at hk;simp only [zE,sm];omega
 | x :: xs,b+1,k,hb,hk,h0=>by
  have h1:zi (x :: xs) (b+1)=zi xs b:=rfl;rw [h1] at hk;have:=qwv xs b k (by simpa using hb) hk h0;simp only [zF,sm];omega
