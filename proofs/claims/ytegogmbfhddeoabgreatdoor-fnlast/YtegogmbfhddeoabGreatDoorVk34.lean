import Derived.Test.YtegogmbfhddeoabGreatDoorVk28
import Derived.Test.YtegogmbfhddeoabGreatDoorVk33
namespace Go.Proofs.YtegogmbfhddeoabGreatDoor
set_option maxRecDepth 100000
set_option maxHeartbeats 8000000
open Go.ChangeShapes Go.WideShapes Go.ChangeAt Go.RowKit Go.Deep
noncomputable def nwN (n:Nat) (L:Nat->Nat) (H:Nat->Nat->I5):Nat:=if snB n L H=true then n else 0
def NwR (w:World) (n:Nat) (L:Nat->Nat) (H:Nat->Nat->I5) (e:Ending) (w':World):Prop:=∃ pa pc sa sc wa wc ha hc,e=.returned (.tuple #[sysV pa (nwN n L H) pc sa (nwN n L H) sc wa (nwN n L H*nwN n L H) wc ha (nwN n L H) hc,.bool (snB n L H)])/\Own1 w' w.heap.size w'.heap.size (nwN n L H) L H (.slice pa (nwN n L H) pc) (.slice sa (nwN n L H) sc) (.slice wa (nwN n L H*nwN n L H) wc) (.slice ha (nwN n L H) hc)/\Below w.heap.size w w'
theorem NwR.yes {w w':World} {n:Nat} {L:Nat->Nat} {H:Nat->Nat->I5} {pa sa wa ha:Option Addr} {pc sc wc hc:Nat} (h:snB n L H=true) (o:Own1 w' w.heap.size w'.heap.size n L H (.slice pa n pc) (.slice sa n sc) (.slice wa (n*n) wc) (.slice ha n hc)) (b:Below w.heap.size w w'):NwR w n L H (.returned (.tuple #[sysV pa n pc sa n sc wa (n*n) wc ha n hc,.bool true])) w':=by
 have e:nwN n L H=n:=if_pos h;refine ⟨pa,pc,sa,sc,wa,wc,ha,hc,?_,?_,b⟩
 ·rw [e,h]
 ·rw [e]
  exact o
theorem NwR.no {w w':World} {n:Nat} {L:Nat->Nat} {H:Nat->Nat->I5} (h:snB n L H=false) (b:Below w.heap.size w w'):NwR w n L H (.returned (.tuple #[sysV none 0 0 none 0 0 none 0 0 none 0 0,.bool false])) w':=by
 have e:nwN n L H=0:=if_neg (by rw [h];decide);refine ⟨none,0,none,0,none,0,none,0,?_,?_,b⟩
 ·rw [e,h]
 ·rw [e]
  exact Own1.zero _ _ _ _ _
theorem qib (pa:Option Addr) (n pc:Nat) (A:Nat->Option Addr) (L C:Nat->Nat) (H:Nat->Nat->I5) (w:World) (hn:n<=1048576) (hL:∀ i,i<n->L i<=1048576) (hr:RowS w pa n fun i=>.slice (A i) (L i) (C i)) (hI:∀ i,i<n->Src w (A i) (fI (H i) (L i))):
  Calls Tryz.prog 143 #[.slice pa n pc] w (NwR w n L H):=by
 have hn':(n:Int)<=1048576:=by omega
 have HP:Hid (∀ wx,Below w.heap.size w wx->Calls Tryz.prog 155 #[.slice pa n pc] wx fun e w'=>∃ v u,e=.returned v/\LI true w' (fun k=>wx.heap.size<=k/\k<w'.heap.size) v n u L H/\Below wx.heap.size wx w'):=fun wx hb=>qhi pa n pc A L C H wx hn hL (hr.below hb) fun i hi=>(hI i hi).below hb;have HL:Hid (∀ i,i<n->L i<=1048576):=hL;have BW:Hid (Below w.heap.size w (w.alloc (zQ4))):=zQ _ _;have RB:Hid (BoxC (w.alloc (zQ4)) w.heap.size (.slice none 0 0) (.slice none 0 0) (.slice none 0 0) (.slice none 0 0)/\∀ j,(w.alloc (zQ4)).frozen? ⟨w.heap.size,j,none⟩=false):=⟨BoxC.new w _ _ _ _ _,fun j=>yB _ _ _ _ rfl⟩
 have hM:w.heap.size<=w.heap.size:=Nat.le_refl _;clear hL hr hI;by_cases h4:n<=4
 case neg=>
  have h4':(4:Int)<(n:Int):=by omega
  have HV:Hid (snB n L H=false):=by
   show snB n L H=false;rw [snB,decide_eq_false h4];rfl
  go_enter Tryz.func143,Tryz.ntmps143
  go_upto_region 1 with fail
  generalize w.alloc (zQ4)=W1 at *;obtain ⟨⟨r0,r1,r2,r3⟩,rf⟩:=RB.out;go_wp2;exact bodyPost_ret (v:=.tuple #[sysV none 0 0 none 0 0 none 0 0 none 0 0,.bool false]) (by simp [results,Tryz.results143,go_sem,r0,r1,r2,r3]) rfl (NwR.no HV.out ((((BW.out.setCell hM _).setCell hM _).setCell hM _).setCell hM _))
 have h4':¬ (4:Int)<(n:Int):=by omega
 obtain ⟨NN,hNN⟩:∃ NN,NN=n*n:=⟨_,rfl⟩
 have HNN:Hid (NN=n*n):=hNN;have hm0:(n:Int)*(n:Int)=(NN:Int):=by rw [hNN];simp
 have h16:NN<=16:=by rw [hNN];exact zP (Nat.mul_le_mul h4 h4) (by omega)
 have h16':(NN:Int)<=16:=by omega
 have hn4:(n:Int)<=4:=by omega
 clear hNN
 go_enter Tryz.func143,Tryz.ntmps143
 go_upto_region 4 with fail
 have z1:w.heap.size<(w.alloc (zQ4)).heap.size:=by simp
 generalize w.alloc (zQ4)=W1 at *;have F0:Hid (NwF W1 n L H false false false false undef undef undef undef W1.drew):=⟨(Below.refl _ _).drew,fun _=>0,(fun e=>by cases e),(fun e=>by cases e),(fun e=>by cases e),(fun e=>by cases e)⟩
 refine qan (fun _=>True) (fun _=>false) (by kernel_rfl) ?_;refine qbi [0,2,3] ?_;iterate 3 (refine qb1 rfl trivial ?_)
 refine qa9 ?_;refine qj7 4 rfl trivial ⟨.int .i64 (NN:Int),fun wq _=>?_,?_⟩
 ·go_simp
  rw [IntKind.wrap_i64];omega
 (try simp only [Act.put,zD,zE,zF])
 refine qap 6 rfl trivial ?_;refine qt6 6 #[true,false,true,true,true,false,true,false,false,false,false] (by kernel_rfl) (by kernel_rfl) ?_;refine qt7 (fun a b c d e=>#[true,a,true,true,true,b,true,c,e,d,false]) 1 5 7 9 8 (fun a b c d x wq=>∃ v1 v2 v3 v4,x=⟨#[.slice pa n pc,undef,.pointer (some ⟨w.heap.size,0,none⟩),.bool false,.int .i64 n,v4,undef,.slice pa n pc,.int .i64 n,.int .i64 n,.bool false,undef,.slice pa n pc,v1,.int .i64 n,.int .i64 n,.int .i64 NN,v2,.int .i64 n,v3,undef,undef,undef,undef,undef,undef,undef,undef,undef,undef,undef,undef,undef,undef,undef,undef,undef],[]⟩/\NwF W1 n L H a b c d v1 v2 v3 v4 wq) (fun d x wq=>∃ a1 c1 a2 c2 a3 c3 v4,x=⟨#[.slice pa n pc,undef,.pointer (some ⟨w.heap.size,0,none⟩),.bool false,.int .i64 n,v4,undef,.slice pa n pc,.int .i64 n,.int .i64 n,.bool false,undef,.slice pa n pc,.slice a1 n c1,.int .i64 n,.int .i64 n,.int .i64 NN,.slice a2 (n*n) c2,.int .i64 n,.slice a3 n c3,.agg #[.slice a1 n c1,.slice none 0 0,.slice a2 (n*n) c2,.slice a3 n c3],undef,undef,undef,undef,undef,undef,undef,undef,undef,undef,undef,undef,undef,undef,undef,undef],[]⟩/\NwF W1 n L H true true true d (.slice a1 n c1) (.slice a2 (n*n) c2) (.slice a3 n c3) v4 wq) (f0:=1) ?_ (fun _ _ _=>rfl) (fun _ _ _=>rfl) (fun _ _ _=>rfl) (fun _ _ _ _=>rfl) (fun _=>rfl) rfl (by kernel_rfl) (fun d=>by cases d <;> kernel_rfl) (fun d=>by cases d <;> kernel_rfl) (by kernel_rfl) (fun _ _ _ _ h=>h) ?_ ?_ ?_ ?_ ?_ ?_ ?_ 4 false false false false _ _ rfl ⟨_,_,_,_,rfl,F0.out⟩
 ·intro a b c d h
  cases a <;> cases b <;> cases c <;> cases d <;> first | exact absurd h (by decide) | kernel_rfl
 ·rintro b c d x wq ⟨v1,v2,v3,v4,rfl,F⟩
  refine wpOp_step rfl fun K hK=>?_;refine qal rfl 155 _ _ rfl #[.slice pa n pc] (by simp [Act.eval]) (yA Tryz.func155 (by kernel_rfl) rfl) (HP.out wq (BW.out.trans (F.be.mono BW.out.size))) ?_;rintro e w5 ⟨v5,u5,rfl,o5,d5⟩;exact ⟨_,rfl,hK _ _ ⟨fun _ _=>trivial,v5,v2,v3,v4,rfl,F.one o5 d5⟩⟩
 ·rintro a c d x wq ⟨v1,v2,v3,v4,rfl,F⟩
  have hmk:=qfq qpc qu1 NN (by omega) wq;refine wpOp_step rfl fun K hK=>?_;go_simp;refine hK _ _ ⟨fun _ _=>trivial,v1,.slice (some ⟨wq.heap.size,0,none⟩) NN NN,v3,v4,rfl,?_⟩;rw [HNN.out];exact F.two (by rw [<- HNN.out];omega)
 ·rintro a b d x wq ⟨v1,v2,v3,v4,rfl,F⟩
  have hmk:=qfq qla qta n (by omega) wq;refine wpOp_step rfl fun K hK=>?_;go_simp;exact hK _ _ ⟨fun _ _=>trivial,v1,v2,.slice (some ⟨wq.heap.size,0,none⟩) n n,v4,rfl,F.three (by omega)⟩
 ·rintro a b c x wq ⟨v1,v2,v3,v4,rfl,F⟩
  refine wpOp_step rfl fun K hK=>?_;go_simp;exact hK _ _ ⟨fun _ _=>trivial,v1,v2,v3,.pointer (some ⟨wq.heap.size,0,none⟩),rfl,F.four⟩
 ·rintro d x wq ⟨v1,v2,v3,v4,rfl,F⟩
  obtain ⟨k,h1,h2,h3,-⟩:=F.ow;obtain ⟨u,o1⟩:=h1 rfl;obtain ⟨a1,c1,rfl⟩:=zU o1.row;obtain ⟨a2,c2,rfl⟩:=zU (h2 rfl).row;obtain ⟨a3,c3,rfl⟩:=zU (h3 rfl).row;refine ⟨rfl,.agg #[.slice a1 n c1,.slice none 0 0,.slice a2 (n*n) c2,.slice a3 n c3],fun wz=>?_,a1,c1,a2,c2,a3,c3,v4,rfl,F⟩;go_simp
 ·rintro x wq ⟨a1,c1,a2,c2,a3,c3,v4,rfl,F⟩
  refine wpOp_step rfl fun K hK=>?_;go_simp;exact hK _ _ ⟨fun _ _=>trivial,a1,c1,a2,c2,a3,c3,.pointer (some ⟨wq.heap.size,0,none⟩),rfl,F.four⟩
 rintro x w4 ⟨a1,c1,a2,c2,a3,c3,v4,rfl,F⟩;clear F0;obtain ⟨N,c,up,us,rfl,nl,⟨g0,g1,g2,g3⟩,gf,ns⟩:=NwS.start F rfl (.inr trivial);refine qaa 10 rfl (by kernel_rfl) (fun K hK=>?_);go_simp;refine hK.out _ _ (fun _=>trivial) ?_;clear hK K
 (try simp only [zD,zE,zF])
 refine qau (by kernel_rfl) ?_ _;have NS0:Hid (NwS W1 N n L H true 0 ((((w4.setCell ⟨N,0,none⟩ (.slice a1 n c1)).setCell ⟨N,1,none⟩ (.slice none 0 0)).setCell ⟨N,2,none⟩ (.slice a2 (n*n) c2)).setCell ⟨N,3,none⟩ (.slice a3 n c3)) (.slice a1 n c1) (.slice none 0 0) (.slice a2 (n*n) c2) (.slice a3 n c3) c up us):=ns;clear ns g0 g1 g2 g3 gf nl F;go_upto_region 5 with fail
 generalize ((((w4.setCell ⟨N,0,none⟩ (.slice a1 n c1)).setCell ⟨N,1,none⟩ (.slice none 0 0)).setCell ⟨N,2,none⟩ (.slice a2 (n*n) c2)).setCell ⟨N,3,none⟩ (.slice a3 n c3))=W5 at *;go_wp2_with fail
 go_loopw [6] (fun i wr=>∃ k:Nat,k<=n/\i=.int .i64 k/\Hid (∃ vs c up us,NwS W1 N n L H true k wr (.slice a1 n c1) vs (.slice a2 (n*n) c2) (.slice a3 n c3) c up us)) (fun i _=>n - (intOf i).toNat)
 case atStart=>exact ⟨0,Nat.zero_le _,rfl,_,_,_,_,NS0.out⟩
 case round=>
  clear NS0 c up us;obtain ⟨k,hk,rfl,HK⟩:=hrel;obtain ⟨vs,c,up,us,ns⟩:=HK.out;have NS:Hid (NwS W1 N n L H true k wr (.slice a1 n c1) vs (.slice a2 (n*n) c2) (.slice a3 n c3) c up us):=ns;clear ns HK;by_cases hlt:k<n
  ·have hlt':(k:Int)<(n:Int):=by omega
   go_wp2_with fail
   obtain ⟨x0,x1,x2,x3⟩:=NS.out.bx;have xf:=NS.out.fr;obtain ⟨sa,sc,rfl⟩:=zU NS.out.s.row;have nl:=NS.out.lt;refine qan (fun w'=>w'.cell? ⟨N,1,none⟩=some (.slice sa k sc)) (fun i=>i == 6) (by kernel_rfl) ?_;have hHeld:(fun w':World=>w'.cell? ⟨N,1,none⟩=some (.slice sa k sc)) wr.drew:=x1;refine qap 0 rfl hHeld ?_;refine qap 1 rfl hHeld ?_;refine qaa 2 rfl (by kernel_rfl) (fun K hK=>?_);refine qal rfl 67 _ _ rfl #[] (by simp) (yA Tryz.func67 (by kernel_rfl) rfl) (qdp wr.drew) ?_;rintro e w5 ⟨u5,rfl,o5,d5⟩;refine ⟨_,rfl,?_⟩;obtain ⟨ra5,rc5,oa5,oc5,rfl,-,-⟩:=o5.read;have q5:Below wr.heap.size wr w5:=(Below.refl wr.heap.size wr).drew.trans d5;have hc5:=(qah q5).1;refine hK.out _ _ (fun _=>(hc5 _ _ nl).trans x1) ?_;clear hK K
   (try simp only [Act.put,zD,zE,zF])
   refine qaa 3 rfl (by kernel_rfl) (fun K hK=>?_);go_simp;have ba:=zQ w5 (oQ1 0 ra5 4 rc5 oa5 0 oc5 0);refine hK.out _ _ (fun _=>((ba.cell (p:=⟨N,1,none⟩) (zL nl q5.size)).trans ((hc5 _ _ nl).trans x1))) ?_;clear ba;clear hK K
   (try simp only [Act.put,zD,zE,zF])
   refine qaa 4 rfl (by kernel_rfl) (fun K hK=>?_);refine qa5 kndS w5 rfl rfl _ _ rfl 0 (.slice sa k sc) k _ rfl (NS.out.s.below q5).row #[.int .i64 0,.slice ra5 4 rc5,.slice oa5 0 oc5,.int .i64 0] rfl rfl (by intro u hu;simp at hu;rcases hu with rfl | rfl | rfl | rfl <;> rfl) (by omega) (Nat.zero_le _) ?_;intro v6 w6 o6 g6 q6 n6;obtain ⟨a6,c6,rfl⟩:=zU o6
   have gN : w6.heap[N]? = wr.heap[N]? := (g6.block N (Nat.lt_of_lt_of_le nl q5.size) fun e => by
    have:=(NS.out.s.rb N e.symm).2;rw [NS.out.cN] at this
    cases this).trans (q5.block N nl)
   have y1:=(zH gN).trans x1;have yf:∀ j,w6.frozen? ⟨N,j,none⟩=false:=fun j=>(zI gN).trans (xf j);have NS6:Hid (NwS W1 N n L H true (k+1) (w6.setCell ⟨N,1,none⟩ (.slice a6 (k+1) c6)) (.slice a1 n c1) (.slice a6 (k+1) c6) (.slice a2 (n*n) c2) (.slice a3 n c3) (rcol c wr.heap.size 2) up (fun j=>if j=k then stV 0 ra5 4 rc5 oa5 0 oc5 0 else us j)):=NS.out.push q5 (o5.mono (by simp)) o6 g6 q6;refine hK.out _ _ (fun _=>y1) ?_;clear hHeld;have hHeld:(fun w':World=>w'.cell? ⟨N,1,none⟩=some (.slice sa k sc)) w6:=y1;clear o6 g6 q6 n6 gN;clear hK K
   (try simp only [Act.put,zD,zE,zF])
   refine qap 5 rfl hHeld ?_;refine qaa 6 rfl (by kernel_rfl) (fun K hK=>?_);have y2:=yf 1;go_simp;refine hK.out _ _ (fun h=>?_) ?_
   ·exact absurd h (by decide)
   clear hK K
   (try simp only [Act.put,zD,zE,zF])
   refine qau (by kernel_rfl) ?_ _;clear x0 x1 x2 x3 xf y1 y2 yf hHeld o5 d5 q5 hc5;go_wp2;go_roundw
   case rel=>exact ⟨k+1,by omega,by go_num,_,_,_,_,NS6.out⟩
   case measure=>simp [intOf];omega
  ·have hkn:k=n:=by omega
   have NS':=NS.out;rw [hkn] at NS';obtain ⟨sa,sc,rfl⟩:=zU NS'.s.row;have NE:Hid (NwS W1 N n L H true n wr (.slice a1 n c1) (.slice sa n sc) (.slice a2 (n*n) c2) (.slice a3 n c3) c up us):=NS';clear NS NS' hkn
   have HG:Hid (∀ wx,Below wr.heap.size wr wx->Calls Tryz.prog 19 #[sysV a1 n c1 sa n sc a2 (n*n) c2 a3 n c3] wx fun e w'=>e=.returned (.bool (nwY n L H).okB)/\Below wx.heap.size wx w'):=fun wx hb=>by
    have h:=NE.out.below hb;have hp:=h.p rfl
    exact qcq (nwX a1 n c1 (fun i => adOf (up i)) L (fun i => cpOf (up i)) H (.slice sa n sc) (.slice a2 (n * n) c2) (.slice a3 n c3) us) wx (h.g (qex hp) fun i hi => by
     obtain ⟨b,cap,eu,hb',hI,-⟩:=atI (hp.own i hi) (hp.nn nzI i hi)
     exact ⟨b,by rw [eu];rfl,hb',hI⟩) (qu3 h4 HL.out) (fun i _=>Nat.le_refl _)
   obtain ⟨x0,x1,x2,x3⟩:=NE.out.bx;go_wp2_with fail
   refine (HG.out wr (Below.refl _ _)).mono ?_;rintro e w6 ⟨rfl,q6⟩;have NF:Hid (NwS W1 N n L H true n w6 (.slice a1 n c1) (.slice sa n sc) (.slice a2 (n*n) c2) (.slice a3 n c3) c up us):=NE.out.below q6;have hbe:=NF.out.be;have R6:Hid (BoxC w6 w.heap.size (.slice none 0 0) (.slice none 0 0) (.slice none 0 0) (.slice none 0 0)/\∀ j,w6.frozen? ⟨w.heap.size,j,none⟩=false):=⟨RB.1.below hbe,fun j=>((qah hbe).2 _ j z1).trans (RB.2 j)⟩
   have B6:Hid (Below w.heap.size w w6):=BW.out.trans (hbe.mono BW.out.size);clear q6 NE HG x0 x1 x2 x3 hbe;obtain ⟨⟨r0,r1,r2,r3⟩,rf⟩:=R6.out
   rcases zK (nwY n L H).okB with t | t
   case inr=>
    have HV:Hid (snB n L H=false):=by
     show snB n L H=false;rw [snB,t,Bool.and_false]
    rw [t];clear t;go_wp2;exact bodyPost_ret (v:=.tuple #[sysV none 0 0 none 0 0 none 0 0 none 0 0,.bool false]) (by simp [results,Tryz.results143,go_sem,r0,r1,r2,r3]) rfl (NwR.no HV.out ((((B6.out.setCell hM _).setCell hM _).setCell hM _).setCell hM _))
   have HV:Hid (snB n L H=true):=by
    show snB n L H=true;rw [snB,t,decide_eq_true h4];rfl
   rw [t];clear t;obtain ⟨x0,x1,x2,x3⟩:=NF.out.bx;go_wp2;exact bodyPost_ret (v:=.tuple #[sysV a1 n c1 sa n sc a2 (n*n) c2 a3 n c3,.bool true]) (by simp [results,Tryz.results143,go_sem,r0,r1,r2,r3]) rfl (NwR.yes HV.out (((NF.out.own1 rfl).out4 z1 _ _ _ _).base (Nat.le_of_lt z1) (by simp)) ((((B6.out.setCell hM _).setCell hM _).setCell hM _).setCell hM _))
theorem Own1.g {w:World} {B T n pc:Nat} {L:Nat->Nat} {H:Nat->Nat->I5} {pa:Option Addr} {vs vw vh:Value} (o:Own1 w B T n L H (.slice pa n pc) vs vw vh):∃ A C us,SysG w (nwX pa n pc A L C H vs vw vh us):=by
 obtain ⟨c,up,us,o,-⟩:=o;refine ⟨fun i=>adOf (up i),fun i=>cpOf (up i),us,qu2 o.s o.t o.h (qex o.p) fun i hi=>?_⟩;obtain ⟨b,cap,eu,hb,hI,-⟩:=atI (o.p.own i hi) (o.p.nn nzI i hi);exact ⟨b,by show adOf (up i)=_;rw [eu];rfl,hb,hI⟩
theorem LL.weak {z:Bool} {e:TypeId} {sz:Nat} {E:TypeId} {w:World} {P:Nat->Prop} {v:Value} {n:Nat} {u:Nat->Value} {L:Nat->Nat} {c:Nat->List Value} (o:LL z e sz E w P v n u L c):LL false e sz E w P v n u L c:=
 ⟨o.row,o.own,o.rb,o.ob,o.ra,o.oa,fun h i hi=>o.nn (h.elim (fun h=>by cases h) .inr) i hi⟩
theorem OwnS.weak {z:Bool} {w:World} {B:Nat} {c:Nat->Nat} {y:Sy} {vp vs vw vh:Value} {up us uw uh:Nat->Value} (o:OwnS z w B c y vp vs vw vh up us uw uh):OwnS false w B c y vp vs vw vh up us uw uh:=⟨o.p.weak,o.s,o.t.weak,o.h.weak⟩
theorem ZL.ll {e:TypeId} {sz:Nat} {E:TypeId} {w:World} {P:Nat->Prop} {v:Value} {n:Nat} (o:ZL E w P v n) (he:e≠97) (c:Nat->List Value) (hc:∀ i,c i=[]):LL false e sz E w P v n (fun _=>.slice none 0 0) (fun _=>0) c:=
 ⟨(by rw [List.map_const'];simpa using o.row),fun i _=>by rw [hc];exact World.ownsRow_nil _ _ _ _,o.rb,fun i _ k hk=>(by cases hk),fun i _ k hk=>(by cases hk),fun i j _ _ _ k hk=>(by cases hk),fun h _ _=>h.elim (fun h=>by cases h) (fun h=>absurd h he)⟩
theorem qak.toz {z:Bool} {w:World} {B:Nat} {y:Sy} {v:Value} (o:qak true w B y v):qak z w B y v:=by
 cases z with
 | true=>exact o
 | false=>
  obtain ⟨c,vp,vs,vw,vh,up,us,uw,uh,e,o⟩:=o;exact ⟨c,vp,vs,vw,vh,up,us,uw,uh,e,o.weak⟩
def Abv (c:Nat) (w w':World):Prop:=w.heap.size<=w'.heap.size/\∀ b,c<b->b<w.heap.size->w'.heap[b]? = w.heap[b]?
theorem Abv.refl (c:Nat) (w:World):Abv c w w:=⟨Nat.le_refl _,fun _ _ _=>rfl⟩
theorem Abv.trans {c:Nat} {w w1 w2:World} (h:Abv c w w1) (k:Abv c w1 w2):Abv c w w2:=
 ⟨zP h.1 k.1,fun b hb hl=>(k.2 b hb (zL hl h.1)).trans (h.2 b hb hl)⟩
theorem Abv.grown {c:Nat} {w w':World} (h:w.grownBy w' (some c)):Abv c w w':=⟨h.size,fun b hb hl=>h.block b hl (by simp;omega)⟩
theorem Abv.below {c:Nat} {w w':World} (h:Below w.heap.size w w'):Abv c w w':=⟨h.size,fun b _ hl=>h.block b hl⟩
def SysK (c:Nat) (w:World) (x:SysIn):Prop:=∀ w',Abv c w w'->SysG w' x
theorem SysK.g {c:Nat} {w:World} {x:SysIn} (h:SysK c w x):SysG w x:=h w (Abv.refl c w)
theorem SysK.on {c:Nat} {w w':World} {x:SysIn} (h:SysK c w x) (k:Abv c w w'):SysK c w' x:=fun w2 h2=>h w2 (k.trans h2)
theorem Own1.k {w:World} {c B T n pc:Nat} {L:Nat->Nat} {H:Nat->Nat->I5} {pa:Option Addr} {vs vw vh:Value} (o:Own1 w B T n L H (.slice pa n pc) vs vw vh) (hB:c<B):∃ A C us,SysK c w (nwX pa n pc A L C H vs vw vh us):=by
 obtain ⟨col,up,us,o,-⟩:=o;refine ⟨fun i=>adOf (up i),fun i=>cpOf (up i),us,fun w' hw=>?_⟩;have key:∀ i b,Cl B col i b->b<w.heap.size->w'.heap[b]? = w.heap[b]?:=fun i b hb hl=>hw.2 b (zL hB hb.1) hl;have hp:=o.p.keep (key 1);refine qu2 (o.s.keep (key 2)) (o.t.keep (key 3)) (o.h.keep (key 4)) (qex hp) fun i hi=>?_;obtain ⟨b,cap,eu,hb,hI,-⟩:=atI (hp.own i hi) (hp.nn nzI i hi);exact ⟨b,by show adOf (up i)=_;rw [eu];rfl,hb,hI⟩
theorem OwnS.k {w:World} {d B:Nat} {c:Nat->Nat} {y:Sy} {vp vs vw vh:Value} {up us uw uh:Nat->Value} (o:OwnS true w B c y vp vs vw vh up us uw uh) (hB:d<B):SysK d w (y.sysIn vp vs vw vh up us uw uh):=by
 intro w' hw;have key:∀ i b,Cl B c i b->b<w.heap.size->w'.heap[b]? = w.heap[b]?:=fun i b hb hl=>hw.2 b (zL hB hb.1) hl;exact OwnS.g (B:=B) (c:=c) ⟨o.p.keep (key 1),o.s.keep (key 2),o.t.keep (key 3),o.h.keep (key 4)⟩
theorem Own1.s {w:World} {B T n:Nat} {L:Nat->Nat} {H:Nat->Nat->I5} {vp vs vw vh:Value} (o:Own1 w B T n L H vp vs vw vh):∃ c up us,OwnS false w B c (nwY n L H) vp vs vw vh up us (fun _=>.slice none 0 0) (fun _=>.slice none 0 0):=by
 obtain ⟨c,up,us,o,-⟩:=o;exact ⟨c,up,us,o.p.weak,o.s,o.t.ll (by decide) _ (fun _=>rfl),o.h.ll (by decide) _ (fun _=>rfl)⟩
theorem OwnS.nf {z:Bool} {w:World} {B:Nat} {c:Nat->Nat} {y:Sy} {vp vs vw vh:Value} {up us uw uh:Nat->Value} (o:OwnS z w B c y vp vs vw vh up us uw uh):(y.sysIn vp vs vw vh up us uw uh).Nn false:=by
 refine ⟨fun i hi=>?_,fun i hi=>?_⟩
 ·rcases (o.t.own i hi).2 with ⟨e,h⟩ | ⟨g,cap,cur,e,_⟩
  ·exact .inr ⟨rfl,by show adOf (uw i)=none;rw [e];rfl,h,by show cpOf (uw i)=0;rw [e];rfl⟩
  ·exact .inl ⟨g,0,by show adOf (uw i)=_;rw [e];rfl⟩
 ·rcases (o.h.own i hi).2 with ⟨e,h⟩ | ⟨g,cap,cur,e,_⟩
  ·exact .inr ⟨rfl,by show adOf (uh i)=none;rw [e];rfl,h,by show cpOf (uh i)=0;rw [e];rfl⟩
  ·exact .inl ⟨g,0,by show adOf (uh i)=_;rw [e];rfl⟩
