import Derived.Test.YthgpldgkabcopaaGreatDoorYh32
import Derived.Test.YthgpldgkabcopaaGreatDoorYh33
namespace Go.Proofs.YthgpldgkabcopaaGreatDoor
set_option maxRecDepth 100000
set_option maxHeartbeats 8000000
open Go.ChangeShapes Go.WideShapes Go.ChangeAt Go.RowKit Go.Deep
noncomputable def nwN (n:Nat) (L:Nat->Nat) (H:Nat->Nat->I5):Nat:=if snB n L H=true then n else 0
def NwR (w:World) (n:Nat) (L:Nat->Nat) (H:Nat->Nat->I5) (e:Ending) (w':World):Prop:=∃ pa pc sa sc wa wc ha hc,e=.returned (.tuple #[sysV pa (nwN n L H) pc sa (nwN n L H) sc wa (nwN n L H*nwN n L H) wc ha (nwN n L H) hc,.bool (snB n L H)])/\Own1 w' w.heap.size w'.heap.size (nwN n L H) L H (.slice pa (nwN n L H) pc) (.slice sa (nwN n L H) sc) (.slice wa (nwN n L H*nwN n L H) wc) (.slice ha (nwN n L H) hc)/\Bw w w'
theorem NwR.yes {w w':World} {n:Nat} {L:Nat->Nat} {H:Nat->Nat->I5} {pa sa wa ha:Option Addr} {pc sc wc hc:Nat} (h:snB n L H=true) (o:Own1 w' w.heap.size w'.heap.size n L H (.slice pa n pc) (.slice sa n sc) (.slice wa (n*n) wc) (.slice ha n hc)) (b:Bw w w'):NwR w n L H (.returned (.tuple #[sysV pa n pc sa n sc wa (n*n) wc ha n hc,.bool true])) w':=by
 have e:nwN n L H=n:=if_pos h
 refine ⟨pa,pc,sa,sc,wa,wc,ha,hc,?_,?_,b⟩
 ·rw [e,h]
 ·rw [e]
  exact o
theorem NwR.no {w w':World} {n:Nat} {L:Nat->Nat} {H:Nat->Nat->I5} (h:snB n L H=false) (b:Bw w w'):NwR w n L H (.returned (.tuple #[sysV none 0 0 none 0 0 none 0 0 none 0 0,.bool false])) w':=by
 have e:nwN n L H=0:=if_neg (by rw [h];decide)
 refine ⟨none,0,none,0,none,0,none,0,?_,?_,b⟩
 ·rw [e,h]
 ·rw [e]
  exact Own1.zero _ _ _ _ _
theorem qir (pa:Option Addr) (n pc:Nat) (A:Nat->Option Addr) (L C:Nat->Nat) (H:Nat->Nat->I5) (w:World) (hn:n<=1048576) (hL:∀ i,i<n->L i<=1048576) (hr:RowS w pa n fun i=>.slice (A i) (L i) (C i)) (hI:∀ i,i<n->Src w (A i) (fI (H i) (L i))):
  Calls Tryz.prog 144 #[.slice pa n pc] w (NwR w n L H):=by
 have hn':(n:Int)<=1048576:=by omega
 have HP:Hid (∀ wx,Bw w wx->Calls Tryz.prog 72 #[.slice pa n pc] wx fun e w'=>∃ v u,e=.returned v/\LI true w' (fun k=>wx.heap.size<=k/\k<w'.heap.size) v n u L H/\Bw wx w'):=fun wx hb=>qfu pa n pc A L C H wx hn hL (hr.below hb) fun i hi=>(hI i hi).below hb
 have HL:Hid (∀ i,i<n->L i<=1048576):=hL
 have BW:Hid (Bw w (w.alloc (zQ3))):=zQ _ _
 have RB:Hid (BoxC (w.alloc (zQ3)) w.heap.size (.slice none 0 0) (.slice none 0 0) (.slice none 0 0) (.slice none 0 0)/\∀ j,(w.alloc (zQ3)).frozen? ⟨w.heap.size,j,none⟩=false):=⟨BoxC.new w _ _ _ _ _,fun j=>yD _ _ _ _ rfl⟩
 have hM:w.heap.size<=w.heap.size:=Nat.le_refl _
 clear hL hr hI
 by_cases h4:n<=4
 case neg=>
  have h4':(4:Int)<(n:Int):=by omega
  have HV:Hid (snB n L H=false):=by
   show snB n L H=false
   rw [snB,decide_eq_false h4]
   rfl
  go_enter Tryz.func144,Tryz.ntmps144
  go_upto_region 1 with fail
  generalize w.alloc (zQ3)=W1 at *
  obtain ⟨⟨r0,r1,r2,r3⟩,rf⟩:=RB.out
  go_wp2
  exact bodyPost_ret (v:=.tuple #[sysV none 0 0 none 0 0 none 0 0 none 0 0,.bool false]) (by simp [results,Tryz.results144,go_sem,r0,r1,r2,r3]) rfl (NwR.no HV.out ((((BW.out.setCell hM _).setCell hM _).setCell hM _).setCell hM _))
 have h4':¬ (4:Int)<(n:Int):=by omega
 obtain ⟨NN,hNN⟩:∃ NN,NN=n*n:=⟨_,rfl⟩
 have HNN:Hid (NN=n*n):=hNN
 have hm0:(n:Int)*(n:Int)=(NN:Int):=by rw [hNN];simp
 have h16:NN<=16:=by rw [hNN];exact zP (Nat.mul_le_mul h4 h4) (by omega)
 have h16':(NN:Int)<=16:=by omega
 have hn4:(n:Int)<=4:=by omega
 clear hNN
 go_enter Tryz.func144,Tryz.ntmps144
 go_upto_region 4 with fail
 have z1:w.heap.size<(w.alloc (zQ3)).heap.size:=by simp
 generalize w.alloc (zQ3)=W1 at *
 have F0:Hid (NwF W1 n L H false false false false undef undef undef undef W1.drew):=⟨(Below.refl _ _).drew,fun _=>0,(fun e=>by cases e),(fun e=>by cases e),(fun e=>by cases e),(fun e=>by cases e)⟩
 refine qae (fun _=>True) (fun _=>false) (by kernel_rfl) ?_
 refine qad 0 rfl trivial ?_
 apply Exists.intro
 refine ⟨fun wq hSw=>?_,?_⟩
 ·(try dsimp only at hSw)
  go_simp
  try with_reducible rfl
 (try simp only [Act.put,zD,zE,zF])
 refine qad 2 rfl trivial ?_
 apply Exists.intro
 refine ⟨fun wq hSw=>?_,?_⟩
 ·(try dsimp only at hSw)
  go_simp
  try with_reducible rfl
 (try simp only [Act.put,zD,zE,zF])
 refine qad 3 rfl trivial ?_
 apply Exists.intro
 refine ⟨fun wq hSw=>?_,?_⟩
 ·(try dsimp only at hSw)
  go_simp
  try with_reducible rfl
 (try simp only [Act.put,zD,zE,zF])
 refine qad 4 rfl trivial ⟨.int .i64 (NN:Int),fun wq _=>?_,?_⟩
 ·go_simp
  rw [IntKind.wrap_i64]
  omega
 (try simp only [Act.put,zD,zE,zF])
 refine qad 6 rfl trivial ?_
 apply Exists.intro
 refine ⟨fun wq hSw=>?_,?_⟩
 ·(try dsimp only at hSw)
  go_simp
  try with_reducible rfl
 (try simp only [Act.put,zD,zE,zF])
 refine qpu 6 #[true,false,true,true,true,false,true,false,false,false,false] (by kernel_rfl) (by kernel_rfl) ?_
 refine qvd (fun a b c d e=>#[true,a,true,true,true,b,true,c,e,d,false]) 1 5 7 9 8 (fun a b c d x wq=>∃ v1 v2 v3 v4,x=⟨#[.slice pa n pc,undef,.pointer (some (aQ w.heap.size 0)),.bool false,.int .i64 n,v4,undef,.slice pa n pc,.int .i64 n,.int .i64 n,.bool false,undef,.slice pa n pc,v1,.int .i64 n,.int .i64 n,.int .i64 NN,v2,.int .i64 n,v3,undef,undef,undef,undef,undef,undef,undef,undef,undef,undef,undef,undef,undef,undef,undef,undef,undef],[]⟩/\NwF W1 n L H a b c d v1 v2 v3 v4 wq) (fun d x wq=>∃ a1 c1 a2 c2 a3 c3 v4,x=⟨#[.slice pa n pc,undef,.pointer (some (aQ w.heap.size 0)),.bool false,.int .i64 n,v4,undef,.slice pa n pc,.int .i64 n,.int .i64 n,.bool false,undef,.slice pa n pc,.slice a1 n c1,.int .i64 n,.int .i64 n,.int .i64 NN,.slice a2 (n*n) c2,.int .i64 n,.slice a3 n c3,.agg #[.slice a1 n c1,.slice none 0 0,.slice a2 (n*n) c2,.slice a3 n c3],undef,undef,undef,undef,undef,undef,undef,undef,undef,undef,undef,undef,undef,undef,undef,undef],[]⟩/\NwF W1 n L H true true true d (.slice a1 n c1) (.slice a2 (n*n) c2) (.slice a3 n c3) v4 wq) (f0:=1) ?_ (fun _ _ _=>rfl) (fun _ _ _=>rfl) (fun _ _ _=>rfl) (fun _ _ _ _=>rfl) (fun _=>rfl) rfl (by kernel_rfl) (fun d=>by cases d <;> kernel_rfl) (fun d=>by cases d <;> kernel_rfl) (by kernel_rfl) (fun _ _ _ _ h=>h) ?_ ?_ ?_ ?_ ?_ ?_ ?_ 4 false false false false _ _ rfl ⟨_,_,_,_,rfl,F0.out⟩
 ·intro a b c d h
  cases a <;> cases b <;> cases c <;> cases d <;> first | exact absurd h (by decide) | kernel_rfl
 ·rintro b c d x wq ⟨v1,v2,v3,v4,rfl,F⟩
  refine wpOp_step rfl fun K hK=>?_
  refine qah rfl 72 _ _ rfl #[.slice pa n pc] (by simp [Act.eval]) (yB Tryz.func72 (by kernel_rfl) rfl) (HP.out wq (BW.out.trans (F.be.mono BW.out.size))) ?_
  rintro e w5 ⟨v5,u5,rfl,o5,d5⟩
  exact ⟨_,rfl,hK _ _ ⟨fun _ _=>trivial,v5,v2,v3,v4,rfl,F.one o5 d5⟩⟩
 ·rintro a c d x wq ⟨v1,v2,v3,v4,rfl,F⟩
  have hmk:=qd4 qnt qse NN (by omega) wq
  refine wpOp_step rfl fun K hK=>?_
  go_simp
  refine hK _ _ ⟨fun _ _=>trivial,v1,.slice (some (aQ wq.heap.size 0)) NN NN,v3,v4,rfl,?_⟩
  rw [HNN.out]
  exact F.two (by rw [<- HNN.out];omega)
 ·rintro a b d x wq ⟨v1,v2,v3,v4,rfl,F⟩
  have hmk:=qd4 qj1 qub n (by omega) wq
  refine wpOp_step rfl fun K hK=>?_
  go_simp
  exact hK _ _ ⟨fun _ _=>trivial,v1,v2,.slice (some (aQ wq.heap.size 0)) n n,v4,rfl,F.three (by omega)⟩
 ·rintro a b c x wq ⟨v1,v2,v3,v4,rfl,F⟩
  refine wpOp_step rfl fun K hK=>?_
  go_simp
  exact hK _ _ ⟨fun _ _=>trivial,v1,v2,v3,.pointer (some (aQ wq.heap.size 0)),rfl,F.four⟩
 ·rintro d x wq ⟨v1,v2,v3,v4,rfl,F⟩
  obtain ⟨k,h1,h2,h3,-⟩:=F.ow
  obtain ⟨u,o1⟩:=h1 rfl
  obtain ⟨a1,c1,rfl⟩:=zU o1.row
  obtain ⟨a2,c2,rfl⟩:=zU (h2 rfl).row
  obtain ⟨a3,c3,rfl⟩:=zU (h3 rfl).row
  refine ⟨rfl,.agg #[.slice a1 n c1,.slice none 0 0,.slice a2 (n*n) c2,.slice a3 n c3],fun wz=>?_,a1,c1,a2,c2,a3,c3,v4,rfl,F⟩
  go_simp
 ·rintro x wq ⟨a1,c1,a2,c2,a3,c3,v4,rfl,F⟩
  refine wpOp_step rfl fun K hK=>?_
  go_simp
  exact hK _ _ ⟨fun _ _=>trivial,a1,c1,a2,c2,a3,c3,.pointer (some (aQ wq.heap.size 0)),rfl,F.four⟩
 rintro x w4 ⟨a1,c1,a2,c2,a3,c3,v4,rfl,F⟩
 clear F0
 obtain ⟨N,c,up,us,rfl,nl,⟨g0,g1,g2,g3⟩,gf,ns⟩:=NwS.start F rfl (.inr trivial)
 refine qaa 10 rfl (by kernel_rfl) (fun K hK=>?_)
 go_simp
 refine hK.out _ _ (fun _=>trivial) ?_
 clear hK K
 (try simp only [zD,zE,zF])
 refine qap (by kernel_rfl) ?_ _
 have NS0:Hid (NwS W1 N n L H true 0 ((((w4.setCell (aQ N 0) (.slice a1 n c1)).setCell (aQ N 1) (.slice none 0 0)).setCell (aQ N 2) (.slice a2 (n*n) c2)).setCell (aQ N 3) (.slice a3 n c3)) (.slice a1 n c1) (.slice none 0 0) (.slice a2 (n*n) c2) (.slice a3 n c3) c up us):=ns
 clear ns g0 g1 g2 g3 gf nl F
 go_upto_region 5 with fail
 generalize ((((w4.setCell (aQ N 0) (.slice a1 n c1)).setCell (aQ N 1) (.slice none 0 0)).setCell (aQ N 2) (.slice a2 (n*n) c2)).setCell (aQ N 3) (.slice a3 n c3))=W5 at *
 go_wp2_with fail
 go_loopw [6] (fun i wr=>∃ k:Nat,k<=n/\i=.int .i64 k/\Hid (∃ vs c up us,NwS W1 N n L H true k wr (.slice a1 n c1) vs (.slice a2 (n*n) c2) (.slice a3 n c3) c up us)) (fun i _=>n - (intOf i).toNat)
 case atStart=>exact ⟨0,Nat.zero_le _,rfl,_,_,_,_,NS0.out⟩
 case round=>
  clear NS0 c up us
  obtain ⟨k,hk,rfl,HK⟩:=hrel
  obtain ⟨vs,c,up,us,ns⟩:=HK.out
  have NS:Hid (NwS W1 N n L H true k wr (.slice a1 n c1) vs (.slice a2 (n*n) c2) (.slice a3 n c3) c up us):=ns
  clear ns HK
  by_cases hlt:k<n
  ·have hlt':(k:Int)<(n:Int):=by omega
   go_wp2_with fail
   obtain ⟨x0,x1,x2,x3⟩:=NS.out.bx
   have xf:=NS.out.fr
   obtain ⟨sa,sc,rfl⟩:=zU NS.out.s.row
   have nl:=NS.out.lt
   refine qae (fun w'=>w'.cell? (aQ N 1)=some (.slice sa k sc)) (fun i=>i == 6) (by kernel_rfl) ?_
   have hHeld:(fun w':World=>w'.cell? (aQ N 1)=some (.slice sa k sc)) wr.drew:=x1
   refine qau [0,1] ?_
   iterate 2 (refine qaf rfl hHeld ?_;apply Exists.intro;refine ⟨fun wq hSw=>?_,?_⟩;(· ((try dsimp only at hSw);go_simp;try with_reducible rfl));(try simp only [Act.put,zD,zE,zF]))
   refine qao ?_
   refine qaa 2 rfl (by kernel_rfl) (fun K hK=>?_)
   refine qah rfl 111 _ _ rfl #[] (by simp) (yB Tryz.func111 (by kernel_rfl) rfl) (qea wr.drew) ?_
   rintro e w5 ⟨u5,rfl,o5,d5⟩
   refine ⟨_,rfl,?_⟩
   obtain ⟨ra5,rc5,oa5,oc5,rfl,-,-⟩:=o5.read
   have q5:Bw wr w5:=(Below.refl wr.heap.size wr).drew.trans d5
   have hc5:=(qai q5).1
   refine hK.out _ _ (fun _=>(hc5 _ _ nl).trans x1) ?_
   clear hK K
   (try simp only [Act.put,zD,zE,zF])
   refine qaa 3 rfl (by kernel_rfl) (fun K hK=>?_)
   go_simp
   have ba:=zQ w5 (oQ1 0 ra5 4 rc5 oa5 0 oc5 0)
   refine hK.out _ _ (fun _=>((ba.cell (p:=(aQ N 1)) (zL nl q5.size)).trans ((hc5 _ _ nl).trans x1))) ?_
   clear ba
   clear hK K
   (try simp only [Act.put,zD,zE,zF])
   refine qaa 4 rfl (by kernel_rfl) (fun K hK=>?_)
   refine qa2 kndS w5 rfl rfl _ _ rfl 0 (.slice sa k sc) k _ rfl (NS.out.s.below q5).row #[.int .i64 0,.slice ra5 4 rc5,.slice oa5 0 oc5,.int .i64 0] rfl rfl (by intro u hu;simp at hu;rcases hu with rfl | rfl | rfl | rfl <;> rfl) (by omega) (Nat.zero_le _) ?_
   intro v6 w6 o6 g6 q6 n6
   obtain ⟨a6,c6,rfl⟩:=zU o6
   have gN : w6.heap[N]? = wr.heap[N]? := (g6.block N (Nat.lt_of_lt_of_le nl q5.size) fun e => by
    have:=(NS.out.s.rb N e.symm).2
    rw [NS.out.cN] at this
    cases this).trans (q5.block N nl)
   have y1:=(zH gN).trans x1
   have yf:∀ j,w6.frozen? ⟨N,j,none⟩=false:=fun j=>(zI gN).trans (xf j)
   have NS6:Hid (NwS W1 N n L H true (k+1) (w6.setCell (aQ N 1) (.slice a6 (k+1) c6)) (.slice a1 n c1) (.slice a6 (k+1) c6) (.slice a2 (n*n) c2) (.slice a3 n c3) (rcol c wr.heap.size 2) up (fun j=>if j=k then stV 0 ra5 4 rc5 oa5 0 oc5 0 else us j)):=NS.out.push q5 (o5.mono (by simp)) o6 g6 q6
   refine hK.out _ _ (fun _=>y1) ?_
   clear hHeld
   have hHeld:(fun w':World=>w'.cell? (aQ N 1)=some (.slice sa k sc)) w6:=y1
   clear o6 g6 q6 n6 gN
   clear hK K
   (try simp only [Act.put,zD,zE,zF])
   refine qad 5 rfl hHeld ?_
   apply Exists.intro
   refine ⟨fun wq hSw=>?_,?_⟩
   ·(try dsimp only at hSw)
    go_simp
    try with_reducible rfl
   (try simp only [Act.put,zD,zE,zF])
   refine qaa 6 rfl (by kernel_rfl) (fun K hK=>?_)
   have y2:=yf 1
   go_simp
   refine hK.out _ _ (fun h=>?_) ?_
   ·exact absurd h (by decide)
   clear hK K
   (try simp only [Act.put,zD,zE,zF])
   refine qap (by kernel_rfl) ?_ _
   clear x0 x1 x2 x3 xf y1 y2 yf hHeld o5 d5 q5 hc5
   go_wp2
   go_roundw
   case rel=>exact ⟨k+1,by omega,by go_num,_,_,_,_,NS6.out⟩
   case measure=>simp [intOf];omega
  ·have hkn:k=n:=by omega
   have NS':=NS.out
   rw [hkn] at NS'
   obtain ⟨sa,sc,rfl⟩:=zU NS'.s.row
   have NE:Hid (NwS W1 N n L H true n wr (.slice a1 n c1) (.slice sa n sc) (.slice a2 (n*n) c2) (.slice a3 n c3) c up us):=NS'
   clear NS NS' hkn
   have HG:Hid (∀ wx,Bw wr wx->Calls Tryz.prog 17 #[sysV a1 n c1 sa n sc a2 (n*n) c2 a3 n c3] wx fun e w'=>e=.returned (.bool (nwY n L H).okB)/\Bw wx w'):=fun wx hb=>by
    have h:=NE.out.below hb
    have hp:=h.p rfl
    exact qbq (nwX a1 n c1 (fun i => adOf (up i)) L (fun i => cpOf (up i)) H (.slice sa n sc) (.slice a2 (n * n) c2) (.slice a3 n c3) us) wx (h.g (qh5 hp) fun i hi => by
     obtain ⟨b,cap,eu,hb',hI,-⟩:=atI (hp.own i hi) (hp.nn nzI i hi)
     exact ⟨b,by rw [eu];rfl,hb',hI⟩) (qwb h4 HL.out) (fun i _=>Nat.le_refl _)
   obtain ⟨x0,x1,x2,x3⟩:=NE.out.bx
   go_wp2_with fail
   refine (HG.out wr (Below.refl _ _)).mono ?_
   rintro e w6 ⟨rfl,q6⟩
   have NF:Hid (NwS W1 N n L H true n w6 (.slice a1 n c1) (.slice sa n sc) (.slice a2 (n*n) c2) (.slice a3 n c3) c up us):=NE.out.below q6
   have hbe:=NF.out.be
   have R6:Hid (BoxC w6 w.heap.size (.slice none 0 0) (.slice none 0 0) (.slice none 0 0) (.slice none 0 0)/\∀ j,w6.frozen? ⟨w.heap.size,j,none⟩=false):=⟨RB.out.1.below hbe,fun j=>((qai hbe).2 _ j z1).trans (RB.out.2 j)⟩
   have B6:Hid (Bw w w6):=BW.out.trans (hbe.mono BW.out.size)
   clear q6 NE HG x0 x1 x2 x3 hbe
   obtain ⟨⟨r0,r1,r2,r3⟩,rf⟩:=R6.out
   rcases zK (nwY n L H).okB with t | t
   case inr=>
    have HV:Hid (snB n L H=false):=by
     show snB n L H=false
     rw [snB,t,Bool.and_false]
    rw [t]
    clear t
    go_wp2
    exact bodyPost_ret (v:=.tuple #[sysV none 0 0 none 0 0 none 0 0 none 0 0,.bool false]) (by simp [results,Tryz.results144,go_sem,r0,r1,r2,r3]) rfl (NwR.no HV.out ((((B6.out.setCell hM _).setCell hM _).setCell hM _).setCell hM _))
   have HV:Hid (snB n L H=true):=by
    show snB n L H=true
    rw [snB,t,decide_eq_true h4]
    rfl
   rw [t]
   clear t
   obtain ⟨x0,x1,x2,x3⟩:=NF.out.bx
   go_wp2
   exact bodyPost_ret (v:=.tuple #[sysV a1 n c1 sa n sc a2 (n*n) c2 a3 n c3,.bool true]) (by simp [results,Tryz.results144,go_sem,r0,r1,r2,r3]) rfl (NwR.yes HV.out (((NF.out.own1 rfl).out4 z1 _ _ _ _).base (Nat.le_of_lt z1) (by simp)) ((((B6.out.setCell hM _).setCell hM _).setCell hM _).setCell hM _))
theorem qqm (y:Sy) (p f:Int) (w:World) (B:Nat) (v:Value) (o:qaj true w B y v) (hB:B<=w.heap.size) (hn:y.pn<=1048576) (t1:inB p 0 ((y.pn:Int) - 1)=false):
  Calls Tryz.prog 146 #[v,.int .i64 p,.int .i64 f] w fun e w'=>e=.returned (.tuple #[v,.int .i64 2])/\Below B w w'/\qaj true w' B y v:=by
 obtain ⟨c,vp,vs,vw,vh,up,us,uw,uh,rfl,o⟩:=o
 obtain ⟨pa,pc,rfl⟩:=zU o.p.row
 obtain ⟨sa,sc,rfl⟩:=zU o.s.row
 obtain ⟨wa,wc,rfl⟩:=zU o.t.row
 obtain ⟨ha,hc,rfl⟩:=zU o.h.row
 have hpn:(y.pn:Int)<=1048576:=by omega
 have hM:B<=w.heap.size+1:=by omega
 have BW:Hid (Bw w ((w.alloc (oQ4 pa y.pn pc sa y.sn sc wa y.wn wc ha y.hn hc)).alloc (zQ3))):=(zQ _ _).trans ((zQ _ _).mono (by simp))
 have NB:Hid (BoxC ((w.alloc (oQ4 pa y.pn pc sa y.sn sc wa y.wn wc ha y.hn hc)).alloc (zQ3)) w.heap.size (.slice pa y.pn pc) (.slice sa y.sn sc) (.slice wa y.wn wc) (.slice ha y.hn hc)):=(BoxC.new w _ _ _ _ _).below (zQ _ _)
 have RB:Hid (BoxC ((w.alloc (oQ4 pa y.pn pc sa y.sn sc wa y.wn wc ha y.hn hc)).alloc (zQ3)) (w.heap.size+1) (.slice none 0 0) (.slice none 0 0) (.slice none 0 0) (.slice none 0 0)/\∀ j,((w.alloc (oQ4 pa y.pn pc sa y.sn sc wa y.wn wc ha y.hn hc)).alloc (zQ3)).frozen? ⟨w.heap.size+1,j,none⟩=false):=⟨⟨zW _ _ _ 0 (by simp),zW _ _ _ 1 (by simp),zW _ _ _ 2 (by simp),zW _ _ _ 3 (by simp)⟩,fun j=>yD _ _ _ _ (by simp)⟩
 have l1:w.heap.size+1<((w.alloc (oQ4 pa y.pn pc sa y.sn sc wa y.wn wc ha y.hn hc)).alloc (zQ3)).heap.size:=by simp
 have OO:Hid (OwnS true w B c y (.slice pa y.pn pc) (.slice sa y.sn sc) (.slice wa y.wn wc) (.slice ha y.hn hc) up us uw uh):=o
 clear o
 go_enter Tryz.func146,Tryz.ntmps146
 go_wp2_with fail
 refine (l1In_any _ _ _ _).mono ?_
 rintro e w1 ⟨rfl,rfl⟩
 rw [t1]
 generalize (w.alloc (oQ4 pa y.pn pc sa y.sn sc wa y.wn wc ha y.hn hc)).alloc (zQ3)=W2 at *
 obtain ⟨b0,b1,b2,b3⟩:=NB.out
 obtain ⟨⟨r0,r1,r2,r3⟩,rf⟩:=RB.out
 have O2:Hid (OwnS true W2 B (rcol c w.heap.size 0) y (.slice pa y.pn pc) (.slice sa y.sn sc) (.slice wa y.wn wc) (.slice ha y.hn hc) up us uw uh):=(OO.out.recol 0).below BW.out
 have BB:Hid (Below B w W2):=BW.out.mono hB
 go_wp2
 exact bodyPost_ret (v:=.tuple #[sysV pa y.pn pc sa y.sn sc wa y.wn wc ha y.hn hc,.int .i64 2]) (by simp [results,Tryz.results146,go_sem,r0,r1,r2,r3]) rfl ⟨rfl,(((BB.out.setCell hM _).setCell hM _).setCell hM _).setCell hM _,O2.out.out4 (qan (Nat.le_succ _)) rfl _ _ _ _⟩
noncomputable def stC (y:Sy) (p f:Int):Int:=if y.okB=true then (if belB p y.pn=true then cmS y p.toNat f else 2) else 1
noncomputable def stY (y:Sy) (p f:Int):Sy:=if y.okB=true then (if belB p y.pn=true then y.step p.toNat f else y) else { y with pn:=0,sn:=0,wn:=0,hn:=0 }
theorem qmo (x:SysIn) (p f:Int) (w:World) (hG:SysG w x) (hL:x.Len) (hcap:∀ i,i<x.hn->x.hL i<=x.hC i):
  Calls Tryz.prog 134 #[x.v,.int .i64 p,.int .i64 f] w fun e w'=>∃ v,e=.returned (.tuple #[v,.int .i64 (stC x.y p f)])/\qaj true w' w.heap.size (stY x.y p f) v/\Bw w w':=by
 have HG:Hid (SysG w x):=hG
 have HL:Hid x.Len:=hL
 have HS:Hid (∀ wx,Bw w wx->Calls Tryz.prog 17 #[x.v] wx fun e w'=>e=.returned (.bool x.y.okB)/\Bw wx w'):=fun wx hb=>qbq x wx (HG.out.below hb) hL hcap
 have HC4:Hid (∀ wx,Bw w wx->Calls Tryz.prog 33 #[x.v] wx fun e w'=>∃ v,e=.returned v/\qaj true w' wx.heap.size x.y v/\Bw wx w'):=fun wx hb=>qdo x wx (HG.out.below hb) hL
 have BW:Hid (Bw w ((w.alloc (x.oX)).alloc (zQ3))):=(zQ _ _).trans ((zQ _ _).mono (by simp))
 have NB:Hid (x.bX ((w.alloc (x.oX)).alloc (zQ3)) w.heap.size):=(BoxC.new w _ _ _ _ _).below (zQ _ _)
 have RB:Hid (BoxC ((w.alloc (x.oX)).alloc (zQ3)) (w.heap.size+1) (.slice none 0 0) (.slice none 0 0) (.slice none 0 0) (.slice none 0 0)/\∀ j,((w.alloc (x.oX)).alloc (zQ3)).frozen? ⟨w.heap.size+1,j,none⟩=false):=⟨⟨zW _ _ _ 0 (by simp),zW _ _ _ 1 (by simp),zW _ _ _ 2 (by simp),zW _ _ _ 3 (by simp)⟩,fun j=>yD _ _ _ _ (by simp)⟩
 have hM:w.heap.size<=w.heap.size+1:=Nat.le_succ _
 clear hG hL hcap
 go_enter Tryz.func134,Tryz.ntmps134
 go_wp2_with fail
 generalize (w.alloc (x.oX)).alloc (zQ3)=W2 at *
 refine (HS.out W2 BW.out).mono ?_
 rintro e w1 ⟨rfl,q1⟩
 have B1:Hid (Bw w w1/\x.bX w1 w.heap.size/\BoxC w1 (w.heap.size+1) (.slice none 0 0) (.slice none 0 0) (.slice none 0 0) (.slice none 0 0)/\∀ j,w1.frozen? ⟨w.heap.size+1,j,none⟩=false):=⟨BW.out.trans (q1.mono BW.out.size),NB.out.below q1,RB.out.1.below q1,fun j=>((qai q1).2 _ j (zJ _ _ RB.out.1.1)).trans (RB.out.2 j)⟩
 clear q1 BW NB RB HS
 have l1:w.heap.size+1<w1.heap.size:=zJ _ _ B1.out.2.2.1.1
 obtain ⟨b0,b1,b2,b3⟩:=B1.out.2.1
 rcases zK x.y.okB with t | t
 case inr=>
  have HV:Hid (stC x.y p f=1/\stY x.y p f={ x.y with pn:=0,sn:=0,wn:=0,hn:=0 }):=⟨if_neg (by rw [t];simp),if_neg (by rw [t];simp)⟩
  obtain ⟨⟨r0,r1,r2,r3⟩,rf⟩:=B1.out.2.2
  rw [t]
  clear t
  go_wp2
  exact bodyPost_ret (v:=.tuple #[sysV none 0 0 none 0 0 none 0 0 none 0 0,.int .i64 1]) (by simp [results,Tryz.results134,go_sem,r0,r1,r2,r3]) rfl ⟨_,by rw [HV.out.1],by rw [HV.out.2];exact qaj.zero _ _ _,(((B1.out.1.setCell hM _).setCell hM _).setCell hM _).setCell hM _⟩
 have HO:Hid x.y.Ok:=Sy.ok_of t
 have HC:Hid (∀ wx v,w1.heap.size<=wx.heap.size->qaj true wx w1.heap.size x.y v->Calls Tryz.prog 146 #[v,.int .i64 p,.int .i64 f] wx fun e w'=>e=.returned (.tuple #[v,.int .i64 (stC x.y p f)])/\Below w1.heap.size wx w'/\qaj true w' w1.heap.size (stY x.y p f) v):=by
  show ∀ wx v,_
  intro wx v hwx o
  have hc4:x.y.pn<=4:=HO.out.cn.1.2
  by_cases hb:belB p x.y.pn=true
  ·have hb':0<=p/\p<(x.y.pn:Int):=by simpa [belB] using hb
   obtain ⟨k,rfl⟩:∃ k:Nat,p=k:=⟨p.toNat,by omega⟩
   rw [stC,if_pos t,if_pos hb,stY,if_pos t,if_pos hb]
   exact qiy x.y k f wx _ v o (by omega) HO.out
  ·rw [stC,if_pos t,if_neg hb,stY,if_pos t,if_neg hb]
   exact qqm x.y p f wx _ v o hwx (by omega) (by
    simp only [inB,decide_eq_false_iff_not]
    simp only [belB,decide_eq_true_eq] at hb
    omega)
 have HZ:Hid (stC x.y p f≠0->stY x.y p f=x.y):=fun h=>by
  rw [stC,if_pos t] at h
  rw [stY,if_pos t]
  by_cases hb:belB p x.y.pn=true
  ·rw [if_pos hb] at h ⊢
   exact Sy.step_no h
  ·rw [if_neg hb]
 rw [t]
 clear t
 go_wp2_with fail
 refine (HC4.out w1 B1.out.1).mono ?_
 rintro e w3 ⟨v3,rfl,o3,q3⟩
 obtain ⟨pa,pc,sa,sc,wa,wc,ha,hc,rfl⟩:=o3.form
 have HC':=HC.out w3 _ q3.size o3
 clear HC
 generalize hC:stC x.y p f=C at *
 generalize hY:stY x.y p f=Y at *
 go_wp2_with fail
 refine HC'.mono ?_
 rintro e w5 ⟨rfl,q5,o5⟩
 have Q5:Bw w1 w5:=q3.trans q5
 have B5:Hid (Bw w w5/\x.bX w5 w.heap.size/\BoxC w5 (w.heap.size+1) (.slice none 0 0) (.slice none 0 0) (.slice none 0 0) (.slice none 0 0)/\(∀ j,w5.frozen? ⟨w.heap.size+1,j,none⟩=false)/\w1.heap.size<=w5.heap.size/\qaj true w5 w1.heap.size Y (sysV pa x.y.pn pc sa x.y.sn sc wa x.y.wn wc ha x.y.hn hc)):=⟨B1.out.1.trans (Q5.mono B1.out.1.size),B1.out.2.1.below Q5,B1.out.2.2.1.below Q5,fun j=>((qai Q5).2 _ j l1).trans (B1.out.2.2.2 j),Q5.size,o5⟩
 clear o3 q3 q5 o5 Q5 HC' B1 b0 b1 b2 b3
 obtain ⟨b0,b1,b2,b3⟩:=B5.out.2.1
 obtain ⟨r0,r1,r2,r3⟩:=B5.out.2.2.1
 have rf:=B5.out.2.2.2.1
 have l5:w.heap.size+1<w5.heap.size:=zJ _ _ r0
 have l50:w.heap.size<w5.heap.size:=by omega
 by_cases hc0:C=0
 ·subst hc0
  go_wp2
  exact bodyPost_ret (v := .tuple #[sysV pa x.y.pn pc sa x.y.sn sc wa x.y.wn wc ha x.y.hn hc, .int .i64 0]) (by simp [results, Tryz.results134, go_sem, r0, r1, r2, r3, l5]) rfl ⟨_, by rw [hC], by
   rw [hY]
   exact (((((B5.out.2.2.2.2.2.setBelow l1 0 _).setBelow l1 1 _).setBelow l1 2 _).setBelow l1 3 _).below (zQ _ _)).base (by omega),((((B5.out.1.setCell hM _).setCell hM _).setCell hM _).setCell hM _).trans ((zQ _ _).mono (by simp;omega))⟩
 ·have tc:(C == 0)=false:=by simpa using hc0
  go_wp2_with fail
  refine (HC4.out _ (B5.out.1.trans ((zQ _ _).mono (Nat.le_of_lt l50)))).mono ?_
  rintro e w7 ⟨v7,rfl,o7,q7⟩
  obtain ⟨pa7,pc7,sa7,sc7,wa7,wc7,ha7,hc7,rfl⟩:=o7.form
  have Q7:Bw w5 w7:=(zQ _ _).trans (q7.mono (by simp))
  have hc:=(qai Q7).1
  replace r0:=(hc _ _ l5).trans r0
  replace r1:=(hc _ _ l5).trans r1
  replace r2:=(hc _ _ l5).trans r2
  replace r3:=(hc _ _ l5).trans r3
  replace rf:∀ j,w7.frozen? ⟨w.heap.size+1,j,none⟩=false:=fun j=>((qai Q7).2 _ j l5).trans (rf j)
  have l7:w.heap.size+1<w7.heap.size:=zL l5 Q7.size
  have B7:Hid (Bw w w7/\qaj true w7 w5.heap.size x.y (sysV pa7 x.y.pn pc7 sa7 x.y.sn sc7 wa7 x.y.wn wc7 ha7 x.y.hn hc7)):=⟨B5.out.1.trans (Q7.mono (Nat.le_of_lt l50)),o7.base (by simp)⟩
  clear o7 q7 Q7 hc B5 b0 b1 b2 b3
  go_wp2
  exact bodyPost_ret (v := .tuple #[sysV pa7 x.y.pn pc7 sa7 x.y.sn sc7 wa7 x.y.wn wc7 ha7 x.y.hn hc7, .int .i64 C]) (by simp [results, Tryz.results134, go_sem, r0, r1, r2, r3]) rfl ⟨_, by rw [hC], by
   rw [hY,HZ.out hc0]
   exact ((((B7.out.2.setBelow l5 0 _).setBelow l5 1 _).setBelow l5 2 _).setBelow l5 3 _).base (by omega),(((B7.out.1.setCell hM _).setCell hM _).setCell hM _).setCell hM _⟩
