import Derived.Test.YtchhijiibjijhaaGreatDoorXf40
import Derived.Test.YtchhijiibjijhaaGreatDoorXf41
namespace Go.Proofs.YtchhijiibjijhaaGreatDoor
set_option maxRecDepth 100000
set_option maxHeartbeats 8000000
open Go.ChangeShapes Go.WideShapes Go.ChangeAt Go.RowKit Go.Deep
theorem NwS.progs {W1:World} {N n k:Nat} {L:Nat->Nat} {H:Nat->Nat->I5} {own:Bool} {w w':World} {vp vs vw vh:Value} {c:Nat->Nat} {up us:Nat->Value} (h:NwS W1 N n L H own k w vp vs vw vh c up us) {v:Value} {u:Nat->Value} (o:LI true w' (fun j=>w.heap.size<=j/\j<w'.heap.size) v n u L H) (hb:Below w.heap.size w w'):NwS W1 N n L H true k (w'.setCell ⟨N,0,none⟩ v) v vs vw vh (rcol c w.heap.size 1) u us:=by
 have hs:=h.be.size
 have hN:=h.lt
 have h2:=h.below hb
 have hcN:rcol c w.heap.size 1 N=0:=(qar hN).trans h.cN
 have hk:∀ i,i≠0->∀ j,Cl W1.heap.size (rcol c w.heap.size 1) i j->j<w'.heap.size->(w'.setCell ⟨N,0,none⟩ v).heap[j]? = w'.heap[j]?:=fun i hi j hj _=>zO _ _ _ _ fun e=>hi (by rw [<- hj.2,e,hcN])
 obtain ⟨x0,x1,x2,x3⟩:=h2.bx
 exact ⟨h2.be.setCell h.bN _,⟨World.cell?_setCell_same _ _ _ x0,(World.cell?_setCell_other _ _ _ _ (by simp)).trans x1,(World.cell?_setCell_other _ _ _ _ (by simp)).trans x2,(World.cell?_setCell_other _ _ _ _ (by simp)).trans x3⟩,fun j=>by rw [World.frozen?_setCell];exact h2.fr j,h.bN,hcN,fun _=>(o.mono fun j hj _=>⟨zP hs hj.1,qah hj.1⟩).keep (hk 1 (by decide)),((h.s.mono fun j hj hl=>hj.old hl).below hb).keep (hk 2 (by decide)),((h.t.mono fun j hj hl=>hj.old hl).below hb).keep (hk 3 (by decide)),((h.h.mono fun j hj hl=>hj.old hl).below hb).keep (hk 4 (by decide))⟩
theorem qit (pa:Option Addr) (n pc:Nat) (A:Nat->Option Addr) (L C:Nat->Nat) (H:Nat->Nat->I5) (w:World) (hn:n<=1048576) (hL:∀ i,i<n->L i<=1048576) (hr:RowS w pa n fun i=>.slice (A i) (L i) (C i)) (hI:∀ i,i<n->∃ b,A i=some ⟨b,0,none⟩/\b<w.heap.size/\qaj w b 0 (L i) (H i)) (hV:w.cell? ⟨0,0,none⟩=some (.iface 298 (.agg #[.pointer (some ⟨1,213,none⟩)]))):
  Calls Tryz.prog 50 #[.slice pa n pc] w (NwR w n L H):=by
 have hn':(n:Int)<=1048576:=by omega
 have HR : Hid (∀ wx, Below w.heap.size w wx → (RowS wx pa n fun i => .slice (A i) (L i) (C i)) ∧ ∀ i, i < n → ∃ b, A i = some ⟨b, 0, none⟩ ∧ b < wx.heap.size ∧ qaj wx b 0 (L i) (H i)) := fun wx hb => ⟨hr.below hb, fun i hi => by
  obtain ⟨b,e,hlt,h⟩:=hI i hi
  exact ⟨b,e,zL hlt hb.size,h.below hb hlt⟩⟩
 have HV0:Hid (∀ wx,Below w.heap.size w wx->wx.cell? ⟨0,0,none⟩=some (.iface 298 (.agg #[.pointer (some ⟨1,213,none⟩)]))):=fun wx hb=>(hb.cell (p:=⟨0,0,none⟩) (zJ w _ hV)).trans hV
 have HP:Hid (∀ wx,Below w.heap.size w wx->Calls Tryz.prog 99 #[.slice pa n pc] wx fun e w'=>∃ v u,e=.returned v/\LI true w' (fun k=>wx.heap.size<=k/\k<w'.heap.size) v n u L H/\Below wx.heap.size wx w'):=fun wx hb=>qg3 pa n pc A L C H wx hn hL (HR.out wx hb).1 fun i hi=>by
  obtain ⟨b,e,hlt,h⟩:=(HR.out wx hb).2 i hi
  exact ⟨b,0,e,by rw [e];exact srcI hlt h⟩
 have HL:Hid (∀ i,i<n->L i<=1048576):=hL
 have BW:Hid (Below w.heap.size w (w.alloc (zQ2))):=zQ _ _
 have RB:Hid (BoxC (w.alloc (zQ2)) w.heap.size (.slice none 0 0) (.slice none 0 0) (.slice none 0 0) (.slice none 0 0)/\∀ j,(w.alloc (zQ2)).frozen? ⟨w.heap.size,j,none⟩=false):=⟨BoxC.new w _ _ _ _ _,fun j=>yB _ _ _ _ rfl⟩
 have hM:w.heap.size<=w.heap.size:=Nat.le_refl _
 clear hL hr hI hV
 by_cases h4:n<=4
 case neg=>
  have h4':(4:Int)<(n:Int):=by omega
  have HV:Hid (snB n L H=false):=by
   show snB n L H=false
   rw [snB,decide_eq_false h4]
   rfl
  go_enter Tryz.func50,Tryz.ntmps50
  go_upto_region 1 with fail
  generalize w.alloc (zQ2)=W1 at *
  obtain ⟨⟨r0,r1,r2,r3⟩,rf⟩:=RB.out
  go_wp2
  exact bodyPost_ret (v:=.tuple #[sysV none 0 0 none 0 0 none 0 0 none 0 0,.bool false]) (by simp [results,Tryz.results50,go_sem,r0,r1,r2,r3]) rfl (NwR.no HV.out ((((BW.out.setCell hM _).setCell hM _).setCell hM _).setCell hM _))
 have h4':¬ (4:Int)<(n:Int):=by omega
 obtain ⟨NN,hNN⟩:∃ NN,NN=n*n:=⟨_,rfl⟩
 have HNN:Hid (NN=n*n):=hNN
 have hm0:(n:Int)*(n:Int)=(NN:Int):=by rw [hNN];simp
 have h16:NN<=16:=by rw [hNN];exact zP (Nat.mul_le_mul h4 h4) (by omega)
 have h16':(NN:Int)<=16:=by omega
 have hn4:(n:Int)<=4:=by omega
 clear hNN
 go_enter Tryz.func50,Tryz.ntmps50
 go_upto_region 4 with fail
 have z1:w.heap.size<(w.alloc (zQ2)).heap.size:=by simp
 generalize w.alloc (zQ2)=W1 at *
 have F0:Hid (NwF W1 n L H false false false false (.slice pa n pc) undef undef undef W1.drew):=⟨(Below.refl _ _).drew,fun _=>0,(fun e=>by cases e),(fun e=>by cases e),(fun e=>by cases e),(fun e=>by cases e)⟩
 refine qas (fun _=>True) (fun _=>false) (by kernel_rfl) ?_
 refine qaf 0 rfl trivial ?_
 apply Exists.intro
 refine ⟨fun wq hSw=>?_,?_⟩
 ·(try dsimp only at hSw)
  go_simp
  try with_reducible rfl
 (try simp only [Act.put,zD,zE,zF])
 refine qaf 1 rfl trivial ?_
 apply Exists.intro
 refine ⟨fun wq hSw=>?_,?_⟩
 ·(try dsimp only at hSw)
  go_simp
  try with_reducible rfl
 (try simp only [Act.put,zD,zE,zF])
 refine qaf 2 rfl trivial ?_
 apply Exists.intro
 refine ⟨fun wq hSw=>?_,?_⟩
 ·(try dsimp only at hSw)
  go_simp
  try with_reducible rfl
 (try simp only [Act.put,zD,zE,zF])
 refine qaf 3 rfl trivial ⟨.int .i64 (NN:Int),fun wq _=>?_,?_⟩
 ·go_simp
  rw [IntKind.wrap_i64]
  omega
 (try simp only [Act.put,zD,zE,zF])
 refine qaf 5 rfl trivial ?_
 apply Exists.intro
 refine ⟨fun wq hSw=>?_,?_⟩
 ·(try dsimp only at hSw)
  go_simp
  try with_reducible rfl
 (try simp only [Act.put,zD,zE,zF])
 refine qqw 5 #[true,true,true,true,false,true,false,false,false,false] (by kernel_rfl) (by kernel_rfl) ?_
 refine quy (fun b c d e=>#[true,true,true,true,b,true,c,e,d,false]) 4 6 8 7 (fun b c d x wq=>∃ v2 v3 v4,x=⟨#[.slice pa n pc,undef,.pointer (some ⟨w.heap.size,0,none⟩),.bool false,.int .i64 n,v4,.slice pa n pc,.int .i64 n,.int .i64 n,.bool false,undef,.slice pa n pc,.int .i64 n,.int .i64 n,.int .i64 NN,v2,.int .i64 n,v3,undef,undef,undef,undef,undef,undef,undef,undef,undef,undef,undef,undef,undef,undef,undef,undef,undef,undef,undef,undef],[]⟩/\NwF W1 n L H false b c d (.slice pa n pc) v2 v3 v4 wq) (fun d x wq=>∃ a2 c2 a3 c3 v4,x=⟨#[.slice pa n pc,undef,.pointer (some ⟨w.heap.size,0,none⟩),.bool false,.int .i64 n,v4,.slice pa n pc,.int .i64 n,.int .i64 n,.bool false,undef,.slice pa n pc,.int .i64 n,.int .i64 n,.int .i64 NN,.slice a2 (n*n) c2,.int .i64 n,.slice a3 n c3,.agg #[.slice pa n pc,.slice none 0 0,.slice a2 (n*n) c2,.slice a3 n c3],undef,undef,undef,undef,undef,undef,undef,undef,undef,undef,undef,undef,undef,undef,undef,undef,undef,undef,undef],[]⟩/\NwF W1 n L H false true true d (.slice pa n pc) (.slice a2 (n*n) c2) (.slice a3 n c3) v4 wq) (f0:=1) ?_ (fun _ _=>rfl) (fun _ _=>rfl) (fun _ _ _=>rfl) (fun _=>rfl) rfl (by kernel_rfl) (fun d=>by cases d <;> kernel_rfl) (fun d=>by cases d <;> kernel_rfl) (by kernel_rfl) (fun _ _ _ _ h=>h) ?_ ?_ ?_ ?_ ?_ ?_ 3 false false false _ _ rfl ⟨_,_,_,rfl,F0.out⟩
 ·intro b c d h
  cases b <;> cases c <;> cases d <;> first | exact absurd h (by decide) | kernel_rfl
 ·rintro c d x wq ⟨v2,v3,v4,rfl,F⟩
  have hmk:=qcu qyh qtw NN (by omega) wq
  refine wpOp_step rfl fun K hK=>?_
  go_simp
  refine hK _ _ ⟨fun _ _=>trivial,.slice (some ⟨wq.heap.size,0,none⟩) NN NN,v3,v4,rfl,?_⟩
  rw [HNN.out]
  exact F.two (by rw [<- HNN.out];omega)
 ·rintro b d x wq ⟨v2,v3,v4,rfl,F⟩
  have hmk:=qcu qyg qqk n (by omega) wq
  refine wpOp_step rfl fun K hK=>?_
  go_simp
  exact hK _ _ ⟨fun _ _=>trivial,v2,.slice (some ⟨wq.heap.size,0,none⟩) n n,v4,rfl,F.three (by omega)⟩
 ·rintro b c x wq ⟨v2,v3,v4,rfl,F⟩
  refine wpOp_step rfl fun K hK=>?_
  go_simp
  exact hK _ _ ⟨fun _ _=>trivial,v2,v3,.pointer (some ⟨wq.heap.size,0,none⟩),rfl,F.four⟩
 ·rintro d x wq ⟨v2,v3,v4,rfl,F⟩
  obtain ⟨k,-,h2,h3,-⟩:=F.ow
  obtain ⟨a2,c2,rfl⟩:=zU (h2 rfl).row
  obtain ⟨a3,c3,rfl⟩:=zU (h3 rfl).row
  refine ⟨rfl,.agg #[.slice pa n pc,.slice none 0 0,.slice a2 (n*n) c2,.slice a3 n c3],fun wz=>?_,a2,c2,a3,c3,v4,rfl,F⟩
  go_simp
 ·rintro x wq ⟨a2,c2,a3,c3,v4,rfl,F⟩
  refine wpOp_step rfl fun K hK=>?_
  go_simp
  exact hK _ _ ⟨fun _ _=>trivial,a2,c2,a3,c3,.pointer (some ⟨wq.heap.size,0,none⟩),rfl,F.four⟩
 rintro x w4 ⟨a2,c2,a3,c3,v4,rfl,F⟩
 clear F0
 obtain ⟨N,c,up,us,rfl,nl,⟨g0,g1,g2,g3⟩,gf,ns⟩:=NwS.start F rfl (.inr trivial)
 refine qao 9 rfl (by kernel_rfl) (fun K hK=>?_)
 go_simp
 refine hK.out _ _ (fun _=>trivial) ?_
 clear hK K
 (try simp only [zD,zE,zF])
 refine qbe (by kernel_rfl) ?_ _
 have NS0:Hid (NwS W1 N n L H false 0 ((((w4.setCell ⟨N,0,none⟩ (.slice pa n pc)).setCell ⟨N,1,none⟩ (.slice none 0 0)).setCell ⟨N,2,none⟩ (.slice a2 (n*n) c2)).setCell ⟨N,3,none⟩ (.slice a3 n c3)) (.slice pa n pc) (.slice none 0 0) (.slice a2 (n*n) c2) (.slice a3 n c3) c up us):=ns
 clear ns g0 g1 g2 g3 gf nl F
 go_upto_region 5 with fail
 generalize ((((w4.setCell ⟨N,0,none⟩ (.slice pa n pc)).setCell ⟨N,1,none⟩ (.slice none 0 0)).setCell ⟨N,2,none⟩ (.slice a2 (n*n) c2)).setCell ⟨N,3,none⟩ (.slice a3 n c3))=W5 at *
 go_wp2_with fail
 go_loopw [21] (fun i wr=>∃ k:Nat,k<=n/\i=.int .i64 k/\Hid (∃ vs c up us,NwS W1 N n L H false k wr (.slice pa n pc) vs (.slice a2 (n*n) c2) (.slice a3 n c3) c up us)) (fun i _=>n - (intOf i).toNat)
 case atStart=>exact ⟨0,Nat.zero_le _,rfl,_,_,_,_,NS0.out⟩
 case round=>
  clear NS0 c up us
  obtain ⟨k,hk,rfl,HK⟩:=hrel
  obtain ⟨vs,c,up,us,ns⟩:=HK.out
  have NS:Hid (NwS W1 N n L H false k wr (.slice pa n pc) vs (.slice a2 (n*n) c2) (.slice a3 n c3) c up us):=ns
  clear ns HK
  by_cases hlt:k<n
  ·have hlt':(k:Int)<(n:Int):=by omega
   go_wp2_with fail
   obtain ⟨x0,x1,x2,x3⟩:=NS.out.bx
   have xf:=NS.out.fr
   obtain ⟨sa,sc,rfl⟩:=zU NS.out.s.row
   have nl:=NS.out.lt
   refine qas (fun w'=>w'.cell? ⟨N,1,none⟩=some (.slice sa k sc)) (fun i=>i == 6) (by kernel_rfl) ?_
   have hHeld:(fun w':World=>w'.cell? ⟨N,1,none⟩=some (.slice sa k sc)) wr.drew:=x1
   refine qb1 [0,1] ?_
   iterate 2 (refine qa9 rfl hHeld ?_;apply Exists.intro;refine ⟨fun wq hSw=>?_,?_⟩;(· ((try dsimp only at hSw);go_simp;try with_reducible rfl));(try simp only [Act.put,zD,zE,zF]))
   refine qbk ?_
   refine qao 2 rfl (by kernel_rfl) (fun K hK=>?_)
   refine qa5 rfl 98 _ _ rfl #[] (by simp) (yA Tryz.func98 (by kernel_rfl) rfl) (qcq wr.drew) ?_
   rintro e w5 ⟨u5,rfl,o5,d5⟩
   refine ⟨_,rfl,?_⟩
   obtain ⟨ra5,rc5,oa5,oc5,rfl,-,-⟩:=o5.read
   have q5:Below wr.heap.size wr w5:=(Below.refl wr.heap.size wr).drew.trans d5
   have hc5:=(qam q5).1
   refine hK.out _ _ (fun _=>(hc5 _ _ nl).trans x1) ?_
   clear hK K
   (try simp only [Act.put,zD,zE,zF])
   refine qao 3 rfl (by kernel_rfl) (fun K hK=>?_)
   go_simp
   have ba:=zQ w5 (oQ1 0 ra5 4 rc5 oa5 0 oc5 0)
   refine hK.out _ _ (fun _=>((ba.cell (p:=⟨N,1,none⟩) (zL nl q5.size)).trans ((hc5 _ _ nl).trans x1))) ?_
   clear ba
   clear hK K
   (try simp only [Act.put,zD,zE,zF])
   refine qao 4 rfl (by kernel_rfl) (fun K hK=>?_)
   refine qb6 kndS w5 rfl rfl _ _ rfl 0 (.slice sa k sc) k _ rfl (NS.out.s.below q5).row #[.int .i64 0,.slice ra5 4 rc5,.slice oa5 0 oc5,.int .i64 0] rfl rfl (by intro u hu;simp at hu;rcases hu with rfl | rfl | rfl | rfl <;> rfl) (by omega) (Nat.zero_le _) ?_
   intro v6 w6 o6 g6 q6 n6
   obtain ⟨a6,c6,rfl⟩:=zU o6
   have gN : w6.heap[N]? = wr.heap[N]? := (g6.block N (Nat.lt_of_lt_of_le nl q5.size) fun e => by
    have:=(NS.out.s.rb N e.symm).2
    rw [NS.out.cN] at this
    cases this).trans (q5.block N nl)
   have y1:=(zH gN).trans x1
   have yf:∀ j,w6.frozen? ⟨N,j,none⟩=false:=fun j=>(zI gN).trans (xf j)
   have NS6:Hid (NwS W1 N n L H false (k+1) (w6.setCell ⟨N,1,none⟩ (.slice a6 (k+1) c6)) (.slice pa n pc) (.slice a6 (k+1) c6) (.slice a2 (n*n) c2) (.slice a3 n c3) (rcol c wr.heap.size 2) up (fun j=>if j=k then stV 0 ra5 4 rc5 oa5 0 oc5 0 else us j)):=NS.out.push q5 (o5.mono (by simp)) o6 g6 q6
   refine hK.out _ _ (fun _=>y1) ?_
   clear hHeld
   have hHeld:(fun w':World=>w'.cell? ⟨N,1,none⟩=some (.slice sa k sc)) w6:=y1
   clear o6 g6 q6 n6 gN
   clear hK K
   (try simp only [Act.put,zD,zE,zF])
   refine qaf 5 rfl hHeld ?_
   apply Exists.intro
   refine ⟨fun wq hSw=>?_,?_⟩
   ·(try dsimp only at hSw)
    go_simp
    try with_reducible rfl
   (try simp only [Act.put,zD,zE,zF])
   refine qao 6 rfl (by kernel_rfl) (fun K hK=>?_)
   have y2:=yf 1
   go_simp
   refine hK.out _ _ (fun h=>?_) ?_
   ·exact absurd h (by decide)
   clear hK K
   (try simp only [Act.put,zD,zE,zF])
   refine qbe (by kernel_rfl) ?_ _
   clear x0 x1 x2 x3 xf y1 y2 yf hHeld o5 d5 q5 hc5
   go_wp2
   go_roundw
   case rel=>exact ⟨k+1,by omega,by go_num,_,_,_,_,NS6.out⟩
   case measure=>simp [intOf];omega
  ·have hkn:k=n:=by omega
   have NS':=NS.out
   rw [hkn] at NS'
   obtain ⟨sa,sc,rfl⟩:=zU NS'.s.row
   have NE:Hid (NwS W1 N n L H false n wr (.slice pa n pc) (.slice sa n sc) (.slice a2 (n*n) c2) (.slice a3 n c3) c up us):=NS'
   clear NS NS' hkn
   have HG:Hid (∀ wx,Below wr.heap.size wr wx->Calls Tryz.prog 75 #[sysV pa n pc sa n sc a2 (n*n) c2 a3 n c3] wx fun e w'=>e=.returned (.bool (nwY n L H).okB)/\Below wx.heap.size wx w'):=fun wx hb=>by
    have h:=NE.out.below hb
    have hw:=BW.out.trans (h.be.mono BW.out.size)
    exact qfk (nwX pa n pc A L C H (.slice sa n sc) (.slice a2 (n*n) c2) (.slice a3 n c3) us) wx (h.g (HR.out wx hw).1 (HR.out wx hw).2) (qt1 h4 HL.out) (HV0.out wx hw)
   obtain ⟨x0,x1,x2,x3⟩:=NE.out.bx
   go_wp2_with fail
   refine (HG.out wr (Below.refl _ _)).mono ?_
   rintro e w6 ⟨rfl,q6⟩
   have NF:Hid (NwS W1 N n L H false n w6 (.slice pa n pc) (.slice sa n sc) (.slice a2 (n*n) c2) (.slice a3 n c3) c up us):=NE.out.below q6
   have hbe:=NF.out.be
   have R6:Hid (BoxC w6 w.heap.size (.slice none 0 0) (.slice none 0 0) (.slice none 0 0) (.slice none 0 0)/\∀ j,w6.frozen? ⟨w.heap.size,j,none⟩=false):=⟨RB.out.1.below hbe,fun j=>((qam hbe).2 _ j z1).trans (RB.out.2 j)⟩
   have B6:Hid (Below w.heap.size w w6):=BW.out.trans (hbe.mono BW.out.size)
   clear q6 NE HG x0 x1 x2 x3 hbe
   obtain ⟨⟨r0,r1,r2,r3⟩,rf⟩:=R6.out
   rcases zK (nwY n L H).okB with t | t
   case inr=>
    have HV:Hid (snB n L H=false):=by
     show snB n L H=false
     rw [snB,t,Bool.and_false]
    rw [t]
    clear t
    go_wp2
    exact bodyPost_ret (v:=.tuple #[sysV none 0 0 none 0 0 none 0 0 none 0 0,.bool false]) (by simp [results,Tryz.results50,go_sem,r0,r1,r2,r3]) rfl (NwR.no HV.out ((((B6.out.setCell hM _).setCell hM _).setCell hM _).setCell hM _))
   have HV:Hid (snB n L H=true):=by
    show snB n L H=true
    rw [snB,t,decide_eq_true h4]
    rfl
   rw [t]
   clear t
   go_wp2_with fail
   refine (HP.out w6 B6.out).mono ?_
   rintro e w7 ⟨v7,u7,rfl,o7,q7⟩
   obtain ⟨a7,c7,rfl⟩:=zU o7.row
   have NG:Hid (NwS W1 N n L H true n (w7.setCell ⟨N,0,none⟩ (.slice a7 n c7)) (.slice a7 n c7) (.slice sa n sc) (.slice a2 (n*n) c2) (.slice a3 n c3) (rcol c w6.heap.size 1) u7 us):=NF.out.progs o7 q7
   have N7:=NF.out.below q7
   obtain ⟨x0,-,-,-⟩:=N7.bx
   have xf:=N7.fr
   go_upto_region 12 with fail
   clear o7 q7 N7 x0 xf r0 r1 r2 r3 rf
   generalize w7.setCell ⟨N,0,none⟩ (.slice a7 n c7)=w8 at *
   have hbe:=NG.out.be
   have R8:Hid (BoxC w8 w.heap.size (.slice none 0 0) (.slice none 0 0) (.slice none 0 0) (.slice none 0 0)/\∀ j,w8.frozen? ⟨w.heap.size,j,none⟩=false):=⟨RB.out.1.below hbe,fun j=>((qam hbe).2 _ j z1).trans (RB.out.2 j)⟩
   have B8:Hid (Below w.heap.size w w8):=BW.out.trans (hbe.mono BW.out.size)
   clear hbe
   obtain ⟨⟨r0,r1,r2,r3⟩,rf⟩:=R8.out
   obtain ⟨x0,x1,x2,x3⟩:=NG.out.bx
   go_wp2
   exact bodyPost_ret (v:=.tuple #[sysV a7 n c7 sa n sc a2 (n*n) c2 a3 n c3,.bool true]) (by simp [results,Tryz.results50,go_sem,r0,r1,r2,r3]) rfl (NwR.yes HV.out (((NG.out.own1 rfl).out4 z1 _ _ _ _).base (Nat.le_of_lt z1) (by simp)) ((((B8.out.setCell hM _).setCell hM _).setCell hM _).setCell hM _))
open Go.Sort
variable {z:Bool}
theorem qyp {y:Sy} (h:y.Ok) (p f:Int):(stY y p f).pn=y.pn:=by
 unfold Go.Proofs.YtchhijiibjijhaaGreatDoor.stY
 rw [if_pos (Sy.okB_true h)]
 by_cases hb:belB p y.pn=true
 ·rw [if_pos hb]
  unfold Sy.step
  split <;> rfl
 ·rw [if_neg hb]
structure Rdw (w:World) (x:SysIn) (wx:World):Prop where
 be:Below w.heap.size w wx
 bs:BoxC wx w.heap.size (.slice x.pa x.pn x.pc) (.slice x.sa x.sn x.sc) (.slice x.wa x.wn x.wc) (.slice x.ha x.hn x.hc)
 bo:BoxC wx (w.heap.size+1) (.slice none 0 0) (.slice none 0 0) (.slice none 0 0) (.slice none 0 0)
 fo:∀ j,wx.frozen? ⟨w.heap.size+1,j,none⟩=false
 lt:w.heap.size+1<wx.heap.size
theorem Rdw.keep {w:World} {x:SysIn} {wx wy:World} {B:Nat} (h:Rdw w x wx) (hB:w.heap.size+1<B) (hb:Below B wx wy):Rdw w x wy:=by
 have hs:wx.heap.size<=wy.heap.size:=hb.size
 exact ⟨h.be.trans (hb.mono (by omega)),h.bs.blkK (hb.block _ (by omega)),h.bo.blkK (hb.block _ hB),fun j=>(zI (hb.block _ hB)).trans (h.fo j),zL h.lt hs⟩
theorem Rdw.below {w:World} {x:SysIn} {wx wy:World} (h:Rdw w x wx) (hb:Below wx.heap.size wx wy):Rdw w x wy:=h.keep h.lt hb
theorem Rdw.new (w:World) (x:SysIn):Rdw w x ((w.alloc (oQ4 x.pa x.pn x.pc x.sa x.sn x.sc x.wa x.wn x.wc x.ha x.hn x.hc)).alloc (zQ2)):=by
 have hn:=BoxC.new (w.alloc (oQ4 x.pa x.pn x.pc x.sa x.sn x.sc x.wa x.wn x.wc x.ha x.hn x.hc)) (.slice none 0 0) (.slice none 0 0) (.slice none 0 0) (.slice none 0 0) 36
 rw [World.size_alloc] at hn
 have hs:(w.alloc (oQ4 x.pa x.pn x.pc x.sa x.sn x.sc x.wa x.wn x.wc x.ha x.hn x.hc)).heap.size=w.heap.size+1:=by simp
 refine ⟨(zT _ _).trans ((zT _ _).mono (by simp)),(BoxC.new w _ _ _ _ _).below (zT _ _),hn,fun j=>?_,by simp⟩
 rw [<- hs]
 exact yB _ _ _ _ rfl
structure RdK (w:World) (x:SysIn) (B A:Nat) (Y:Sy) (vp vs vw vh:Value) (wx:World):Prop where
 rw:Rdw w x wx
 bx:BoxC wx A vp vs vw vh
 ow:∃ c up us uw uh,OwnS false wx B c Y vp vs vw vh up us uw uh/\c A=0
 nb:w.heap.size+1<B/\B<=A
theorem RdK.below {w:World} {x:SysIn} {B A:Nat} {Y:Sy} {vp vs vw vh:Value} {wx wy:World} (h:RdK w x B A Y vp vs vw vh wx) (hb:Below wx.heap.size wx wy):RdK w x B A Y vp vs vw vh wy:=by
 obtain ⟨c,up,us,uw,uh,o,hc⟩:=h.ow
 exact ⟨h.rw.below hb,h.bx.below hb,⟨c,up,us,uw,uh,o.below hb,hc⟩,h.nb⟩
theorem RdK.lt {w:World} {x:SysIn} {B A:Nat} {Y:Sy} {vp vs vw vh:Value} {wx:World} (h:RdK w x B A Y vp vs vw vh wx):A<wx.heap.size:=zJ wx _ h.bx.1
theorem RdK.step {w:World} {x:SysIn} {B A:Nat} {Y:Sy} {vp vs vw vh:Value} {wx:World} (h:RdK w x B A Y vp vs vw vh wx) (hO:Y.Ok) (a f:Int):
  Calls Tryz.prog 51 #[.agg #[vp,vs,vw,vh],pkV a f] wx fun e w'=>e=.returned (.int .i64 (stC Y a f))/\RdK w x B A (stY Y a f) vp vs vw vh w':=by
 obtain ⟨c,up,us,uw,uh,o,hc⟩:=h.ow
 have hA:=h.lt
 refine (qje Y a f wx B c vp vs vw vh up us uw uh o (by have:=h.nb;omega) hO).mono ?_
 rintro e w' ⟨rfl,b1,kp,c',up',us',uw',uh',o',kc⟩
 exact ⟨rfl,h.rw.keep h.nb.1 b1,h.bx.blkK (kp A hA hc),⟨c',up',us',uw',uh',o',(kc A hA).trans hc⟩,h.nb⟩
theorem RdK.stepP {w:World} {x:SysIn} {B A:Nat} {Y:Sy} {vp vs vw vh:Value} {wr:World} (h:RdK w x B A Y vp vs vw vh wr) (hO:Y.Ok) (ob:Obj) (a f:Int):
  Calls Tryz.prog 51 #[.agg #[vp,vs,vw,vh],pkV a f] (wr.alloc ob).drew fun e w'=>e=.returned (.int .i64 (stC Y a f))/\RdK w x B A (stY Y a f) vp vs vw vh w'/\w'.heap[wr.heap.size]? = (wr.alloc ob).heap[wr.heap.size]? /\ Below B (wr.alloc ob).drew w':=by
 have hA:=h.lt
 obtain ⟨c,up,us,uw,uh,o,hc⟩:=h.ow
 have ba:Below wr.heap.size wr (wr.alloc ob).drew:=(zT wr ob).drew
 have o2:=(o.recol 0).below ba
 have hsz:(wr.alloc ob).drew.heap.size=wr.heap.size+1:=by show (wr.alloc ob).heap.size=_;simp
 have hcA:rcol c wr.heap.size 0 A=0:=by
  unfold rcol
  rw [if_pos hA]
  exact hc
 refine (qje Y a f (wr.alloc ob).drew B _ vp vs vw vh up us uw uh o2 (by have:=h.nb;omega) hO).mono ?_
 rintro e w' ⟨rfl,b1,kp,c',up',us',uw',uh',o',kc⟩
 exact ⟨rfl,⟨(h.rw.below ba).keep h.nb.1 b1,(h.bx.below ba).blkK (kp A (by omega) hcA),⟨c',up',us',uw',uh',o',(kc A (by omega)).trans hcA⟩,h.nb⟩,kp wr.heap.size (by omega) (qah (Nat.le_refl _)),b1⟩
theorem RdK.own {w:World} {x:SysIn} {B A:Nat} {Y:Sy} {vp vs vw vh:Value} {wx:World} (h:RdK w x B A Y vp vs vw vh wx):qbg false ((((wx.setCell ⟨w.heap.size+1,0,none⟩ vp).setCell ⟨w.heap.size+1,1,none⟩ vs).setCell ⟨w.heap.size+1,2,none⟩ vw).setCell ⟨w.heap.size+1,3,none⟩ vh) w.heap.size Y (.agg #[vp,vs,vw,vh])/\Below w.heap.size w ((((wx.setCell ⟨w.heap.size+1,0,none⟩ vp).setCell ⟨w.heap.size+1,1,none⟩ vs).setCell ⟨w.heap.size+1,2,none⟩ vw).setCell ⟨w.heap.size+1,3,none⟩ vh):=by
 obtain ⟨c,up,us,uw,uh,o,hc⟩:=h.ow
 have o1:qbg false wx B Y (.agg #[vp,vs,vw,vh]):=⟨c,vp,vs,vw,vh,up,us,uw,uh,rfl,o⟩
 have l1:=h.nb.1
 have le1:∀ t,w.heap.size<=(⟨w.heap.size+1,t,none⟩:Addr).block:=fun _=>Nat.le_succ _
 exact ⟨((((o1.setBelow l1 0 _).setBelow l1 1 _).setBelow l1 2 _).setBelow l1 3 _).base (by omega),(((h.rw.be.setCell (le1 _) _).setCell (le1 _) _).setCell (le1 _) _).setCell (le1 _) _⟩
theorem Rdw.zero {w:World} {x:SysIn} {wx:World} (h:Rdw w x wx):Below w.heap.size w ((((wx.setCell ⟨w.heap.size+1,0,none⟩ (.slice none 0 0)).setCell ⟨w.heap.size+1,1,none⟩ (.slice none 0 0)).setCell ⟨w.heap.size+1,2,none⟩ (.slice none 0 0)).setCell ⟨w.heap.size+1,3,none⟩ (.slice none 0 0)):=by
 have le1:∀ t,w.heap.size<=(⟨w.heap.size+1,t,none⟩:Addr).block:=fun _=>Nat.le_succ _
 exact (((h.be.setCell (le1 _) _).setCell (le1 _) _).setCell (le1 _) _).setCell (le1 _) _
theorem qgw (x:SysIn) (la:Option Addr) (n lc:Nat) (h:Nat->Wo2) (w:World) (hG:SysG w x) (hL:x.Len) (hW:WoL w la n h) (hn:n<=1048576) (hV:w.cell? ⟨0,0,none⟩=some (.iface 298 (.agg #[.pointer (some ⟨1,213,none⟩)]))):
  Calls Tryz.prog 14 #[x.v,.slice la n lc] w fun e w'=>∃ u,e=.returned (.tuple #[u,.bool (rdB x.y h n)])/\qbg false w' w.heap.size (rdS x.y h n) u/\Below w.heap.size w w':=by
 have hVb:∀ wx,Below w.heap.size w wx->wx.cell? ⟨0,0,none⟩=some (.iface 298 (.agg #[.pointer (some ⟨1,213,none⟩)])):=fun wx hb=>(hb.cell (zJ w _ hV)).trans hV
 have HRo:Hid (∀ t,rwB x.y h n=t->∀ wx,Below w.heap.size w wx->Calls Tryz.prog 49 #[x.v,.slice la n lc] wx fun e w'=>e=.returned (.bool t)/\Below wx.heap.size wx w'):=fun t ht wx hb=>by
  rw [<- ht]
  exact qka x la n lc h wx (hG.below hb) hL (hW.below hb) hn (hVb wx hb)
 have HNw:Hid (∀ wx,Below w.heap.size w wx->Calls Tryz.prog 50 #[.slice x.pa x.pn x.pc] wx (NwR wx x.pn x.pL x.pH)):=fun wx hb=>qit x.pa x.pn x.pc x.pA x.pL x.pC x.pH wx hL.p.1 hL.p.2 (hG.below hb).p (hG.below hb).pi (hVb wx hb)
 have HW:Hid (∀ wx,Below w.heap.size w wx->WoL wx la n h):=fun wx hb=>hW.below hb
 have HG:Hid (∀ wx,Below w.heap.size w wx->SysG wx x):=fun wx hb=>hG.below hb
 have X0:Hid (Rdw w x ((w.alloc (oQ4 x.pa x.pn x.pc x.sa x.sn x.sc x.wa x.wn x.wc x.ha x.hn x.hc)).alloc (zQ2))):=Rdw.new w x
 have hn':(n:Int)<=1048576:=by omega
 clear hG hL hW hV hVb
 go_enter Tryz.func14,Tryz.ntmps14
 go_upto_region 1 with fail
 generalize (w.alloc (oQ4 x.pa x.pn x.pc x.sa x.sn x.sc x.wa x.wn x.wc x.ha x.hn x.hc)).alloc (zQ2)=W1 at *
 obtain ⟨k0,k1,k2,k3⟩:=X0.out.bs
 go_wp2_with fail
 clear k0 k1 k2 k3
 cases hr:rwB x.y h n with
 | false=>
  have HF:Hid (rdB x.y h n=false/\rdS x.y h n={ x.y with pn:=0,sn:=0,wn:=0,hn:=0 }):=⟨qh8 hr,qjd (qh8 hr)⟩
  refine (HRo.out false hr W1 X0.out.be).mono ?_
  rintro e w2 ⟨rfl,b2⟩
  have X2:Hid (Rdw w x w2):=X0.out.below b2
  clear b2 X0
  obtain ⟨r0,r1,r2,r3⟩:=X2.out.bo
  have rf:=X2.out.fo
  go_wp2
  exact bodyPost_ret (v:=.tuple #[sysV none 0 0 none 0 0 none 0 0 none 0 0,.bool false]) (by simp [results,Tryz.results14,go_sem,r0,r1,r2,r3]) rfl ⟨_,by rw [HF.out.1],by rw [HF.out.2];exact qbg.zero _ _ _,X2.out.zero⟩
 | true=>
  refine (HRo.out true hr W1 X0.out.be).mono ?_
  rintro e w2 ⟨rfl,b2⟩
  have X2:Hid (Rdw w x w2):=X0.out.below b2
  have HAt:Hid (∀ i,i<n->∃ p q:Nat,(h i).m=(p:Nat)/\(h i).v=(q:Nat)/\p<x.y.pn/\q<x.y.hL p/\x.y.Ok):=fun i hi=>qwz hr hi
  have hOk:x.y.Ok:=Sy.ok_of (by unfold rwB at hr;simp only [Bool.and_eq_true] at hr;exact hr.1)
  have HO:Hid (x.y.Ok/\rwB x.y h n=true/\nwN x.pn x.pL x.pH=x.pn/\snB x.pn x.pL x.pH=true):=⟨hOk,hr,if_pos hOk.snB,hOk.snB⟩
  clear b2 X0 HRo hOk hr
  obtain ⟨k0,k1,k2,k3⟩:=X2.out.bs
  go_wp2_with fail
  clear k0 k1 k2 k3
  refine (HNw.out w2 X2.out.be).mono ?_
  rintro e w3 ⟨pa,pc,sa,sc,wa,wc,ha,hc,rfl,o3,q3⟩
  rw [HO.out.2.2.1] at o3 ⊢
  obtain ⟨c,up,us,o3⟩:=o3.s
  have ba:=zT w3 (oQ4 pa x.pn pc sa x.pn sc wa (x.pn*x.pn) wc ha x.pn hc)
  have L4:Hid (RdK w x w2.heap.size w3.heap.size (rdY x.y h 0) (.slice pa x.pn pc) (.slice sa x.pn sc) (.slice wa (x.pn*x.pn) wc) (.slice ha x.pn hc) (w3.alloc (oQ4 pa x.pn pc sa x.pn sc wa (x.pn*x.pn) wc ha x.pn hc))):=⟨X2.out.below (q3.trans (ba.mono q3.size)),BoxC.new w3 _ _ _ _ _,⟨_,up,us,_,_,(o3.recol 0).below ba,qah (Nat.le_refl _)⟩,X2.out.lt,q3.size⟩
  go_upto_region 4 with fail
  clear o3 q3 ba X2 HNw
  generalize w2.heap.size=B at *
  generalize w3.alloc (oQ4 pa x.pn pc sa x.pn sc wa (x.pn*x.pn) wc ha x.pn hc)=w4 at *
  generalize w3.heap.size=A at *
  go_wp2_with fail
  go_loopw [23] (fun i wr=>∃ j:Nat,j<=n/\i=.int .i64 (j:Nat)/\Hid (RdK w x B A (rdY x.y h j) (.slice pa x.pn pc) (.slice sa x.pn sc) (.slice wa (x.pn*x.pn) wc) (.slice ha x.pn hc) wr/\∀ i,i<j->rdC x.y h i=0)) (fun i _=>n - (intOf i).toNat)
  case atStart=>exact ⟨0,Nat.zero_le _,rfl,L4.out,fun i hi=>absurd hi (Nat.not_lt_zero _)⟩
  case round=>
   clear L4
   rename World=>wr
   obtain ⟨j,hj,rfl,HK⟩:=hrel
   by_cases hlt:j<n
   case neg=>
    have hjn:j=n:=by omega
    have HF:Hid (rdB x.y h n=true/\rdS x.y h n=rdY x.y h j):=by
     have h9:rdB x.y h n=true:=qt7 HO.out.2.1 fun i hi=>HK.out.2 i (by omega)
     exact ⟨h9,by rw [qpd h9,hjn]⟩
    obtain ⟨k0,k1,k2,k3⟩:=HK.out.1.bx
    obtain ⟨r0,r1,r2,r3⟩:=HK.out.1.rw.bo
    have rf:=HK.out.1.rw.fo
    have HE:=HK.out.1.own
    clear hjn
    go_wp2
    exact bodyPost_ret (v:=.tuple #[.agg #[.slice pa x.pn pc,.slice sa x.pn sc,.slice wa (x.pn*x.pn) wc,.slice ha x.pn hc],.bool true]) (by simp [results,Tryz.results14,go_sem,r0,r1,r2,r3]) rfl ⟨_,by rw [HF.out.1],by rw [HF.out.2];exact HE.1,HE.2⟩
   have hlt':(j:Int)<(n:Int):=by omega
   obtain ⟨p,q,em,eq,hp,hq,-⟩:=HAt.out j hlt
   obtain ⟨b,off,rfl,-,c0,c1⟩:=(HW.out wr HK.out.1.rw.be).at hlt
   rw [em] at c0
   rw [eq] at c1
   have hhn:x.hn=x.y.pn:=HO.out.1.cn.2.2.1
   have hp':(p:Int)<(x.hn:Int):=by rw [hhn];omega
   have hq':(q:Int)<(x.hL p:Int):=by have:x.y.hL p=x.hL p:=rfl;omega
   have HQ:Hid ((h j).m=(p:Nat)/\(h j).v=(q:Nat)/\rdQ x.y (h j)=(x.hH p q).q):=⟨em,eq,by unfold rdQ;rw [em,eq,Int.toNat_natCast,Int.toNat_natCast];rfl⟩
   have HPp:Hid (p<x.hn/\q<x.hL p):=⟨by rw [hhn];exact hp,hq⟩
   have K1:Hid (RdK w x B A (rdY x.y h j) (.slice pa x.pn pc) (.slice sa x.pn sc) (.slice wa (x.pn*x.pn) wc) (.slice ha x.pn hc) (wr.alloc (.cells #[.int .i64 (p:Nat),.int .i64 (q:Nat)] 72))/\(∀ i,i<j->rdC x.y h i=0)/\BoxS (wr.alloc (.cells #[.int .i64 (p:Nat),.int .i64 (q:Nat)] 72)) wr.heap.size (.int .i64 (p:Nat)) (.int .i64 (q:Nat))):=⟨HK.out.1.below (zT _ _),HK.out.2,BoxS.new wr _ _ _⟩
   clear hhn hp hq em eq
   obtain ⟨bh,oh,eh,ch⟩:=(HG.out w (Below.refl _ _)).h.at HPp.out.1
   have hch:w.cell? ⟨bh,oh+p,none⟩=some (.slice (x.hA p) (x.hL p) (x.hC p)):=ch
   obtain ⟨be,oe,ee,ze,-,e1,-⟩:=((HG.out w (Below.refl _ _)).hi p HPp.out.1).at HPp.out.2
   rw [ee] at hch
   have HCe:Hid (∀ wx,Below w.heap.size w wx->wx.cell? ⟨bh,oh+p,none⟩=some (.slice (some ⟨be,oe,none⟩) (x.hL p) (x.hC p))/\wx.cell? ⟨be,oe+q*3+1,none⟩=some (.int .i64 (rdQ x.y (h j)))):=fun wx hb=>⟨(hb.cell (zJ w _ hch)).trans hch,by rw [HQ.out.2.2];exact (hb.cell ze).trans e1⟩
   have HEh:Hid (x.ha=some ⟨bh,oh,none⟩):=eh
   clear ch e1 hch eh ee ze
   have HSt:Hid (Calls Tryz.prog 51 #[.agg #[.slice pa x.pn pc,.slice sa x.pn sc,.slice wa (x.pn*x.pn) wc,.slice ha x.pn hc],pkV (p:Nat) (rdQ x.y (h j))] (wr.alloc (.cells #[.int .i64 (p:Nat),.int .i64 (q:Nat)] 72)).drew fun e w'=>e=.returned (.int .i64 (rdC x.y h j))/\RdK w x B A (rdY x.y h (j+1)) (.slice pa x.pn pc) (.slice sa x.pn sc) (.slice wa (x.pn*x.pn) wc) (.slice ha x.pn hc) w'/\w'.heap[wr.heap.size]? = (wr.alloc (.cells #[.int .i64 (p:Nat),.int .i64 (q:Nat)] 72)).heap[wr.heap.size]? /\ Below B (wr.alloc (.cells #[.int .i64 (p:Nat),.int .i64 (q:Nat)] 72)).drew w'):=by
    have h9:=HK.out.1.stepP (qm6 HO.out.1 h j) (.cells #[.int .i64 (p:Nat),.int .i64 (q:Nat)] 72) (h j).m (rdQ x.y (h j))
    rw [HQ.out.1] at h9
    have e9:stY (rdY x.y h j) ((p:Nat):Int) (rdQ x.y (h j))=rdY x.y h (j+1):=by
     show _=stY (rdY x.y h j) (h j).m (rdQ x.y (h j))
     rw [HQ.out.1]
    have e8:stC (rdY x.y h j) ((p:Nat):Int) (rdQ x.y (h j))=rdC x.y h j:=by
     show _=stC (rdY x.y h j) (h j).m (rdQ x.y (h j))
     rw [HQ.out.1]
    rw [e9,e8] at h9
    exact h9
   go_upto_region 7 with fail
   clear c0 c1 HK
   generalize wr.heap.size=P at *
   generalize wr.alloc (.cells #[.int .i64 (p:Nat),.int .i64 (q:Nat)] 72)=w5 at *
   clear wr
   have hS:∀ wx,RdK w x B A (rdY x.y h j) (.slice pa x.pn pc) (.slice sa x.pn sc) (.slice wa (x.pn*x.pn) wc) (.slice ha x.pn hc) wx\/RdK w x B A (rdY x.y h (j+1)) (.slice pa x.pn pc) (.slice sa x.pn sc) (.slice wa (x.pn*x.pn) wc) (.slice ha x.pn hc) wx->BoxS wx P (.int .i64 (p:Nat)) (.int .i64 (q:Nat))->(fun w':World=>BoxC w' A (.slice pa x.pn pc) (.slice sa x.pn sc) (.slice wa (x.pn*x.pn) wc) (.slice ha x.pn hc)/\w'.cell? ⟨P,0,none⟩=some (.int .i64 (p:Nat))/\w'.cell? ⟨P,1,none⟩=some (.int .i64 (q:Nat))/\w'.cell? ⟨w.heap.size,3,none⟩=some (.slice (some ⟨bh,oh,none⟩) x.hn x.hc)/\w'.cell? ⟨bh,oh+p,none⟩=some (.slice (some ⟨be,oe,none⟩) (x.hL p) (x.hC p))/\w'.cell? ⟨be,oe+q*3+1,none⟩=some (.int .i64 (rdQ x.y (h j)))) wx:=fun wx hk hp=>by
    have hr:Rdw w x wx/\BoxC wx A (.slice pa x.pn pc) (.slice sa x.pn sc) (.slice wa (x.pn*x.pn) wc) (.slice ha x.pn hc):=by
     rcases hk with hk | hk
     ·exact ⟨hk.rw,hk.bx⟩
     ·exact ⟨hk.rw,hk.bx⟩
    refine ⟨hr.2,hp.1,hp.2,?_,(HCe.out wx hr.1.be).1,(HCe.out wx hr.1.be).2⟩
    rw [<- HEh.out]
    exact hr.1.bs.2.2.2
   have q0:Below w5.heap.size w5 w5.drew:=(Below.refl w5.heap.size w5).drew
   have hHeld:(fun w':World=>BoxC w' A (.slice pa x.pn pc) (.slice sa x.pn sc) (.slice wa (x.pn*x.pn) wc) (.slice ha x.pn hc)/\w'.cell? ⟨P,0,none⟩=some (.int .i64 (p:Nat))/\w'.cell? ⟨P,1,none⟩=some (.int .i64 (q:Nat))/\w'.cell? ⟨w.heap.size,3,none⟩=some (.slice (some ⟨bh,oh,none⟩) x.hn x.hc)/\w'.cell? ⟨bh,oh+p,none⟩=some (.slice (some ⟨be,oe,none⟩) (x.hL p) (x.hC p))/\w'.cell? ⟨be,oe+q*3+1,none⟩=some (.int .i64 (rdQ x.y (h j)))) w5.drew:=hS _ (.inl (K1.out.1.below q0)) (K1.out.2.2.below q0)
   refine qas (fun w':World=>BoxC w' A (.slice pa x.pn pc) (.slice sa x.pn sc) (.slice wa (x.pn*x.pn) wc) (.slice ha x.pn hc)/\w'.cell? ⟨P,0,none⟩=some (.int .i64 (p:Nat))/\w'.cell? ⟨P,1,none⟩=some (.int .i64 (q:Nat))/\w'.cell? ⟨w.heap.size,3,none⟩=some (.slice (some ⟨bh,oh,none⟩) x.hn x.hc)/\w'.cell? ⟨bh,oh+p,none⟩=some (.slice (some ⟨be,oe,none⟩) (x.hL p) (x.hC p))/\w'.cell? ⟨be,oe+q*3+1,none⟩=some (.int .i64 (rdQ x.y (h j)))) (fun _=>false) (by kernel_rfl) ?_
   refine qaf 0 rfl hHeld ?_
   apply Exists.intro
   refine ⟨fun wq hSw=>?_,?_⟩
   ·obtain ⟨⟨g0,g1,g2,g3⟩,g4,g5,g6,g7,g8⟩:=hSw
    go_simp
    try with_reducible rfl
   (try simp only [Act.put,zD,zE,zF])
   refine qaf 1 rfl hHeld ?_
   apply Exists.intro
   refine ⟨fun wq hSw=>?_,?_⟩
   ·obtain ⟨⟨g0,g1,g2,g3⟩,g4,g5,g6,g7,g8⟩:=hSw
    go_simp
    try with_reducible rfl
   (try simp only [Act.put,zD,zE,zF])
   refine qaf 2 rfl hHeld ?_
   apply Exists.intro
   refine ⟨fun wq hSw=>?_,?_⟩
   ·obtain ⟨⟨g0,g1,g2,g3⟩,g4,g5,g6,g7,g8⟩:=hSw
    go_simp
    try with_reducible rfl
   (try simp only [Act.put,zD,zE,zF])
   refine qaf 3 rfl hHeld ?_
   apply Exists.intro
   refine ⟨fun wq hSw=>?_,?_⟩
   ·obtain ⟨⟨g0,g1,g2,g3⟩,g4,g5,g6,g7,g8⟩:=hSw
    go_simp
    try with_reducible rfl
   (try simp only [Act.put,zD,zE,zF])
   refine qaf 4 rfl hHeld ?_
   apply Exists.intro
   refine ⟨fun wq hSw=>?_,?_⟩
   ·obtain ⟨⟨g0,g1,g2,g3⟩,g4,g5,g6,g7,g8⟩:=hSw
    go_simp
    try with_reducible rfl
   (try simp only [Act.put,zD,zE,zF])
   refine qaf 5 rfl hHeld ?_
   apply Exists.intro
   refine ⟨fun wq hSw=>?_,?_⟩
   ·obtain ⟨⟨g0,g1,g2,g3⟩,g4,g5,g6,g7,g8⟩:=hSw
    go_simp
    try with_reducible rfl
   (try simp only [Act.put,zD,zE,zF])
   refine qaf 6 rfl hHeld ?_
   apply Exists.intro
   refine ⟨fun wq hSw=>?_,?_⟩
   ·obtain ⟨⟨g0,g1,g2,g3⟩,g4,g5,g6,g7,g8⟩:=hSw
    go_simp
    try with_reducible rfl
   (try simp only [Act.put,zD,zE,zF])
   refine qaf 7 rfl hHeld ?_
   apply Exists.intro
   refine ⟨fun wq hSw=>?_,?_⟩
   ·obtain ⟨⟨g0,g1,g2,g3⟩,g4,g5,g6,g7,g8⟩:=hSw
    go_simp
    try with_reducible rfl
   (try simp only [Act.put,zD,zE,zF])
   refine qaf 8 rfl hHeld ?_
   apply Exists.intro
   refine ⟨fun wq hSw=>?_,?_⟩
   ·obtain ⟨⟨g0,g1,g2,g3⟩,g4,g5,g6,g7,g8⟩:=hSw
    go_simp
    try with_reducible rfl
   (try simp only [Act.put,zD,zE,zF])
   refine qaf 9 rfl hHeld ?_
   apply Exists.intro
   refine ⟨fun wq hSw=>?_,?_⟩
   ·obtain ⟨⟨g0,g1,g2,g3⟩,g4,g5,g6,g7,g8⟩:=hSw
    go_simp
    try with_reducible rfl
   (try simp only [Act.put,zD,zE,zF])
   refine qaf 10 rfl hHeld ?_
   apply Exists.intro
   refine ⟨fun wq hSw=>?_,?_⟩
   ·obtain ⟨⟨g0,g1,g2,g3⟩,g4,g5,g6,g7,g8⟩:=hSw
    go_simp
    try with_reducible rfl
   (try simp only [Act.put,zD,zE,zF])
   refine qaf 11 rfl hHeld ?_
   apply Exists.intro
   refine ⟨fun wq hSw=>?_,?_⟩
   ·obtain ⟨⟨g0,g1,g2,g3⟩,g4,g5,g6,g7,g8⟩:=hSw
    go_simp
    try with_reducible rfl
   (try simp only [Act.put,zD,zE,zF])
   refine qaf 12 rfl hHeld ?_
   apply Exists.intro
   refine ⟨fun wq hSw=>?_,?_⟩
   ·obtain ⟨⟨g0,g1,g2,g3⟩,g4,g5,g6,g7,g8⟩:=hSw
    go_simp
    try with_reducible rfl
   (try simp only [Act.put,zD,zE,zF])
   refine qaf 13 rfl hHeld ?_
   apply Exists.intro
   refine ⟨fun wq hSw=>?_,?_⟩
   ·obtain ⟨⟨g0,g1,g2,g3⟩,g4,g5,g6,g7,g8⟩:=hSw
    go_simp
    try with_reducible rfl
   (try simp only [Act.put,zD,zE,zF])
   refine qaf 14 rfl hHeld ?_
   apply Exists.intro
   refine ⟨fun wq hSw=>?_,?_⟩
   ·obtain ⟨⟨g0,g1,g2,g3⟩,g4,g5,g6,g7,g8⟩:=hSw
    go_simp
    try with_reducible rfl
   (try simp only [Act.put,zD,zE,zF])
   refine qao 15 rfl (by kernel_rfl) (fun Kc hKc=>?_)
   refine qe5 rfl 51 _ _ rfl #[.agg #[.slice pa x.pn pc,.slice sa x.pn sc,.slice wa (x.pn*x.pn) wc,.slice ha x.pn hc],pkV (p:Nat) (rdQ x.y (h j))] (by simp [Act.eval]) (yA Tryz.func51 (by kernel_rfl) rfl) HSt.out ?_
   rintro e w6 ⟨rfl,k6,kP,b6⟩
   refine ⟨_,rfl,?_⟩
   refine hKc.out _ _ (fun _=>hS _ (.inr k6) (K1.out.2.2.blk kP)) ?_
   have K6:Hid (RdK w x B A (rdY x.y h (j+1)) (.slice pa x.pn pc) (.slice sa x.pn sc) (.slice wa (x.pn*x.pn) wc) (.slice ha x.pn hc) w6/\∀ i,i<j->rdC x.y h i=0):=⟨k6,K1.out.2.1⟩
   clear hKc Kc hHeld HSt k6 K1 kP b6 hS HCe HEh
   (try simp only [Act.put,zD,zE,zF])
   refine qcz 16 rfl (by kernel_rfl) (by kernel_rfl) (by kernel_rfl) (fun _ _ _ _ h=>h) (by rfl) ?_
   apply Exists.intro
   refine ⟨fun wq=>?_,?_⟩
   ·go_simp
    try with_reducible rfl
   (try simp only [Act.put,zD,zE,zF])
   refine qbe (by kernel_rfl) ?_ _
   by_cases hc0:rdC x.y h j=0
   case neg=>
    have hne:(rdC x.y h j != 0)=true:=by simpa using hc0
    have HF:Hid (rdB x.y h n=false/\rdS x.y h n={ x.y with pn:=0,sn:=0,wn:=0,hn:=0 }):=⟨qej hlt hc0,qjd (qej hlt hc0)⟩
    generalize rdC x.y h j=cd at *
    obtain ⟨r0,r1,r2,r3⟩:=K6.out.1.rw.bo
    have rf:=K6.out.1.rw.fo
    clear hc0
    go_wp2
    exact bodyPost_ret (v:=.tuple #[sysV none 0 0 none 0 0 none 0 0 none 0 0,.bool false]) (by simp [results,Tryz.results14,go_sem,r0,r1,r2,r3]) rfl ⟨_,by rw [HF.out.1],by rw [HF.out.2];exact qbg.zero _ _ _,K6.out.1.rw.zero⟩
   have hne:(rdC x.y h j != 0)=false:=by simp [hc0]
   have K7 : Hid (RdK w x B A (rdY x.y h (j + 1)) (.slice pa x.pn pc) (.slice sa x.pn sc) (.slice wa (x.pn * x.pn) wc) (.slice ha x.pn hc) w6 ∧ ∀ i, i < j + 1 → rdC x.y h i = 0) := ⟨K6.out.1, fun i hi => by
    by_cases e:i=j
    ·subst e
     exact hc0
    ·exact K6.out.2 i (by omega)⟩
   rw [hc0] at hne ⊢
   clear hc0 K6
   go_wp2
   go_roundw
   case rel=>exact ⟨j+1,by omega,by go_num,K7.out⟩
   case measure=>simp [intOf];omega
