import Derived.Test.YtkdablcbhhphoaaGreatDoorMt28
namespace Go.Proofs.YtkdablcbhhphoaaGreatDoor
open Go.Proofs.Tryz
set_option maxRecDepth 100000
set_option maxHeartbeats 4000000
open Go.ChangeShapes Go.WideShapes Go.ChangeAt Go.RowKit Go.Deep
def ShIn.Nk (x:ShIn):Prop:=∀ i,i<x.kn->∃ b off,x.kA i=some ⟨b,off,none⟩
theorem qm4 (x:LvIn) (w:World) (hG:LvG w x) (hL:x.Len) (hN:x.s.Nn false) (hK:x.h.Nk):
  Calls prog 26 #[x.v] w fun e w'=>∃ v,e=.returned v/\qba w' w.heap.size x.s.y x.h.z v/\Below w.heap.size w w':=by
 have HC4:Hid (∀ wx,Below w.heap.size w wx->Calls prog 73 #[x.s.v] wx fun e w'=>∃ v,e=.returned v/\qbj false w' wx.heap.size x.s.y v/\Below wx.heap.size wx w'):=fun wx hb=>qpp x.s wx (hG.s.bw hb) hL.s hN;have HH:Hid (∀ wx,Below w.heap.size w wx->ShG wx x.h):=fun wx hb=>hG.h.bw hb;have HLh:Hid x.h.Len:=hL.h;have HK:Hid x.h.Nk:=hK;have BW:Hid (Below w.heap.size w ((w.alloc (oQ7 x.s.pa x.s.pn x.s.pc x.s.sa x.s.sn x.s.sc x.s.wa x.s.wn x.s.wc x.s.ha x.s.hn x.s.hc x.h.on x.h.ca x.h.cn x.h.cc x.h.oa x.h.ol x.h.oc x.h.ka x.h.kn x.h.kc)).alloc (zQ5))):=(zP _ _).trans ((zP _ _).mono (by simp));have NB:Hid (BoxH ((w.alloc (oQ7 x.s.pa x.s.pn x.s.pc x.s.sa x.s.sn x.s.sc x.s.wa x.s.wn x.s.wc x.s.ha x.s.hn x.s.hc x.h.on x.h.ca x.h.cn x.h.cc x.h.oa x.h.ol x.h.oc x.h.ka x.h.kn x.h.kc)).alloc (zQ5)) w.heap.size (.slice x.s.pa x.s.pn x.s.pc) (.slice x.s.sa x.s.sn x.s.sc) (.slice x.s.wa x.s.wn x.s.wc) (.slice x.s.ha x.s.hn x.s.hc) (.bool x.h.on) (.slice x.h.ca x.h.cn x.h.cc) (.slice x.h.oa x.h.ol x.h.oc) (.slice x.h.ka x.h.kn x.h.kc)):=(BoxH.new w _ _ _ _ _ _ _ _ _).bw (zP _ _)
 have RB:Hid (BoxH ((w.alloc (oQ7 x.s.pa x.s.pn x.s.pc x.s.sa x.s.sn x.s.sc x.s.wa x.s.wn x.s.wc x.s.ha x.s.hn x.s.hc x.h.on x.h.ca x.h.cn x.h.cc x.h.oa x.h.ol x.h.oc x.h.ka x.h.kn x.h.kc)).alloc (zQ5)) (w.heap.size+1) nS nS nS nS (.bool false) nS nS nS/\∀ j,((w.alloc (oQ7 x.s.pa x.s.pn x.s.pc x.s.sa x.s.sn x.s.sc x.s.wa x.s.wn x.s.wc x.s.ha x.s.hn x.s.hc x.h.on x.h.ca x.h.cn x.h.cc x.h.oa x.h.ol x.h.oc x.h.ka x.h.kn x.h.kc)).alloc (zQ5)).frozen? ⟨w.heap.size+1,j,none⟩=false):=by
  have e:(w.alloc (oQ7 x.s.pa x.s.pn x.s.pc x.s.sa x.s.sn x.s.sc x.s.wa x.s.wn x.s.wc x.s.ha x.s.hn x.s.hc x.h.on x.h.ca x.h.cn x.h.cc x.h.oa x.h.ol x.h.oc x.h.ka x.h.kn x.h.kc)).heap.size=w.heap.size+1:=by simp
  rw [<- e];exact ⟨BoxH.new _ _ _ _ _ _ _ _ _ _,fun j=>yA _ _ _ _ rfl⟩
 have hM:w.heap.size<=w.heap.size+1:=nK _;clear hG hL hN hK
 go_enter func26,ntmps26
 go_upto_region 1 with fail
 generalize (w.alloc (oQ7 x.s.pa x.s.pn x.s.pc x.s.sa x.s.sn x.s.sc x.s.wa x.s.wn x.s.wc x.s.ha x.s.hn x.s.hc x.h.on x.h.ca x.h.cn x.h.cc x.h.oa x.h.ol x.h.oc x.h.ka x.h.kn x.h.kc)).alloc (zQ5)=W2 at *;have LR:Hid (w.heap.size+1<W2.heap.size):=RB.1.lt;have HRB:Hid (∀ wx,Below W2.heap.size W2 wx->BoxH wx w.heap.size (.slice x.s.pa x.s.pn x.s.pc) (.slice x.s.sa x.s.sn x.s.sc) (.slice x.s.wa x.s.wn x.s.wc) (.slice x.s.ha x.s.hn x.s.hc) (.bool x.h.on) (.slice x.h.ca x.h.cn x.h.cc) (.slice x.h.oa x.h.ol x.h.oc) (.slice x.h.ka x.h.kn x.h.kc)/\BoxH wx (w.heap.size+1) nS nS nS nS (.bool false) nS nS nS/\(∀ j,wx.frozen? ⟨w.heap.size+1,j,none⟩=false)/\w.heap.size+1<wx.heap.size):=fun wx hb=>⟨NB.bw hb,RB.1.bw hb,fun j=>((qap hb).2 _ j LR.out).trans (RB.2 j),zL LR.out hb.size⟩
 clear NB RB;have F0:Hid (PrL W2 W2.heap.size x.s.y x.h.z false false false false undef undef undef undef (fun _=>False) W2.drew):=(PrL.start (nA _) (nE _ _)).drew
 have hS0:∀ wx,Below W2.heap.size W2 wx->wx.cell? ⟨w.heap.size,4,none⟩=some (.bool x.h.on)/\wx.cell? ⟨w.heap.size,5,none⟩=some (.slice x.h.ca x.h.cn x.h.cc)/\wx.cell? ⟨w.heap.size,6,none⟩=some (.slice x.h.oa x.h.ol x.h.oc)/\wx.cell? ⟨w.heap.size,7,none⟩=some (.slice x.h.ka x.h.kn x.h.kc):=fun wx hb=>by
  obtain ⟨-,-,-,-,h4,h5,h6,h7⟩:=(HRB.out wx hb).1;exact ⟨h4,h5,h6,h7⟩
 have hHeld:(fun w':World=>w'.cell? ⟨w.heap.size,4,none⟩=some (.bool x.h.on)/\w'.cell? ⟨w.heap.size,5,none⟩=some (.slice x.h.ca x.h.cn x.h.cc)/\w'.cell? ⟨w.heap.size,6,none⟩=some (.slice x.h.oa x.h.ol x.h.oc)/\w'.cell? ⟨w.heap.size,7,none⟩=some (.slice x.h.ka x.h.kn x.h.kc)) W2.drew:=hS0 W2 (nE _ _);refine qa1 (fun w'=>w'.cell? ⟨w.heap.size,4,none⟩=some (.bool x.h.on)/\w'.cell? ⟨w.heap.size,5,none⟩=some (.slice x.h.ca x.h.cn x.h.cc)/\w'.cell? ⟨w.heap.size,6,none⟩=some (.slice x.h.oa x.h.ol x.h.oc)/\w'.cell? ⟨w.heap.size,7,none⟩=some (.slice x.h.ka x.h.kn x.h.kc)) (fun i=>i == 17) (by kernel_rfl) ?_;refine qcn [0,1,2,3,4,5,7,8,9,11,12,13] ?_;iterate 12 (refine qdl rfl hHeld ?_)
 refine qb0 ?_;clear hHeld;refine qq8 (fun s:Bool × Bool × Bool × Bool × Bool=>#[true,true,true,true,true,true,s.1,true,true,true,s.2.1,true,true,true,s.2.2.1,s.2.2.2.1,s.2.2.2.2,false]) (fun s=>outI s.1 6 ++ (outI (s.2.1 || !s.1) 10 ++ (outI (s.2.2.1 || !s.2.1) 14 ++ (outI (s.2.2.2.1 || !(s.1 && (s.2.1 && s.2.2.1))) 15 ++ outI s.2.2.2.2 16)))) (fun s y wq=>(s.2.2.2.1=true->s.1=true/\s.2.1=true/\s.2.2.1=true)/\∃ v10 v14 v18 v19 v3,y=⟨#[.agg #[.slice x.s.pa x.s.pn x.s.pc,.slice x.s.sa x.s.sn x.s.sc,.slice x.s.wa x.s.wn x.s.wc,.slice x.s.ha x.s.hn x.s.hc,.bool x.h.on,.slice x.h.ca x.h.cn x.h.cc,.slice x.h.oa x.h.ol x.h.oc,.slice x.h.ka x.h.kn x.h.kc],.pointer (some ⟨w.heap.size,0,none⟩),.pointer (some ⟨w.heap.size+1,0,none⟩),v3,.pointer (some ⟨w.heap.size,4,none⟩),.pointer (some ⟨w.heap.size,4,none⟩),.bool x.h.on,.pointer (some ⟨w.heap.size,4,none⟩),.pointer (some ⟨w.heap.size,5,none⟩),.slice x.h.ca x.h.cn x.h.cc,v10,.pointer (some ⟨w.heap.size,4,none⟩),.pointer (some ⟨w.heap.size,6,none⟩),.slice x.h.oa x.h.ol x.h.oc,v14,.pointer (some ⟨w.heap.size,4,none⟩),.pointer (some ⟨w.heap.size,7,none⟩),.slice x.h.ka x.h.kn x.h.kc,v18,v19,undef,undef,undef,undef,undef],[]⟩/\(s.2.2.2.1=true->v19=.agg #[.bool x.h.on,v10,v14,v18])/\(s.2.2.2.2=true->∃ N,v3=.pointer (some ⟨N,0,none⟩)/\W2.heap.size<=N/\BoxC wq N (.bool false) nS nS nS/\∀ j,wq.frozen? ⟨N,j,none⟩=false)/\PrL W2 W2.heap.size x.s.y x.h.z false s.1 s.2.1 s.2.2.1 undef v10 v14 v18 (fun k=>s.2.2.2.2=true/\v3=.pointer (some ⟨k,0,none⟩)) wq) (fun s=>s.2.2.2.1 && s.2.2.2.2) ?_ ?_ ?_ ?_ _ (false,false,false,false,false) _ _ _ (by kernel_rfl) ⟨(fun e=>by cases e),_,_,_,_,_,rfl,(fun e=>by cases e),(fun e=>by cases e),F0.sub fun k h=>by cases h.1⟩ (by kernel_rfl)
 ·rintro ⟨a,b,c,f,e⟩ hs
  cases a <;> cases b <;> cases c <;> cases f <;> cases e <;> first | exact absurd hs (by decide) | kernel_rfl
 ·rintro ⟨a,b,c,f,e⟩ hs
  cases a <;> cases b <;> cases c <;> cases f <;> cases e <;> first | exact absurd hs (by decide) | exact (by decide)
 ·rintro ⟨a,b,c,f,e⟩ y wq ⟨hbc,v10,v14,v18,v19,v3,rfl,h19,hE,F⟩ hs
  have hE2:∀ wx,Below wq.heap.size wq wx->e=true->∃ N,v3=.pointer (some ⟨N,0,none⟩)/\W2.heap.size<=N/\BoxC wx N (.bool false) nS nS nS/\∀ j,wx.frozen? ⟨N,j,none⟩=false:=fun wx hb he=>by
   obtain ⟨N,e1,e2,e3,e4⟩:=hE he;have hl:=zJ _ _ e3.1;exact ⟨N,e1,e2,e3.bw hb,fun j=>((qap hb).2 _ j hl).trans (e4 j)⟩
  have hS:∀ wx,Below wq.heap.size wq wx->wx.cell? ⟨w.heap.size,4,none⟩=some (.bool x.h.on)/\wx.cell? ⟨w.heap.size,5,none⟩=some (.slice x.h.ca x.h.cn x.h.cc)/\wx.cell? ⟨w.heap.size,6,none⟩=some (.slice x.h.oa x.h.ol x.h.oc)/\wx.cell? ⟨w.heap.size,7,none⟩=some (.slice x.h.ka x.h.kn x.h.kc):=fun wx hb=>hS0 wx (F.be.trans (hb.mono F.be.size));have hSh:=HH.out wq (BW.trans (F.be.mono BW.size));intro i hi;rw [List.mem_append,List.mem_append,List.mem_append,List.mem_append] at hi
  rcases hi with hi | hi | hi | hi | hi
  all_goals obtain ⟨he,rfl⟩:=qlt hi
  ·refine ⟨(true,b,c,f,e),rfl,wpOp_step rfl fun K hK=>?_⟩
   refine qas rfl 70 _ _ rfl #[.slice x.h.ca x.h.cn x.h.cc] (by simp [Act.eval]) (zZ func70) (qkq x.h.ca x.h.cn x.h.cc x.h.cH wq HLh.c (srcZ hSh.c)) ?_;rintro e5 w5 ⟨a5,c5,rfl,o5,-,q5⟩;refine ⟨_,rfl,hK _ _ ⟨fun _ _=>hS _ q5,(fun h=>⟨rfl,(hbc h).2⟩),.slice a5 x.h.cn c5,v14,v18,v19,v3,rfl,(fun h=>?_),hE2 _ q5,F.cut q5 o5⟩⟩;have hb1:a=true:=(hbc h).1;have hb2:a=false:=he;rw [hb1] at hb2;cases hb2
  ·refine ⟨(a,true,c,f,e),rfl,wpOp_step rfl fun K hK=>?_⟩
   refine qas rfl 71 _ _ rfl #[.slice x.h.oa x.h.ol x.h.oc] (by simp [Act.eval]) (zZ func71) (qja x.h.oa x.h.ol x.h.oc x.h.oH wq HLh.o (qzk hSh.o)) ?_;rintro e5 w5 ⟨a5,c5,rfl,o5,-,q5⟩;refine ⟨_,rfl,hK _ _ ⟨fun _ _=>hS _ q5,(fun h=>⟨(hbc h).1,rfl,(hbc h).2.2⟩),v10,.slice a5 x.h.ol c5,v18,v19,v3,rfl,(fun h=>?_),hE2 _ q5,F.open' q5 o5⟩⟩;have hb1:b=true:=(hbc h).2.1;have hb2:(b || !a)=false:=he;rw [hb1] at hb2;cases hb2
  ·refine ⟨(a,b,true,f,e),rfl,wpOp_step rfl fun K hK=>?_⟩
   refine qas rfl 72 _ _ rfl #[.slice x.h.ka x.h.kn x.h.kc] (by simp [Act.eval]) (zZ func72) (qhm (z := false) x.h.ka x.h.kn x.h.kc x.h.kA x.h.kL x.h.kC x.h.kH wq HLh.k.1 HLh.k.2 hSh.k fun i hi => .inl (by
    obtain ⟨b,off,eb⟩:=HK.out i hi
    exact ⟨b,off,eb,srcZ (hSh.l i hi)⟩)) ?_
   rintro e5 w5 ⟨v5,u5,rfl,o5,q5⟩;refine ⟨_,rfl,hK _ _ ⟨fun _ _=>hS _ q5,(fun h=>⟨(hbc h).1,(hbc h).2.1,rfl⟩),v10,v14,v5,v19,v3,rfl,(fun h=>?_),hE2 _ q5,F.kept q5 (o5.mono fun k hk _=>hk.1)⟩⟩;have hb1:c=true:=(hbc h).2.2;have hb2:(c || !b)=false:=he;rw [hb1] at hb2;cases hb2
  ·obtain rfl:f=false:=by cases f <;> simp_all
   obtain ⟨rfl,rfl,rfl⟩:a=true/\b=true/\c=true:=by cases a <;> cases b <;> cases c <;> simp_all
   refine ⟨(true,true,true,true,e),rfl,wpOp_step rfl fun K hK=>?_⟩;obtain ⟨ck,-,hC,hO,hK4,-⟩:=F.ow;obtain ⟨a5,c5,rfl⟩:=zT (hC rfl).1;obtain ⟨a6,c6,rfl⟩:=zT (hO rfl).1;obtain ⟨u7,o7⟩:=hK4 rfl;obtain ⟨a7,c7,rfl⟩:=zT o7.row;go_simp;exact hK _ _ ⟨fun h _=>h,(fun _=>⟨rfl,rfl,rfl⟩),_,_,_,_,v3,rfl,(fun _=>rfl),hE,F⟩
  ·obtain rfl:e=false:=he
   refine ⟨(a,b,c,f,true),rfl,wpOp_step rfl fun K hK=>?_⟩;go_simp;exact hK _ _ ⟨fun _ _=>hS _ (zP _ _),hbc,v10,v14,v18,v19,.pointer (some ⟨wq.heap.size,0,none⟩),rfl,h19,(fun _=>⟨_,rfl,F.be.size,BoxC.new wq _ _ _ _ _,fun j=>yA _ _ _ _ rfl⟩),F.box _ _ fun k hk=>.inr (by have:=hk.2;simp at this;exact this.symm)⟩
 rintro ⟨a,b,c,f,e⟩ y wq ⟨hbc,v10,v14,v18,v19,v3,rfl,h19,hE,F⟩ hs;obtain ⟨rfl,rfl⟩:f=true/\e=true:=by cases f <;> cases e <;> simp_all
 obtain ⟨rfl,rfl,rfl⟩:a=true/\b=true/\c=true:=hbc rfl;obtain rfl:=h19 rfl;obtain ⟨N,rfl,nw,nb,nf⟩:=hE rfl;obtain ⟨ck,-,hC,hO,hK4,-⟩:=F.ow;obtain ⟨a5,c5,rfl⟩:∃ a c,v10=.slice a x.h.cn c:=zT (hC rfl).1;obtain ⟨a6,c6,rfl⟩:∃ a c,v14=.slice a x.h.ol c:=zT (hO rfl).1;obtain ⟨u7,o7⟩:=hK4 rfl;obtain ⟨a7,c7,rfl⟩:∃ a c,v18=.slice a x.h.kn c:=zT o7.row;clear hC hO hK4 o7;have nb':=nb;obtain ⟨g0,g1,g2,g3⟩:=nb;have nl:=zJ _ _ g0;refine yW 17 rfl fun K hK=>?_;go_simp;refine hK.out _ _ (fun h=>absurd h (by decide)) ?_;clear hK K
 (try simp only [zD,zE,zF])
 refine yX ?_ _;have hX:∀ k,k=N->true=true/\(Value.pointer (some ⟨N,0,none⟩):Value)=.pointer (some ⟨k,0,none⟩):=fun k hk=>⟨rfl,by rw [hk]⟩
 have X6:Hid (PrL W2 W2.heap.size x.s.y x.h.z false true true true undef (.slice a5 x.h.cn c5) (.slice a6 x.h.ol c6) (.slice a7 x.h.kn c7) (fun k=>k=N) ((((wq.setCell ⟨N,0,none⟩ (.bool x.h.on)).setCell ⟨N,1,none⟩ (.slice a5 x.h.cn c5)).setCell ⟨N,2,none⟩ (.slice a6 x.h.ol c6)).setCell ⟨N,3,none⟩ (.slice a7 x.h.kn c7))/\BoxC ((((wq.setCell ⟨N,0,none⟩ (.bool x.h.on)).setCell ⟨N,1,none⟩ (.slice a5 x.h.cn c5)).setCell ⟨N,2,none⟩ (.slice a6 x.h.ol c6)).setCell ⟨N,3,none⟩ (.slice a7 x.h.kn c7)) N (.bool x.h.on) (.slice a5 x.h.cn c5) (.slice a6 x.h.ol c6) (.slice a7 x.h.kn c7)/\W2.heap.size<=N):=⟨((((F.sub hX).put rfl nw 0 _).put rfl nw 1 _).put rfl nw 2 _).put rfl nw 3 _,qmz nb' _ _ _ _,nw⟩
 clear F hX nb' g0 g1 g2 g3 nl nf hE hbc h19 hs nw hS0;generalize ((((wq.setCell ⟨N,0,none⟩ (.bool x.h.on)).setCell ⟨N,1,none⟩ (.slice a5 x.h.cn c5)).setCell ⟨N,2,none⟩ (.slice a6 x.h.ol c6)).setCell ⟨N,3,none⟩ (.slice a7 x.h.kn c7))=wr at *;obtain ⟨b0,b1,b2,b3,-⟩:=(HRB.out wr X6.1.be).1;have hHeld:(fun w':World=>w'.cell? ⟨w.heap.size,0,none⟩=some (.slice x.s.pa x.s.pn x.s.pc)/\w'.cell? ⟨w.heap.size,1,none⟩=some (.slice x.s.sa x.s.sn x.s.sc)/\w'.cell? ⟨w.heap.size,2,none⟩=some (.slice x.s.wa x.s.wn x.s.wc)/\w'.cell? ⟨w.heap.size,3,none⟩=some (.slice x.s.ha x.s.hn x.s.hc)/\BoxC w' N (.bool x.h.on) (.slice a5 x.h.cn c5) (.slice a6 x.h.ol c6) (.slice a7 x.h.kn c7)) wr.drew:=⟨b0,b1,b2,b3,X6.2.1⟩
 clear b0 b1 b2 b3;go_wp2_with fail
 refine qa1 (fun w'=>w'.cell? ⟨w.heap.size,0,none⟩=some (.slice x.s.pa x.s.pn x.s.pc)/\w'.cell? ⟨w.heap.size,1,none⟩=some (.slice x.s.sa x.s.sn x.s.sc)/\w'.cell? ⟨w.heap.size,2,none⟩=some (.slice x.s.wa x.s.wn x.s.wc)/\w'.cell? ⟨w.heap.size,3,none⟩=some (.slice x.s.ha x.s.hn x.s.hc)/\BoxC w' N (.bool x.h.on) (.slice a5 x.h.cn c5) (.slice a6 x.h.ol c6) (.slice a7 x.h.kn c7)) (fun i=>i == 5) (by kernel_rfl) ?_;refine qgu 0 rfl hHeld ?_;refine qgu 1 rfl hHeld ?_;refine qgu 3 rfl hHeld ?_;refine yW 2 rfl fun K hK=>?_;refine qas rfl 73 _ _ rfl #[x.s.v] (by simp [Act.eval,SysIn.v,sysV]) (zZ func73) (HC4.out wr.drew (BW.trans (X6.1.drew.be.mono BW.size))) ?_;rintro e8 w8 ⟨v8,rfl,o8,q8⟩;refine ⟨_,rfl,?_⟩;have F:=X6.1.drew.sys q8 o8;obtain ⟨b0,b1,b2,b3,-⟩:=(HRB.out w8 F.be).1;have hH8:(fun w':World=>w'.cell? ⟨w.heap.size,0,none⟩=some (.slice x.s.pa x.s.pn x.s.pc)/\w'.cell? ⟨w.heap.size,1,none⟩=some (.slice x.s.sa x.s.sn x.s.sc)/\w'.cell? ⟨w.heap.size,2,none⟩=some (.slice x.s.wa x.s.wn x.s.wc)/\w'.cell? ⟨w.heap.size,3,none⟩=some (.slice x.s.ha x.s.hn x.s.hc)/\BoxC w' N (.bool x.h.on) (.slice a5 x.h.cn c5) (.slice a6 x.h.ol c6) (.slice a7 x.h.kn c7)) w8:=⟨b0,b1,b2,b3,hHeld.2.2.2.2.bw q8⟩
 clear b0 b1 b2 b3;refine hK.out _ _ (fun _=>hH8) ?_;clear hK K hHeld;clear o8 q8 X6;obtain ⟨vp,v2,vw,vh,rfl,OL⟩:=F.live;obtain ⟨a1,m1,a2,m2,a3,m3,a4,m4,b5,n5,b6,n6,b7,n7,ev,-⟩:=qbm.of OL;simp only [Value.agg.injEq,Array.mk.injEq,List.cons.injEq,and_true] at ev;obtain ⟨rfl,rfl,rfl,rfl,-⟩:=ev;have LV:Hid (qba w8 W2.heap.size x.s.y x.h.z (.agg #[.slice a1 x.s.y.pn m1,.slice a2 x.s.y.sn m2,.slice a3 x.s.y.wn m3,.slice a4 x.s.y.hn m4,.bool x.h.on,.slice a5 x.h.cn c5,.slice a6 x.h.ol c6,.slice a7 x.h.kn c7])/\Below W2.heap.size W2 w8):=⟨OL,F.be⟩
 clear F OL;obtain ⟨r0,r1,r2,r3,r4,r5,r6,r7⟩:=(HRB.out w8 LV.2).2.1;have rf:=(HRB.out w8 LV.2).2.2.1;have l1:=(HRB.out w8 LV.2).2.2.2
 (try simp only [Act.put,zD,zE,zF])
 refine yW 4 rfl fun K hK=>?_;go_simp;refine hK.out _ _ (fun _=>hH8) ?_;clear hK K hH8
 (try simp only [zD,zE,zF])
 refine yW 5 rfl fun K hK=>?_;go_simp;refine hK.out _ _ (fun h=>absurd h (by decide)) ?_;clear hK K
 (try simp only [zD,zE,zF])
 refine yX ?_ _;have X9:Hid (BoxH (set8 w8 (w.heap.size+1) (.slice a1 x.s.y.pn m1) (.slice a2 x.s.y.sn m2) (.slice a3 x.s.y.wn m3) (.slice a4 x.s.y.hn m4) (.bool x.h.on) (.slice a5 x.h.cn c5) (.slice a6 x.h.ol c6) (.slice a7 x.h.kn c7)) (w.heap.size+1) (.slice a1 x.s.y.pn m1) (.slice a2 x.s.y.sn m2) (.slice a3 x.s.y.wn m3) (.slice a4 x.s.y.hn m4) (.bool x.h.on) (.slice a5 x.h.cn c5) (.slice a6 x.h.ol c6) (.slice a7 x.h.kn c7)/\qba (set8 w8 (w.heap.size+1) (.slice a1 x.s.y.pn m1) (.slice a2 x.s.y.sn m2) (.slice a3 x.s.y.wn m3) (.slice a4 x.s.y.hn m4) (.bool x.h.on) (.slice a5 x.h.cn c5) (.slice a6 x.h.ol c6) (.slice a7 x.h.kn c7)) W2.heap.size x.s.y x.h.z (.agg #[.slice a1 x.s.y.pn m1,.slice a2 x.s.y.sn m2,.slice a3 x.s.y.wn m3,.slice a4 x.s.y.hn m4,.bool x.h.on,.slice a5 x.h.cn c5,.slice a6 x.h.ol c6,.slice a7 x.h.kn c7])/\Below w.heap.size w (set8 w8 (w.heap.size+1) (.slice a1 x.s.y.pn m1) (.slice a2 x.s.y.sn m2) (.slice a3 x.s.y.wn m3) (.slice a4 x.s.y.hn m4) (.bool x.h.on) (.slice a5 x.h.cn c5) (.slice a6 x.h.ol c6) (.slice a7 x.h.kn c7))):=⟨qfj (HRB.out w8 LV.2).2.1 _ _ _ _ _ _ _ _,LV.1.set8 LR.out _ _ _ _ _ _ _ _,qax (BW.trans (LV.2.mono BW.size)) hM _ _ _ _ _ _ _ _⟩
 unfold set8 at X9;clear r0 r1 r2 r3 r4 r5 r6 r7 rf LV;generalize ((((((((w8.setCell ⟨w.heap.size+1,0,none⟩ (.slice a1 x.s.y.pn m1)).setCell ⟨w.heap.size+1,1,none⟩ (.slice a2 x.s.y.sn m2)).setCell ⟨w.heap.size+1,2,none⟩ (.slice a3 x.s.y.wn m3)).setCell ⟨w.heap.size+1,3,none⟩ (.slice a4 x.s.y.hn m4)).setCell ⟨w.heap.size+1,4,none⟩ (.bool x.h.on)).setCell ⟨w.heap.size+1,5,none⟩ (.slice a5 x.h.cn c5)).setCell ⟨w.heap.size+1,6,none⟩ (.slice a6 x.h.ol c6)).setCell ⟨w.heap.size+1,7,none⟩ (.slice a7 x.h.kn c7))=w9 at *;obtain ⟨r0,r1,r2,r3,r4,r5,r6,r7⟩:=X9.1;go_wp2;exact bodyPost_ret (v:=.agg #[.slice a1 x.s.y.pn m1,.slice a2 x.s.y.sn m2,.slice a3 x.s.y.wn m3,.slice a4 x.s.y.hn m4,.bool x.h.on,.slice a5 x.h.cn c5,.slice a6 x.h.ol c6,.slice a7 x.h.kn c7]) (by simp [results,results26,go_sem,r0,r1,r2,r3,r4,r5,r6,r7]) rfl ⟨_,rfl,X9.2.1.base (nJ (Nat.lt_of_succ_lt LR.out)),X9.2.2⟩
theorem IsSh.g3 {w:World} {lo hi:Nat} {x:ShIn} {v:Value} (o:IsSh w lo hi x v):∃ x':ShIn,v=x'.v/\ShG w x'/\x'.z=x.z/\x'.Nk:=by
 obtain ⟨D1,D2,D3,bs,o⟩:=o;have l3:=o.kk.lt;have l4:=o.kk.le;have l1:=o.o1;have l2:=o.o2;exact ⟨⟨x.on,some ⟨D1,0,none⟩,x.cn,x.cn,x.cH,some ⟨D2,0,none⟩,x.ol,x.ol,x.oH,some ⟨D3,0,none⟩,x.kn,x.kn,fun i=>some ⟨bs i,0,none⟩,x.kL,x.kL,x.kH⟩,o.val,⟨.inr ⟨D1,0,rfl,by omega,o.cc⟩,.inr ⟨D2,0,rfl,by omega,o.oo⟩,.inr ⟨D3,0,rfl,by omega,fun i hi=>by have h9:=o.kk.cel i hi;simpa using h9⟩,fun i hi=>.inr ⟨bs i,0,rfl,zL (o.kk.bd i hi).2 o.kk.le,o.kk.row i hi⟩⟩,rfl,fun i _=>⟨bs i,0,rfl⟩⟩
theorem qb1.g3 {w:World} {lo hi:Nat} {x:LvIn} {v:Value} (o:qb1 w lo hi x v):∃ x':LvIn,v=x'.v/\LvG w x'/\x'.s.y=x.s.y/\x'.h.z=x.h.z/\(∀ i,i<x'.s.hn->x'.s.hL i<=x'.s.hC i)/\x'.s.Nn true/\x'.h.Nk:=by
 obtain ⟨D1,D2,D3,D4,E1,E2,E3,m,rfl,o1,o2⟩:=o;obtain ⟨x1,e1,g1,y1,c1,n1⟩:=o1.g3;obtain ⟨x2,e2,g2,z2,n2⟩:=o2.g3;refine ⟨⟨x1,x2⟩,?_,⟨g1,g2⟩,y1,z2,c1,n1,n2⟩;simp only [SysIn.v,Value.agg.injEq,Array.mk.injEq,List.cons.injEq,and_true] at e1;simp only [ShIn.v,Value.agg.injEq,Array.mk.injEq,List.cons.injEq,and_true] at e2;show _=Value.agg #[.slice x1.pa x1.pn x1.pc,.slice x1.sa x1.sn x1.sc,.slice x1.wa x1.wn x1.wc,.slice x1.ha x1.hn x1.hc,.bool x2.on,.slice x2.ca x2.cn x2.cc,.slice x2.oa x2.ol x2.oc,.slice x2.ka x2.kn x2.kc];rw [e1.1,e1.2.1,e1.2.2.1,e1.2.2.2,e2.1,e2.2.1,e2.2.2.1,e2.2.2.2]
theorem SysIn.Nn.no2 {x:SysIn} (h:x.Nn true):x.Nn false:=⟨fun i hi=>.inl ((h.w i hi).resolve_right fun h=>by cases h.1),fun i hi=>.inl ((h.h i hi).resolve_right fun h=>by cases h.1)⟩
theorem BoxH.touch2 {w w':World} {b:Nat} {c0 c1 c2 c3 c4 c5 c6 c7:Value} {P:Nat->Prop} (h:BoxH w b c0 c1 c2 c3 c4 c5 c6 c7) (t:qaa P w w') (hp:¬ P b):BoxH w' b c0 c1 c2 c3 c4 c5 c6 c7:=h.blk (t.block b h.lt hp)
theorem LvX.lt {w w':World} {x:LvIn} (h:LvX w w' x):w.heap.size<w'.heap.size:=h.2.lt
theorem LvX.touchF {W:World} {x:LvIn} {w w':World} {P:Nat->Prop} (h:LvX W w x) (ht:qaa P w w') (hp:∀ b,P b->W.heap.size<b):LvX W w' x:=
 ⟨h.1.trans (ht.bw (nJ h.lt) fun b e=>by have:=hp b e;omega),h.2.touch2 ht fun e=>by have:=hp _ e;omega⟩
theorem Sh.sums_of {x:LvIn} (h:x.size<=1048576):x.h.z.Sums:=by
 have l:=ShIn.lens (show x.h.size<=1048576 by unfold LvIn.size at h;omega);exact ⟨l.1,l.2.1,l.2.2.1,l.2.2.2⟩
theorem qw5:(sh0 0 0).Sums:=⟨by show 0<=1048576;omega,by show 0<=1048576;omega,by show 0<=1048576;omega,by show sumL (fun _=>0) 0<=1048576;simp [sumL]⟩
structure BnF (W:World) (x:LvIn) (Y:Sy) (Q:Sh) (x3:LvIn) (N1 T8 lo T10 B4 T11:Nat) (a1 a2 a3 a4 a5 a6 a7 g1 g2 g3 g4 g5 g6 g7:Value) (w:World):Prop where
 px:LvX W w x
 o2:qbm w N1 T8 Y Q a1 a2 a3 a4 a5 a6 a7
 b8:BoxH w T8 a1 a2 a3 a4 (.bool Q.on) a5 a6 a7
 s3:qb1 w lo T10 x x3.v
 b10:BoxH w T10 (.slice x3.s.pa x3.s.pn x3.s.pc) (.slice x3.s.sa x3.s.sn x3.s.sc) (.slice x3.s.wa x3.s.wn x3.s.wc) (.slice x3.s.ha x3.s.hn x3.s.hc) (.bool x3.h.on) (.slice x3.h.ca x3.h.cn x3.h.cc) (.slice x3.h.oa x3.h.ol x3.h.oc) (.slice x3.h.ka x3.h.kn x3.h.kc)
 o4:qbm w B4 T11 Y Q g1 g2 g3 g4 g5 g6 g7
 b11:BoxH w T11 g1 g2 g3 g4 (.bool Q.on) g5 g6 g7
structure BnG (W:World) (x:LvIn) (Y Z:Sy) (Q R:Sh) (N1 T8 B4 T11:Nat) (a1 a2 a3 a4 a5 a6 a7 g1 g2 g3 g4 g5 g6 g7:Value) (w:World):Prop where
 px:LvX W w x
 o2:qbm w N1 T8 Y Q a1 a2 a3 a4 a5 a6 a7
 b8:BoxH w T8 a1 a2 a3 a4 (.bool Q.on) a5 a6 a7
 o4:qbm w B4 T11 Z R g1 g2 g3 g4 g5 g6 g7
 b11:BoxH w T11 g1 g2 g3 g4 (.bool Q.on) g5 g6 g7
section
variable {W:World} {x:LvIn} {Y Z:Sy} {Q R:Sh} {x3:LvIn} {N1 T8 lo T10 B4 T11:Nat} {a1 a2 a3 a4 a5 a6 a7 g1 g2 g3 g4 g5 g6 g7:Value} {w w':World}
theorem BnF.bw (h:BnF W x Y Q x3 N1 T8 lo T10 B4 T11 a1 a2 a3 a4 a5 a6 a7 g1 g2 g3 g4 g5 g6 g7 w) (hb:Below w.heap.size w w'):BnF W x Y Q x3 N1 T8 lo T10 B4 T11 a1 a2 a3 a4 a5 a6 a7 g1 g2 g3 g4 g5 g6 g7 w':=
 ⟨h.px.bw hb,h.o2.bw hb,h.b8.bw hb,h.s3.bw hb (nJ h.b10.lt),h.b10.bw hb,h.o4.bw hb,h.b11.bw hb⟩
theorem BnG.bw (h:BnG W x Y Z Q R N1 T8 B4 T11 a1 a2 a3 a4 a5 a6 a7 g1 g2 g3 g4 g5 g6 g7 w) (hb:Below w.heap.size w w'):BnG W x Y Z Q R N1 T8 B4 T11 a1 a2 a3 a4 a5 a6 a7 g1 g2 g3 g4 g5 g6 g7 w':=
 ⟨h.px.bw hb,h.o2.bw hb,h.b8.bw hb,h.o4.bw hb,h.b11.bw hb⟩
theorem BnF.mark (h:BnF W x Y Q x3 N1 T8 lo T10 B4 T11 a1 a2 a3 a4 a5 a6 a7 g1 g2 g3 g4 g5 g6 g7 w) (t:qaa (fun b=>lo<=b/\b<T10) w w') (h1:W.heap.size<lo) (h2:T8<lo) (h3:T10<=B4) (h4:B4<=T11):BnG W x Y Y Q Q N1 T8 B4 T11 a1 a2 a3 a4 a5 a6 a7 g1 g2 g3 g4 g5 g6 g7 w':=
 ⟨h.px.touchF t fun b hb=>by omega,h.o2.touch t fun b hb=>by omega,h.b8.touch2 t fun hb=>by omega,h.o4.touch t fun b hb=>by omega,h.b11.touch2 t fun hb=>by omega⟩
theorem BnG.mark (h:BnG W x Y Z Q R N1 T8 B4 T11 a1 a2 a3 a4 a5 a6 a7 g1 g2 g3 g4 g5 g6 g7 w) {Z':Sy} {R':Sh} (t:qaa (fun b=>B4<=b/\b<T11) w w') (o:qbm w' B4 T11 Z' R' g1 g2 g3 g4 g5 g6 g7) (h1:W.heap.size<B4) (h2:T8<B4):BnG W x Y Z' Q R' N1 T8 B4 T11 a1 a2 a3 a4 a5 a6 a7 g1 g2 g3 g4 g5 g6 g7 w':=
 ⟨h.px.touchF t fun b hb=>by omega,h.o2.touch t fun b hb=>by omega,h.b8.touch2 t fun hb=>by omega,o,h.b11.touch2 t fun hb=>by omega⟩
end
def Sy.dwn (y:Sy) (p k:Nat):Sy:={ y with wL:=fun j=>if p*y.pn<=j/\j<p*y.pn+k then y.wL j+1 else y.wL j,wH:=fun j=>if p*y.pn<=j/\j<p*y.pn+k then fun i=>if i=y.wL j then ⟨true,0⟩ else y.wH j i else y.wH j }
theorem Sy.dwn_zero (y:Sy) (p:Nat):y.dwn p 0=y:=by
 have e1:(fun j=>if p*y.pn<=j/\j<p*y.pn+0 then y.wL j+1 else y.wL j)=y.wL:=funext fun j=>nB (by omega);have e2:(fun j=>if p*y.pn<=j/\j<p*y.pn+0 then fun i=>if i=y.wL j then (⟨true,0⟩:I2) else y.wH j i else y.wH j)=y.wH:=funext fun j=>nB (by omega);unfold Sy.dwn;rw [e1,e2]
theorem Sy.dwn_next (y:Sy) (p k:Nat):(y.dwn p k).wayAt (p*y.pn+k) (y.wL (p*y.pn+k)+1) (fun i=>if i=y.wL (p*y.pn+k) then ⟨true,0⟩ else y.wH (p*y.pn+k) i)=y.dwn p (k+1):=by
 have e1:(fun j=>if j=p*y.pn+k then y.wL (p*y.pn+k)+1 else if p*y.pn<=j/\j<p*y.pn+k then y.wL j+1 else y.wL j)=fun j=>if p*y.pn<=j/\j<p*y.pn+(k+1) then y.wL j+1 else y.wL j:=funext fun j=>by
  by_cases h:j=p*y.pn+k
  ·subst h
   rw [nC rfl,nC ⟨by omega,by omega⟩]
  ·rw [nB h]
   by_cases h2:p*y.pn<=j/\j<p*y.pn+k
   ·rw [nC h2,nC ⟨h2.1,by omega⟩]
   ·rw [nB h2,nB (by omega)]
 have e2:(fun j=>if j=p*y.pn+k then (fun i=>if i=y.wL (p*y.pn+k) then (⟨true,0⟩:I2) else y.wH (p*y.pn+k) i) else if p*y.pn<=j/\j<p*y.pn+k then fun i=>if i=y.wL j then (⟨true,0⟩:I2) else y.wH j i else y.wH j)=fun j=>if p*y.pn<=j/\j<p*y.pn+(k+1) then fun i=>if i=y.wL j then (⟨true,0⟩:I2) else y.wH j i else y.wH j:=funext fun j=>by
  by_cases h:j=p*y.pn+k
  ·subst h
   rw [nC rfl,nC ⟨by omega,by omega⟩]
  ·rw [nB h]
   by_cases h2:p*y.pn<=j/\j<p*y.pn+k
   ·rw [nC h2,nC ⟨h2.1,by omega⟩]
   ·rw [nB h2,nB (by omega)]
 unfold Sy.dwn Sy.wayAt;show Sy.mk _ _ _ _ _ _ _ _ _ _ _=Sy.mk _ _ _ _ _ _ _ _ _ _ _;simp only [Sy.mk.injEq,true_and,and_true];exact ⟨e1,e2⟩
theorem PrL.g {W1:World} {B:Nat} {y:Sy} {q:Sh} {fc fo fk:Bool} {a1 a2 a3 a4:Option Addr} {m1 m2 m3 m4:Nat} {vc vo vk:Value} {X:Nat->Prop} {w:World} (h:PrL W1 B y q true fc fo fk (.agg #[.slice a1 y.pn m1,.slice a2 y.sn m2,.slice a3 y.wn m3,.slice a4 y.hn m4]) vc vo vk X w):∃ x:SysIn,x.v=.agg #[.slice a1 y.pn m1,.slice a2 y.sn m2,.slice a3 y.wn m3,.slice a4 y.hn m4]/\x.y=y/\SysG w x:=by
 obtain ⟨c,h1,-,-,-,-⟩:=h.ow;obtain ⟨p0,s0,t0,e0,up,us,uw,uh,ev,o⟩:=h1 rfl;simp only [Value.agg.injEq,Array.mk.injEq,List.cons.injEq,and_true] at ev;obtain ⟨rfl,rfl,rfl,rfl⟩:=ev;exact ⟨_,rfl,rfl,o.g⟩
theorem PrL.ne3 {W1:World} {B n g cap:Nat} {y:Sy} {q:Sh} {fc fo fk:Bool} {vp v2 vh vc vo vk:Value} {X:Nat->Prop} {w:World} (h:PrL W1 B y q true fc fo fk (.agg #[vp,v2,.slice (some ⟨g,0,none⟩) n cap,vh]) vc vo vk X w) {N:Nat} (hX:X N):N≠g:=fun e=>by
 obtain ⟨c,h1,-,-,-,h5⟩:=h.ow;obtain ⟨p0,s0,t0,e0,up,us,uw,uh,ev,o⟩:=h1 rfl;simp only [Value.agg.injEq,Array.mk.injEq,List.cons.injEq,and_true] at ev;obtain ⟨rfl,rfl,rfl,rfl⟩:=ev;have h9:=(o.t.rb g rfl).2;rw [<- e,(h5 N hX).2] at h9;cases h9
theorem PrL.cell3 {W1:World} {B g cap:Nat} {y:Sy} {q:Sh} {fc fo fk:Bool} {vp v2 vh vc vo vk:Value} {X:Nat->Prop} {w:World} (h:PrL W1 B y q true fc fo fk (.agg #[vp,v2,.slice (some ⟨g,0,none⟩) y.wn cap,vh]) vc vo vk X w) {J:Nat} (hJ:J<y.wn):(∃ u,w.cell? ⟨g,J,none⟩=some u)/\w.frozen? ⟨g,J,none⟩=false:=by
 obtain ⟨c,h1,-,-,-,h5⟩:=h.ow;obtain ⟨p0,s0,t0,e0,up,us,uw,uh,ev,o⟩:=h1 rfl;simp only [Value.agg.injEq,Array.mk.injEq,List.cons.injEq,and_true] at ev;obtain ⟨rfl,rfl,rfl,rfl⟩:=ev;obtain ⟨g1,c1,e1,-,-,x1,f1⟩:=o.t.cell hJ;have e2:=congrArg Value.ownBlock e1
 have e3:g=g1:=by
  have e4:some g=some g1:=e2;exact Option.some.inj e4
 subst e3;exact ⟨⟨_,x1⟩,f1 J⟩
theorem qsw (W1:World) (y:Sy) (q:Sh) (fk:Bool) (vk:Value) (X:Nat->Prop) (w:World) (P p n g3 g5 g6 c5 c6 m1 m2 m3 m4:Nat) (a1 a2 a4:Option Addr) (v0 v3:Value) (F:PrL W1 W1.heap.size y q true true true fk (.agg #[.slice a1 y.pn m1,.slice a2 y.sn m2,.slice (some ⟨g3,0,none⟩) y.wn m3,.slice a4 y.hn m4]) (sG g5 q.cn c5) (sG g6 q.ol c6) vk X w) (hX:X P) (hP:W1.heap.size<=P) (h:PicL w P 0 v0 (sG g5 q.cn c5) (sG g6 q.ol c6) v3 n) (hp:p<y.pn) (h4:y.pn<=4) (hw:y.wn=y.pn*y.pn) (hh:y.hn=y.pn) (hc:q.cn=y.pn) (ho:q.ol=y.wn) (hl:∀ j,j<y.wn->y.wL j<=900) (hhl:y.hL p<=1048576) (hn:n<=100):
  Calls prog 30 #[.agg #[.slice a1 y.pn m1,.slice a2 y.sn m2,.slice (some ⟨g3,0,none⟩) y.wn m3,.slice a4 y.hn m4],.pointer (some ⟨P,0,none⟩),.int .i64 p] w fun e w'=>e=.returned (.tuple #[])/\PicL w' P 0 v0 (sG g5 q.cn c5) (sG g6 q.ol c6) v3 (n+1:Nat)/\PrL W1 W1.heap.size (y.dwn p y.pn) { q with cH:=fun i=>if i=p then (y.hL p:Int) else q.cH i,oH:=drO q p q.cn } true true true fk (.agg #[.slice a1 y.pn m1,.slice a2 y.sn m2,.slice (some ⟨g3,0,none⟩) y.wn m3,.slice a4 y.hn m4]) (sG g5 q.cn c5) (sG g6 q.ol c6) vk X w'/\∀ k,X k->k≠P->w'.heap[k]? = w.heap[k]?:=by
 have HP:Hid (X P/\W1.heap.size<=P):=⟨hX,hP⟩
 have HD:Hid (p<y.pn/\y.pn<=4/\y.wn=y.pn*y.pn/\y.hn=y.pn/\q.cn=y.pn/\q.ol=y.wn):=⟨hp,h4,hw,hh,hc,ho⟩
 have HL:Hid (∀ j,j<y.wn->y.wL j<=900):=hl;have h4':(y.pn:Int)<=4:=by omega
 have hp':(p:Int)<(y.pn:Int):=by omega
 have hhn:(p:Int)<(y.hn:Int):=by omega
 have hhl':(y.hL p:Int)<=1048576:=by omega
 have ba:=zP w (oQ4 a1 y.pn m1 a2 y.sn m2 (some ⟨g3,0,none⟩) y.wn m3 a4 y.hn m4);have X0:Hid (PrL W1 W1.heap.size y q true true true fk (.agg #[.slice a1 y.pn m1,.slice a2 y.sn m2,.slice (some ⟨g3,0,none⟩) y.wn m3,.slice a4 y.hn m4]) (sG g5 q.cn c5) (sG g6 q.ol c6) vk (fun k=>X k\/k=w.heap.size) (w.alloc (oQ4 a1 y.pn m1 a2 y.sn m2 (some ⟨g3,0,none⟩) y.wn m3 a4 y.hn m4))/\PicL (w.alloc (oQ4 a1 y.pn m1 a2 y.sn m2 (some ⟨g3,0,none⟩) y.wn m3 a4 y.hn m4)) P 0 v0 (sG g5 q.cn c5) (sG g6 q.ol c6) v3 n/\BoxC (w.alloc (oQ4 a1 y.pn m1 a2 y.sn m2 (some ⟨g3,0,none⟩) y.wn m3 a4 y.hn m4)) w.heap.size (.slice a1 y.pn m1) (.slice a2 y.sn m2) (sG g3 y.wn m3) (.slice a4 y.hn m4)):=⟨F.box _ _ fun k hk=>hk,h.blk (ba.block P (zJ _ _ h.l0)),BoxC.new w _ _ _ _ _⟩
 have HW:Hid (W1.heap.size<=w.heap.size):=F.be.size;have HPl:Hid (P<w.heap.size):=zJ _ _ h.l0
 have K0:Hid (∀ k,X k->k<w.heap.size/\(w.alloc (oQ4 a1 y.pn m1 a2 y.sn m2 (some ⟨g3,0,none⟩) y.wn m3 a4 y.hn m4)).heap[k]? = w.heap[k]?):=fun k hk=>by
  obtain ⟨ck,-,-,-,-,h5⟩:=F.ow;exact ⟨(h5 k hk).1,ba.block k (h5 k hk).1⟩
 clear F hX hP h hl hw hh hc ho ba
 go_enter func30,ntmps30
 go_upto_region 1 with fail
 generalize w.alloc (oQ4 a1 y.pn m1 a2 y.sn m2 (some ⟨g3,0,none⟩) y.wn m3 a4 y.hn m4)=wA at *;obtain ⟨xs,ev,ey,gx⟩:=X0.1.g;have hhx:p<xs.hn:=by rw [show xs.hn=xs.y.hn from rfl,ey];have:=HD.out;omega
 obtain ⟨bh,oh,eh,ch⟩:=gx.h.at hhx
 have ea:a4=some ⟨bh,oh,none⟩:=by
  have h9:xs.v=.agg #[.slice a1 y.pn m1,.slice a2 y.sn m2,.slice (some ⟨g3,0,none⟩) y.wn m3,.slice a4 y.hn m4]:=ev;simp only [SysIn.v,Value.agg.injEq,Array.mk.injEq,List.cons.injEq,and_true,Value.slice.injEq] at h9;rw [<- h9.2.2.2.1];exact eh
 subst ea;have eL:xs.hL p=y.hL p:=congrArg (fun t:Sy=>t.hL p) ey;rw [eL] at ch;obtain ⟨p0,p1,p2,p3⟩:=X0.2.2;go_wp2_with fail
 clear p0 p1 p2 p3 ch eh gx ev ey hhx eL;refine (qwj W1 y q true fk _ _ (fun k=>X k\/k=w.heap.size) wA P p n g5 g6 c5 c6 (y.hL p) v0 v3 X0.1 (.inl HP.1) HP.2 X0.2.1 (by have:=HD.out;omega) (by have:=HD.out;omega) (by have:=HD.out;rw [this.2.2.2.2.2,this.2.2.2.2.1];exact this.2.2.1) hn).mono ?_;rintro e w1 ⟨rfl,pl,F1,k1⟩;have X1:Hid (PrL W1 W1.heap.size (y.dwn p 0) { q with cH:=fun i=>if i=p then (y.hL p:Int) else q.cH i,oH:=drO q p q.cn } true true true fk (.agg #[.slice a1 y.pn m1,.slice a2 y.sn m2,.slice (some ⟨g3,0,none⟩) y.wn m3,.slice (some ⟨bh,oh,none⟩) y.hn m4]) (sG g5 q.cn c5) (sG g6 q.ol c6) vk (fun k=>X k\/k=w.heap.size) w1/\PicL w1 P 0 v0 (sG g5 q.cn c5) (sG g6 q.ol c6) v3 (n+1:Nat)/\BoxC w1 w.heap.size (.slice a1 y.pn m1) (.slice a2 y.sn m2) (sG g3 y.wn m3) (.slice (some ⟨bh,oh,none⟩) y.hn m4)):=⟨by rw [Sy.dwn_zero];exact F1,pl,X0.2.2.blkO (k1 _ (fun e=>by have:=HPl.out;omega) (fun e=>X0.1.ne5 (.inr rfl) (by rw [e];rfl)) (fun e=>X0.1.ne6 (.inr rfl) (by rw [e];rfl)))⟩
 have K1:Hid (∀ k,X k->k≠P->w1.heap[k]? = w.heap[k]?):=fun k hk hp=>(k1 k hp (fun e=>X0.1.ne5 (.inl hk) (by rw [e];rfl)) (fun e=>X0.1.ne6 (.inl hk) (by rw [e];rfl))).trans (K0.out k hk).2;clear X0 pl F1 k1 K0;obtain ⟨p0,p1,p2,p3⟩:=X1.2.2;go_wp2_with fail
 clear p0 p1 p2 p3
 go_loopw [19] (fun i wr=>∃ b:Nat,b<=y.pn/\i=.int .i64 b/\Hid (PrL W1 W1.heap.size (y.dwn p b) { q with cH:=fun i=>if i=p then (y.hL p:Int) else q.cH i,oH:=drO q p q.cn } true true true fk (.agg #[.slice a1 y.pn m1,.slice a2 y.sn m2,.slice (some ⟨g3,0,none⟩) y.wn m3,.slice (some ⟨bh,oh,none⟩) y.hn m4]) (sG g5 q.cn c5) (sG g6 q.ol c6) vk (fun k=>X k\/k=w.heap.size) wr/\PicL wr P 0 v0 (sG g5 q.cn c5) (sG g6 q.ol c6) v3 (n+1:Nat)/\BoxC wr w.heap.size (.slice a1 y.pn m1) (.slice a2 y.sn m2) (sG g3 y.wn m3) (.slice (some ⟨bh,oh,none⟩) y.hn m4))/\Hid (∀ k,X k->k≠P->wr.heap[k]? = w.heap[k]?)) (fun i _=>y.pn - (intOf i).toNat)
 case atStart=>exact ⟨0,nD _,rfl,X1,K1⟩
 case round=>
  clear X1 K1;obtain ⟨b,hb,rfl,HJ,KJ⟩:=hrel;by_cases hlt:b<y.pn
  ·have hlt':(b:Int)<(y.pn:Int):=by omega
   obtain ⟨J,hJ⟩:∃ J,p*y.pn+b=J:=⟨_,rfl⟩
   have hJw:J<y.wn:=by
    rw [HD.2.2.1,<- hJ];exact zL (Nat.add_lt_add_left hlt _) (by rw [<- Nat.succ_mul];exact Nat.mul_le_mul_right _ HD.1)
   have hJw':(J:Int)<(y.wn:Int):=by omega
   obtain ⟨xs,ev,ey,gx⟩:=PrL.g (y:=y.dwn p b) HJ.1;have en:xs.pn=y.pn:=congrArg (fun t:Sy=>t.pn) ey;have ew:xs.wn=y.wn:=congrArg (fun t:Sy=>t.wn) ey;have hnb:¬ (p*y.pn<=J/\J<p*y.pn+b):=by omega
   have eL:xs.wL J=y.wL J:=(congrArg (fun t:Sy=>t.wL J) ey).trans (nB hnb);have eH:xs.wH J=y.wH J:=(congrArg (fun t:Sy=>t.wH J) ey).trans (nB hnb)
   have HNu:Hid (∀ wx,Calls prog 39 #[.agg #[.slice a1 y.pn m1,.slice a2 y.sn m2,.slice (some ⟨g3,0,none⟩) y.wn m3,.slice (some ⟨bh,oh,none⟩) y.hn m4],.int .i64 p,.int .i64 b] wx (rB wx (.int .i64 (J:Nat)))):=fun wx=>by
    have h9:=qds xs p b wx (by have:=HD.out;omega) (by have:=HD.out;omega) (by have:=HD.out;omega);rw [ev,en,hJ] at h9;exact h9
   have HQu:Hid (∀ wx,Below wr.heap.size wr wx->Calls prog 40 #[.agg #[.slice a1 y.pn m1,.slice a2 y.sn m2,.slice (some ⟨g3,0,none⟩) y.wn m3,.slice (some ⟨bh,oh,none⟩) y.hn m4],.int .i64 p,.int .i64 b] wx (rB wx (.agg #[.slice (xs.wA J) (y.wL J) (xs.wC J),.int .i64 12]))):=fun wx hbw=>by
    have h9:=qc8 xs p b wx (gx.bw hbw) (by have:=HD.out;omega) (by have:=HD.out;omega) (by have:=HD.out;omega) (by rw [en,ew,hJ];exact hJw);rw [ev,en,hJ,eL] at h9;exact h9
   have HWi:Hid (∀ wx,Below wr.heap.size wr wx->Calls prog 77 #[.agg #[.slice (xs.wA J) (y.wL J) (xs.wC J),.int .i64 12],.agg #[.bool true,.int .i64 0]] wx fun e w'=>∃ v,e=.returned v/\w'.ownsRow wx.heap.size 74 2 v (y.wL J+1) (fT (fun i=>if i=y.wL J then ⟨true,0⟩ else y.wH J i) (y.wL J+1))/\v≠nS/\Below wx.heap.size wx w'):=fun wx hbw=>by
    have h8:=srcT ((gx.bw hbw).wi J (by rw [ew];exact hJw));rw [eL,eH] at h8;exact qo3 (xs.wA J) (y.wL J) (xs.wC J) 12 (y.wH J) ⟨true,0⟩ wx (by have:=HL.out J hJw;omega) h8
   clear ev ey gx en ew eL eH hnb;obtain ⟨p0,p1,p2,p3⟩:=HJ.2.2;go_wp2_with fail
   refine qa1 (fun w'=>BoxC w' w.heap.size (.slice a1 y.pn m1) (.slice a2 y.sn m2) (sG g3 y.wn m3) (.slice (some ⟨bh,oh,none⟩) y.hn m4)) (fun i=>i == 13) (by kernel_rfl) ?_;have hHeld:(fun w':World=>BoxC w' w.heap.size (.slice a1 y.pn m1) (.slice a2 y.sn m2) (sG g3 y.wn m3) (.slice (some ⟨bh,oh,none⟩) y.hn m4)) wr.drew:=HJ.2.2;clear p0 p1 p2 p3;refine qcn [0,1,2,3,4,6,7,8,10] ?_;iterate 9 (refine qdl rfl hHeld ?_)
   refine qb0 ?_;refine yW 5 rfl fun K hK=>?_;refine qas rfl 39 _ _ rfl #[.agg #[.slice a1 y.pn m1,.slice a2 y.sn m2,.slice (some ⟨g3,0,none⟩) y.wn m3,.slice (some ⟨bh,oh,none⟩) y.hn m4],.int .i64 p,.int .i64 b] (by simp [Act.eval]) (zZ func39) (HNu.out wr.drew) ?_;rintro e w2 ⟨rfl,d2⟩;have q2:Below wr.heap.size wr w2:=(nE wr.heap.size wr).drew.trans d2;refine ⟨_,rfl,hK.out _ _ (fun _=>HJ.2.2.bw q2) ?_⟩;clear hK K hHeld d2
   (try simp only [Act.put,zD,zE,zF])
   refine yW 9 rfl fun K hK=>?_;refine qas rfl 40 _ _ rfl #[.agg #[.slice a1 y.pn m1,.slice a2 y.sn m2,.slice (some ⟨g3,0,none⟩) y.wn m3,.slice (some ⟨bh,oh,none⟩) y.hn m4],.int .i64 p,.int .i64 b] (by simp [Act.eval]) (zZ func40) (HQu.out w2 q2) ?_;rintro e w4 ⟨rfl,d4⟩;have q4:Below wr.heap.size wr w4:=q2.trans (d4.mono q2.size);refine ⟨_,rfl,hK.out _ _ (fun _=>HJ.2.2.bw q4) ?_⟩;clear hK K d4
   (try simp only [Act.put,zD,zE,zF])
   refine yW 11 rfl fun K hK=>?_;refine qas rfl 77 _ _ rfl #[.agg #[.slice (xs.wA J) (y.wL J) (xs.wC J),.int .i64 12],.agg #[.bool true,.int .i64 0]] (by simp [Act.eval]) (zZ func77) (HWi.out w4 q4) ?_;rintro e w6 ⟨v6,rfl,o6,-,d6⟩;obtain ⟨a6,c6',rfl⟩:=zT o6;have q6:Below wr.heap.size wr w6:=q4.trans (d6.mono q4.size);refine ⟨_,rfl,hK.out _ _ (fun _=>HJ.2.2.bw q6) ?_⟩;clear hK K
   (try simp only [Act.put,zD,zE,zF])
   have hJd:J<(y.dwn p b).wn:=hJw;obtain ⟨⟨uJ,cJ⟩,fJ⟩:=PrL.cell3 (y:=y.dwn p b) (HJ.1.bw q6) hJd;have hPl:=HPl.out;have hPg:P≠g3:=PrL.ne3 (y:=y.dwn p b) HJ.1 (.inl HP.1);have hwg:w.heap.size≠g3:=PrL.ne3 (y:=y.dwn p b) HJ.1 (.inr rfl)
   have XN : Hid (PrL W1 W1.heap.size (y.dwn p (b + 1)) { q with cH := fun i => if i = p then (y.hL p : Int) else q.cH i, oH := drO q p q.cn } true true true fk (.agg #[.slice a1 y.pn m1, .slice a2 y.sn m2, .slice (some ⟨g3, 0, none⟩) y.wn m3, .slice (some ⟨bh, oh, none⟩) y.hn m4]) (.slice (some ⟨g5, 0, none⟩) q.cn c5) (.slice (some ⟨g6, 0, none⟩) q.ol c6) vk (fun k => X k ∨ k = w.heap.size) (w6.setCell ⟨g3, J, none⟩ (.slice a6 (y.wL J + 1) c6')) ∧ PicL (w6.setCell ⟨g3, J, none⟩ (.slice a6 (y.wL J + 1) c6')) P 0 v0 (.slice (some ⟨g5, 0, none⟩) q.cn c5) (.slice (some ⟨g6, 0, none⟩) q.ol c6) v3 (n + 1 : Nat) ∧ BoxC (w6.setCell ⟨g3, J, none⟩ (.slice a6 (y.wL J + 1) c6')) w.heap.size (.slice a1 y.pn m1) (.slice a2 y.sn m2) (.slice (some ⟨g3, 0, none⟩) y.wn m3) (.slice (some ⟨bh, oh, none⟩) y.hn m4)) := ⟨by
    have h9:=PrL.wayPut (y:=y.dwn p b) HJ.1 hJd q6 (o6.mono q4.size);have h10:=y.dwn_next p b;rw [hJ] at h10;rw [h10] at h9
    exact h9,HJ.2.1.blk ((zN _ _ _ _ fun e=>hPg e).trans (q6.block P (zJ _ _ HJ.2.1.l0))),HJ.2.2.blkO ((zN _ _ _ _ fun e=>hwg e).trans (q6.block _ (zJ _ _ HJ.2.2.1)))⟩
   have KN : Hid (∀ k, X k → k ≠ P → (w6.setCell ⟨g3, J, none⟩ (.slice a6 (y.wL J + 1) c6')).heap[k]? = w.heap[k]?) := fun k hk hp => ((Below.heap_setCell _ _ _ _ fun e => PrL.ne3 (y := y.dwn p b) HJ.1 (.inl hk) e).trans (q6.block k (by
    obtain ⟨ck,-,-,-,-,h5⟩:=HJ.1.ow
    exact (h5 k (.inl hk)).1))).trans (KJ.out k hk hp)
   have hS6:(fun w':World=>BoxC w' w.heap.size (.slice a1 y.pn m1) (.slice a2 y.sn m2) (sG g3 y.wn m3) (.slice (some ⟨bh,oh,none⟩) y.hn m4)) w6:=HJ.2.2.bw q6;clear hPg hwg o6 d6 hJd HNu HQu HWi hJ;refine yW 12 rfl fun K hK=>?_;go_simp;refine hK.out _ _ (fun _=>hS6) ?_;clear hK K
   (try simp only [Act.put,zD,zE,zF])
   refine yW 13 rfl fun K hK=>?_;go_simp;refine hK.out _ _ (fun h=>absurd h (by decide)) ?_;clear hK K
   (try simp only [Act.put,zD,zE,zF])
   refine yX ?_ _;clear HJ q2 q4 q6 cJ fJ hS6;go_wp2;go_roundw
   case rel=>exact ⟨b+1,by omega,by go_num,XN,KN⟩
   case measure=>simp [intOf];omega
  ·have hbn:b=y.pn:=by omega
   subst hbn;go_wp2
   first | go_end0 | (simp only [Exit.inBlock,Exit.then];refine bodyPost_ret (results_none rfl _ _ _) rfl ?_) | refine bodyPost_ret (results_none rfl _ _ _) rfl ?_
   exact ⟨rfl,HJ.2.1,HJ.1.sub fun k hk=>.inl hk,KJ.out⟩
theorem PrL.ofLv {W1 w:World} {y:Sy} {q:Sh} {v:Value} (hb:Below W1.heap.size W1 w) (o:qba w W1.heap.size y q v):∃ a1 m1 a2 m2 a3 m3 a4 m4 a5 m5 a6 m6 a7 m7,v=.agg #[.slice a1 y.pn m1,.slice a2 y.sn m2,.slice a3 y.wn m3,.slice a4 y.hn m4,.bool q.on,.slice a5 q.cn m5,.slice a6 q.ol m6,.slice a7 q.kn m7]/\PrL W1 W1.heap.size y q true true true true (.agg #[.slice a1 y.pn m1,.slice a2 y.sn m2,.slice a3 y.wn m3,.slice a4 y.hn m4]) (.slice a5 q.cn m5) (.slice a6 q.ol m6) (.slice a7 q.kn m7) (fun _=>False) w:=by
 obtain ⟨a1,m1,a2,m2,a3,m3,a4,m4,a5,m5,a6,m6,a7,m7,e,c,up,us,uw,uh,uk,os,s,-⟩:=qbm.of o;exact ⟨a1,m1,a2,m2,a3,m3,a4,m4,a5,m5,a6,m6,a7,m7,e,hb,nA _,c,(fun _=>⟨_,_,_,_,up,us,uw,uh,rfl,os⟩),(fun _=>⟨s.ic,s.cb⟩),(fun _=>⟨s.io,s.ob⟩),(fun _=>⟨uk,s.ik⟩),fun _ h=>h.elim⟩
def Sh.drawn (q:Sh) (p:Nat) (ev:Int):Sh:={ q with on:=true,cH:=fun i=>if i=p then ev else q.cH i,oH:=drO q p q.cn }
section
variable {W1:World} {B:Nat} {y:Sy} {q:Sh} {fs fc fo fk:Bool} {vs vc vo vk:Value} {X:Nat->Prop} {w w':World}
theorem PrL.fresh (h:PrL W1 B y q fs fc fo fk vs vc vo vk X w) (hb:Below w.heap.size w w') (X':Nat->Prop) (hX:∀ k,X' k->X k\/(w.heap.size<=k/\k<w'.heap.size)):PrL W1 B y q fs fc fo fk vs vc vo vk X' w':=by
 obtain ⟨c,h1,h2,h3,h4,h5⟩:=h.mix hb fun _=>0;refine ⟨h.be.trans (hb.mono h.be.size),h.hB,_,h1,h2,h3,h4,fun k hk=>?_⟩
 rcases hX k hk with h6 | h6
 ·exact h5 k h6
 ·exact ⟨h6.2,nB (by omega)⟩
theorem PrL.grownX (h:PrL W1 W1.heap.size y q fs fc fo fk vs vc vo vk X w) {N:Nat} (hX:X N) (hN:W1.heap.size<=N) (g:w.grownBy w' (some N)):PrL W1 W1.heap.size y q fs fc fo fk vs vc vo vk X w':=by
 obtain ⟨c,h1,h2,h3,h4,h5⟩:=h.ow
 have hk : ∀ k i, c k = i → i ≠ 0 → k < w.heap.size → w'.heap[k]? = w.heap[k]? := fun k i hc hi hl => g.block k hl fun e => hi (by
  have e2:k=N:=Option.some.inj e;rw [<- hc,e2]
  exact (h5 N hX).2)
 refine ⟨Below.grown h.be g h.be.size (fun k hk => by
  have e2:N=k:=Option.some.inj hk;rw [<- e2]
  exact hN),h.hB,c,fun e=>?_,fun e=>?_,fun e=>?_,fun e=>?_,fun k hX'=>⟨zL (h5 k hX').1 g.size,(h5 k hX').2⟩⟩
 ·obtain ⟨vp,v2,vw,vh,up,us,uw,uh,ev,o⟩:=h1 e
  exact ⟨vp,v2,vw,vh,up,us,uw,uh,ev,o.p.keep fun k h hl=>hk k 1 h.2 (by decide) hl,o.s.keep fun k h hl=>hk k 2 h.2 (by decide) hl,o.t.keep fun k h hl=>hk k 3 h.2 (by decide) hl,o.h.keep fun k h hl=>hk k 4 h.2 (by decide) hl⟩
 ·obtain ⟨o,hc⟩:=h2 e
  exact ⟨qab o fun k h=>hk k 5 (hc k h).2 (by decide) (o.lt k h).2,hc⟩
 ·obtain ⟨o,hc⟩:=h3 e
  exact ⟨qab o fun k h=>hk k 6 (hc k h).2 (by decide) (World.ownsRow.lt o k h).2,hc⟩
 ·obtain ⟨uk,o⟩:=h4 e
  exact ⟨uk,o.keep fun k h hl=>hk k 7 h.2 (by decide) hl⟩
theorem PrL.onAs (h:PrL W1 B y q fs fc fo fk vs vc vo vk X w) (b:Bool):PrL W1 B y { q with on:=b } fs fc fo fk vs vc vo vk X w:=⟨h.be,h.hB,h.ow⟩
end
def setS (w:World) (N:Nat) (c4 c5 c6 c7:Value):World:=(((w.setCell ⟨N,4,none⟩ c4).setCell ⟨N,5,none⟩ c5).setCell ⟨N,6,none⟩ c6).setCell ⟨N,7,none⟩ c7
theorem quj {w:World} {N:Nat} {d0 d1 d2 d3 d4 d5 d6 d7:Value} (h:BoxH w N d0 d1 d2 d3 d4 d5 d6 d7) (c4 c5 c6 c7:Value):BoxH (setS w N c4 c5 c6 c7) N d0 d1 d2 d3 c4 c5 c6 c7:=by
 obtain ⟨r0,r1,r2,r3,r4,r5,r6,r7⟩:=h;unfold setS;refine ⟨?_,?_,?_,?_,?_,?_,?_,?_⟩ <;> go_cell
theorem PrL.setS {W1:World} {B:Nat} {y:Sy} {q:Sh} {fs fc fo fk:Bool} {vs vc vo vk:Value} {X:Nat->Prop} {w:World} (h:PrL W1 B y q fs fc fo fk vs vc vo vk X w) {N:Nat} (hX:X N) (hN:W1.heap.size<=N) (c4 c5 c6 c7:Value):PrL W1 B y q fs fc fo fk vs vc vo vk X (setS w N c4 c5 c6 c7):=(((h.put hX hN _ _).put hX hN _ _).put hX hN _ _).put hX hN _ _
theorem Sy.ok_wL {y:Sy} (h:y.Ok):∀ j,j<y.wn->y.wL j<=12:=fun j hj=>by
 have hw:=h.cn.2.2.2;have hp:0<y.pn:=h.cn.1.1;have ha:j / y.pn<y.pn:=Nat.div_lt_of_lt_mul (by rw [<- hw];exact hj);have hb:j % y.pn<y.pn:=Nat.mod_lt _ hp;have h9:=h.wa (j / y.pn) ha (j % y.pn) hb;rw [Nat.mul_comm,Nat.div_add_mod] at h9;have:=h9.le;omega
theorem qbu {w:World} {base:Nat} {e:TypeId} {size:Nat} {a:Option Addr} {n c:Nat} {xs:List Value} (h:w.ownsRow base e size (.slice a n c) n xs) (hn:0<n):∃ g,a=some ⟨g,0,none⟩:=by
 rcases h.2 with ⟨_,h0⟩ | ⟨g,cap,cur,hv,_⟩
 ·omega
 ·simp only [Value.slice.injEq] at hv
  exact ⟨g,hv.1⟩
theorem PrL.zil {W1:World} {B:Nat} {y:Sy} {q:Sh} {fs fo fk:Bool} {vs vo vk:Value} {X:Nat->Prop} {w:World} {a:Option Addr} {m:Nat} (h:PrL W1 B y q fs true fo fk vs (.slice a q.cn m) vo vk X w):ZiL w a q.cn q.cH:=by
 obtain ⟨c,-,h2,-,-,-⟩:=h.ow;have o:=(h2 rfl).1;by_cases h0:q.cn=0
 ·exact .inl h0
 ·obtain ⟨g,rfl⟩:=qbu o (by omega)
  refine .inr ⟨g,0,rfl,(o.lt g rfl).2,fun i hi=>?_⟩;rw [nL,o.cellAt i (by omega),qs1 hi]
section
variable {W1:World} {B:Nat} {y:Sy} {q:Sh} {fc fo fk:Bool} {vp v2 vh vc vo vk:Value} {X:Nat->Prop} {w w0 w1:World}
theorem PrL.wayGrow {g cap J m:Nat} {u0 u':Value} {H':Nat->I2} (h:PrL W1 W1.heap.size y q true fc fo fk (.agg #[vp,v2,.slice (some ⟨g,0,none⟩) y.wn cap,vh]) vc vo vk X w) (hJ:J<y.wn) (hc:w.cell? ⟨g,J,none⟩=some u0) (b0:Below w.heap.size w w0) (gr:w0.grownBy w1 u0.ownBlock) (hu:w1.ownsRow 0 74 2 u' m (fT H' m)) (hb:∀ k,u'.ownBlock=some k->u0.ownBlock=some k\/w.heap.size<=k):PrL W1 W1.heap.size (y.wayAt J m H') q true fc fo fk (.agg #[vp,v2,.slice (some ⟨g,0,none⟩) y.wn cap,vh]) vc vo vk X (w1.setCell ⟨g,J,none⟩ u'):=by
 obtain ⟨c,h1,h2,h3,h4,h5⟩:=h.ow;obtain ⟨p0,s0,t0,e0,up,us,uw,uh,ev,o⟩:=h1 rfl;simp only [Value.agg.injEq,Array.mk.injEq,List.cons.injEq,and_true] at ev;obtain ⟨rfl,rfl,rfl,rfl⟩:=ev;have hg:=o.t.rb g rfl;have hgl:=(o.t.row.lt g rfl).2;obtain ⟨g1,c1,e1,-,-,x1,-⟩:=o.t.cell hJ
 have e3:g=g1:=by
  have e2:=congrArg Value.ownBlock e1;have e4:some g=some g1:=e2;exact Option.some.inj e4
 subst e3;obtain rfl:uw J=u0:=Option.some.inj (x1.symm.trans hc);have hs1:=zO b0.size gr.size;have hW:=h.be.size;have hb1:∀ k,k<w.heap.size->(uw J).ownBlock≠some k->w1.heap[k]? = w.heap[k]?:=fun k hl hne=>(gr.block k (zL hl b0.size) fun e=>hne e.symm).trans (b0.block k hl)
 have hk : ∀ k, k < w.heap.size → c k ≠ 3 → (w1.setCell ⟨g, J, none⟩ u').heap[k]? = w.heap[k]? := fun k hl hne => (Below.heap_setCell _ _ _ _ fun e => hne (by
  have e2:k=g:=e;rw [e2]
  exact hg.2)).trans (hb1 k hl fun e=>hne (o.t.ob J hJ k e).2)
 have ht:=(o.t.put hJ hs1 hb1 hu (fun h=>by rcases h with h | h <;> cases h) hb (P':=Cl W1.heap.size (mixC c w.heap.size fun _=>3) 3) (fun k h hl=>h.mixL hl) (fun k hl _=>Cl.mixR ⟨hl,rfl⟩ hW))
 have hs:w.heap.size<=(w1.setCell ⟨g,J,none⟩ u').heap.size:=by simpa using hs1
 refine ⟨(Below.grown (h.be.trans (b0.mono hW)) gr (zO hW b0.size) (fun k hk=>(o.t.ob J hJ k hk).1)).setCell hg.1 _,h.hB,mixC c w.heap.size fun _=>3,fun _=>⟨_,_,_,_,up,us,(fun j=>if j=J then u' else uw j),uh,rfl,⟨(o.p.mono fun k h hl=>h.mixL hl).keep fun k h hl=>hk k hl (by have:=h.2;unfold mixC at this;rw [nC hl] at this;omega),(o.s.mono fun k h hl=>h.mixL hl).keep fun k h hl=>hk k hl (by have:=h.2;unfold mixC at this;rw [nC hl] at this;omega),?_,(o.h.mono fun k h hl=>h.mixL hl).keep fun k h hl=>hk k hl (by have:=h.2;unfold mixC at this;rw [nC hl] at this;omega)⟩⟩,fun e=>?_,fun e=>?_,fun e=>?_,fun k hX=>⟨zL (h5 k hX).1 hs,(nC (h5 k hX).1).trans (h5 k hX).2⟩⟩
 ·exact ht.castZ fun i _=>by
   show (if i=J then fT H' m else fT (y.wH i) (y.wL i))=fT (if i=J then H' else y.wH i) (if i=J then m else y.wL i)
   split <;> rfl
 ·obtain ⟨o,ho⟩:=h2 e
  exact ⟨qab o fun k h=>hk k (o.lt k h).2 (by rw [(ho k h).2];decide),fun k h=>(ho k h).mixL (o.lt k h).2⟩
 ·obtain ⟨o,ho⟩:=h3 e
  exact ⟨qab o fun k h=>hk k (World.ownsRow.lt o k h).2 (by rw [(ho k h).2];decide),fun k h=>(ho k h).mixL (World.ownsRow.lt o k h).2⟩
 ·obtain ⟨uk,o⟩:=h4 e
  exact ⟨uk,(o.mono fun k h hl=>h.mixL hl).keep fun k h hl=>hk k hl (by have:=h.2;unfold mixC at this;rw [nC hl] at this;omega)⟩
end
theorem qt6 {w:World} {N k:Nat} (hk:k≠N) (c0 c1 c2 c3 c4 c5 c6 c7:Value):(set8 w N c0 c1 c2 c3 c4 c5 c6 c7).heap[k]? = w.heap[k]?:=by
 have h:∀ (w':World) (j:Nat) (u:Value),(w'.setCell ⟨N,j,none⟩ u).heap[k]? = w'.heap[k]?:=fun w' j u=>zN _ _ _ _ fun e=>hk e;unfold set8;rw [h,h,h,h,h,h,h,h]
theorem PrL.way {W1:World} {B g cap:Nat} {y:Sy} {q:Sh} {fc fo fk:Bool} {vp v2 vh vc vo vk:Value} {X:Nat->Prop} {w:World} (h:PrL W1 B y q true fc fo fk (.agg #[vp,v2,.slice (some ⟨g,0,none⟩) y.wn cap,vh]) vc vo vk X w) {J:Nat} (hJ:J<y.wn):∃ a c,w.cell? ⟨g,J,none⟩=some (.slice a (y.wL J) c)/\w.ownsRow 0 74 2 (.slice a (y.wL J) c) (y.wL J) (fT (y.wH J) (y.wL J))/\(Value.slice a (y.wL J) c).ownBlock≠some g/\(∀ N,X N->(Value.slice a (y.wL J) c).ownBlock≠some N)/\g<w.heap.size/\∀ j,w.frozen? ⟨g,j,none⟩=false:=by
 obtain ⟨cl,h1,-,-,-,h5⟩:=h.ow;obtain ⟨p0,s0,t0,e0,up,us,uw,uh,ev,o⟩:=h1 rfl;simp only [Value.agg.injEq,Array.mk.injEq,List.cons.injEq,and_true] at ev;obtain ⟨rfl,rfl,rfl,rfl⟩:=ev;obtain ⟨g1,c1,e1,-,lw,x1,f1⟩:=o.t.cell hJ
 have e3:g=g1:=by
  have e2:=congrArg Value.ownBlock e1;have e4:some g=some g1:=e2;exact Option.some.inj e4
 subst e3;have oJ:=o.t.own J hJ;obtain ⟨a,c,eu⟩:=zT oJ;have hob:∀ b,(Value.slice a (y.wL J) c).ownBlock=some b->cl b=3:=fun b hb=>(o.t.ob J hJ b (by rw [eu];exact hb)).2;rw [eu] at x1 oJ
 exact ⟨a, c, x1, oJ, fun e => o.t.ra J hJ g (by rw [eu]; exact e) rfl, fun N hN e => (by
  have:=hob N e;rw [(h5 N hN).2] at this
  cases this),lw,f1⟩
theorem qlb (W1:World) (y:Sy) (q:Sh) (X:Nat->Prop) (w:World) (p g3 g5 g6 c5 c6 m1 m2 m3 m4 kc:Nat) (a1 a2 a4 ka:Option Addr) (F:PrL W1 W1.heap.size y q true true true true (.agg #[.slice a1 y.pn m1,.slice a2 y.sn m2,.slice (some ⟨g3,0,none⟩) y.wn m3,.slice a4 y.hn m4]) (sG g5 q.cn c5) (sG g6 q.ol c6) (.slice ka q.kn kc) X w) (hp:p<y.pn) (h4:y.pn<=4) (hw:y.wn=y.pn*y.pn) (hh:y.hn=y.pn) (hc:q.cn=y.pn) (ho:q.ol=y.wn) (hl:∀ j,j<y.wn->y.wL j<=12) (hhl:y.hL p<=1048576):
  Calls prog 22 #[.agg #[.slice a1 y.pn m1,.slice a2 y.sn m2,.slice (some ⟨g3,0,none⟩) y.wn m3,.slice a4 y.hn m4,.bool q.on,.slice (some ⟨g5,0,none⟩) q.cn c5,.slice (some ⟨g6,0,none⟩) q.ol c6,.slice ka q.kn kc],.int .i64 p] w fun e w'=>Below W1.heap.size W1 w'/\((y.HasFull p/\e=.returned (.tuple #[.agg #[.slice a1 y.pn m1,.slice a2 y.sn m2,.slice (some ⟨g3,0,none⟩) y.wn m3,.slice a4 y.hn m4,.bool q.on,.slice (some ⟨g5,0,none⟩) q.cn c5,.slice (some ⟨g6,0,none⟩) q.ol c6,.slice ka q.kn kc],.bool false]))\/(¬ y.HasFull p/\e=.returned (.tuple #[.agg #[.slice a1 y.pn m1,.slice a2 y.sn m2,.slice (some ⟨g3,0,none⟩) y.wn m3,.slice a4 y.hn m4,.bool true,.slice (some ⟨g5,0,none⟩) q.cn c5,.slice (some ⟨g6,0,none⟩) q.ol c6,.slice ka q.kn kc],.bool true])/\PrL W1 W1.heap.size (y.dwn p y.pn) (q.drawn p (y.hL p:Int)) true true true true (.agg #[.slice a1 y.pn m1,.slice a2 y.sn m2,.slice (some ⟨g3,0,none⟩) y.wn m3,.slice a4 y.hn m4]) (sG g5 q.cn c5) (sG g6 q.ol c6) (.slice ka q.kn kc) X w'/\∀ k,X k->w'.heap[k]? = w.heap[k]?)):=by
 have HD:Hid (p<y.pn/\y.pn<=4/\y.wn=y.pn*y.pn/\y.hn=y.pn/\q.cn=y.pn/\q.ol=y.wn):=⟨hp,h4,hw,hh,hc,ho⟩
 have HL:Hid (∀ j,j<y.wn->y.wL j<=12):=hl;have h4':(y.pn:Int)<=4:=by omega
 have hp':(p:Int)<(y.pn:Int):=by omega
 have hhn:(p:Int)<(y.hn:Int):=by omega
 have hcn:(p:Int)<(q.cn:Int):=by omega
 have hhl':(y.hL p:Int)<=1048576:=by omega
 have HW:Hid (W1.heap.size<=w.heap.size):=F.be.size
 obtain ⟨bh,oh,rfl⟩:∃ bh oh,a4=some ⟨bh,oh,none⟩:=by
  obtain ⟨xs,ev,ey,gx⟩:=F.g;have hhx:p<xs.hn:=by rw [show xs.hn=xs.y.hn from rfl,ey];omega
  obtain ⟨bh,oh,eh,ch⟩:=gx.h.at hhx;have h9:xs.v=.agg #[.slice a1 y.pn m1,.slice a2 y.sn m2,.slice (some ⟨g3,0,none⟩) y.wn m3,.slice a4 y.hn m4]:=ev;simp only [SysIn.v,Value.agg.injEq,Array.mk.injEq,List.cons.injEq,and_true,Value.slice.injEq] at h9;exact ⟨bh,oh,by rw [<- h9.2.2.2.1];exact eh⟩
 have e1:(w.alloc (oQ7 a1 y.pn m1 a2 y.sn m2 (some ⟨g3,0,none⟩) y.wn m3 (some ⟨bh,oh,none⟩) y.hn m4 q.on (some ⟨g5,0,none⟩) q.cn c5 (some ⟨g6,0,none⟩) q.ol c6 ka q.kn kc)).heap.size=w.heap.size+1:=by simp
 have X0:Hid (PrL W1 W1.heap.size (y.dwn p 0) { q with oH:=drO q p 0 } true true true true (.agg #[.slice a1 y.pn m1,.slice a2 y.sn m2,.slice (some ⟨g3,0,none⟩) y.wn m3,.slice (some ⟨bh,oh,none⟩) y.hn m4]) (sG g5 q.cn c5) (sG g6 q.ol c6) (.slice ka q.kn kc) (fun k=>X k\/k=w.heap.size\/k=w.heap.size+1) ((w.alloc (oQ7 a1 y.pn m1 a2 y.sn m2 (some ⟨g3,0,none⟩) y.wn m3 (some ⟨bh,oh,none⟩) y.hn m4 q.on (some ⟨g5,0,none⟩) q.cn c5 (some ⟨g6,0,none⟩) q.ol c6 ka q.kn kc)).alloc (zQ5))/\BoxH ((w.alloc (oQ7 a1 y.pn m1 a2 y.sn m2 (some ⟨g3,0,none⟩) y.wn m3 (some ⟨bh,oh,none⟩) y.hn m4 q.on (some ⟨g5,0,none⟩) q.cn c5 (some ⟨g6,0,none⟩) q.ol c6 ka q.kn kc)).alloc (zQ5)) w.heap.size (.slice a1 y.pn m1) (.slice a2 y.sn m2) (sG g3 y.wn m3) (.slice (some ⟨bh,oh,none⟩) y.hn m4) (.bool q.on) (sG g5 q.cn c5) (sG g6 q.ol c6) (.slice ka q.kn kc)/\BoxH ((w.alloc (oQ7 a1 y.pn m1 a2 y.sn m2 (some ⟨g3,0,none⟩) y.wn m3 (some ⟨bh,oh,none⟩) y.hn m4 q.on (some ⟨g5,0,none⟩) q.cn c5 (some ⟨g6,0,none⟩) q.ol c6 ka q.kn kc)).alloc (zQ5)) (w.heap.size+1) nS nS nS nS (.bool false) nS nS nS/\(∀ j,((w.alloc (oQ7 a1 y.pn m1 a2 y.sn m2 (some ⟨g3,0,none⟩) y.wn m3 (some ⟨bh,oh,none⟩) y.hn m4 q.on (some ⟨g5,0,none⟩) q.cn c5 (some ⟨g6,0,none⟩) q.ol c6 ka q.kn kc)).alloc (zQ5)).frozen? ⟨w.heap.size,j,none⟩=false)/\(∀ j,((w.alloc (oQ7 a1 y.pn m1 a2 y.sn m2 (some ⟨g3,0,none⟩) y.wn m3 (some ⟨bh,oh,none⟩) y.hn m4 q.on (some ⟨g5,0,none⟩) q.cn c5 (some ⟨g6,0,none⟩) q.ol c6 ka q.kn kc)).alloc (zQ5)).frozen? ⟨w.heap.size+1,j,none⟩=false)):=by
  refine ⟨?_,(BoxH.new w _ _ _ _ _ _ _ _ _).bw (zP _ _),?_,fun j=>((qap (zP _ _)).2 _ j (by rw [e1];omega)).trans (yA _ _ _ _ rfl),?_⟩
  ·rw [Sy.dwn_zero,qrl]
   refine PrL.box (F.box _ (fun k=>X k\/k=w.heap.size) fun k hk=>hk) _ _ fun k hk=>?_;rw [e1]
   rcases hk with h | h | h
   ·exact .inl (.inl h)
   ·exact .inl (.inr h)
   ·exact .inr h
  ·rw [<- e1]
   exact BoxH.new _ _ _ _ _ _ _ _ _ _
  ·rw [<- e1]
   exact fun j=>yA _ _ _ _ rfl
 have KL:Hid (∀ k,X k->k<w.heap.size):=fun k hk=>by
  obtain ⟨ck,-,-,-,-,h5⟩:=F.ow;exact (h5 k hk).1
 have K0:Hid (∀ k,X k->((w.alloc (oQ7 a1 y.pn m1 a2 y.sn m2 (some ⟨g3,0,none⟩) y.wn m3 (some ⟨bh,oh,none⟩) y.hn m4 q.on (some ⟨g5,0,none⟩) q.cn c5 (some ⟨g6,0,none⟩) q.ol c6 ka q.kn kc)).alloc (zQ5)).heap[k]? = w.heap[k]?):=fun k hk=>((zP _ _).block k (by rw [e1];have:=KL.out k hk;omega)).trans ((zP _ _).block k (KL.out k hk));clear F hl hw hh hc ho e1 hp
 go_enter func22,ntmps22
 go_wp2_with fail
 generalize ((w.alloc (oQ7 a1 y.pn m1 a2 y.sn m2 (some ⟨g3,0,none⟩) y.wn m3 (some ⟨bh,oh,none⟩) y.hn m4 q.on (some ⟨g5,0,none⟩) q.cn c5 (some ⟨g6,0,none⟩) q.ol c6 ka q.kn kc)).alloc (zQ5))=W2 at *;obtain ⟨b0,b1,b2,b3,b4,b5,b6,b7⟩:=X0.2.1;go_wp2_with fail
 clear b0 b1 b2 b3 b4 b5 b6 b7
 go_loopw [7] (fun i wr=>∃ b:Nat,b<=y.pn/\i=.int .i64 b/\Hid (∀ j,j<b->¬ 12<=y.wL (p*y.pn+j))/\Hid (PrL W1 W1.heap.size (y.dwn p b) { q with oH:=drO q p b } true true true true (.agg #[.slice a1 y.pn m1,.slice a2 y.sn m2,.slice (some ⟨g3,0,none⟩) y.wn m3,.slice (some ⟨bh,oh,none⟩) y.hn m4]) (sG g5 q.cn c5) (sG g6 q.ol c6) (.slice ka q.kn kc) (fun k=>X k\/k=w.heap.size\/k=w.heap.size+1) wr/\BoxH wr w.heap.size (.slice a1 y.pn m1) (.slice a2 y.sn m2) (sG g3 y.wn m3) (.slice (some ⟨bh,oh,none⟩) y.hn m4) (.bool q.on) (sG g5 q.cn c5) (sG g6 q.ol c6) (.slice ka q.kn kc)/\BoxH wr (w.heap.size+1) nS nS nS nS (.bool false) nS nS nS/\(∀ j,wr.frozen? ⟨w.heap.size,j,none⟩=false)/\(∀ j,wr.frozen? ⟨w.heap.size+1,j,none⟩=false))/\Hid (∀ k,X k->wr.heap[k]? = w.heap[k]?)) (fun i _=>y.pn - (intOf i).toNat)
 case atStart=>exact ⟨0,nD _,rfl,fun j hj=>absurd hj (Nat.not_lt_zero j),X0,K0⟩
 case round=>
  clear X0 K0;obtain ⟨b,hb,rfl,HF,HJ,KJ⟩:=hrel;have lt0:=HJ.2.1.lt;have lt1:=HJ.2.2.1.lt;by_cases hlt:b<y.pn
  ·have hlt':(b:Int)<(y.pn:Int):=by omega
   obtain ⟨M,hM⟩:∃ M,p*y.pn=M:=⟨_,rfl⟩
   have hmul:(p:Int)*(y.pn:Int)=(M:Int):=by rw [<- hM];simp
   obtain ⟨J,hJ⟩:∃ J,M+b=J:=⟨_,rfl⟩
   have hadd:(M:Int)+(b:Int)=(J:Int):=by omega
   have hJw:J<y.wn:=by
    rw [HD.2.2.1,<- hJ,<- hM];exact zL (Nat.add_lt_add_left hlt _) (by rw [<- Nat.succ_mul];exact Nat.mul_le_mul_right _ HD.1)
   have hw16:y.wn<=16:=by rw [HD.2.2.1];exact Nat.mul_le_mul HD.2.1 HD.2.1
   have hJw':(J:Int)<(y.wn:Int):=by omega
   have hJ16:(J:Int)<=16:=by omega
   have hM16:(M:Int)<=16:=by omega
   have wr1:IntKind.i64.wrap (M:Int)=(M:Int):=by rw [IntKind.wrap_i64];omega
   have wr2:IntKind.i64.wrap (J:Int)=(J:Int):=by rw [IntKind.wrap_i64];omega
   have hnb:¬ (p*y.pn<=J/\J<p*y.pn+b):=by omega
   have eL:(y.dwn p b).wL J=y.wL J:=nB hnb;have eH:(y.dwn p b).wH J=y.wH J:=nB hnb;obtain ⟨aw,cw,cJ,oJ,ng,nX,lg,fg⟩:=PrL.way (y:=y.dwn p b) HJ.1 (J:=J) hJw;rw [eL] at cJ oJ ng nX;rw [eH] at oJ;have hl12:=HL.out J hJw;obtain ⟨b0,b1,b2,b3,b4,b5,b6,b7⟩:=HJ.2.1;by_cases h12:y.wL J=12
   case pos=>
    have HY:Hid (y.HasFull p):=⟨b,hlt,by rw [hM,hJ];omega⟩
    have t0:((y.wL J:Int) == 12)=true:=by simp [h12]
    obtain ⟨r0,r1,r2,r3,r4,r5,r6,r7⟩:=HJ.2.2.1;have rf:=HJ.2.2.2.2;have BE:Hid (Below W1.heap.size W1 (set8 wr (w.heap.size+1) (.slice a1 y.pn m1) (.slice a2 y.sn m2) (sG g3 y.wn m3) (.slice (some ⟨bh,oh,none⟩) y.hn m4) (.bool q.on) (sG g5 q.cn c5) (sG g6 q.ol c6) (.slice ka q.kn kc))):=qax HJ.1.be (Nat.le_succ_of_le HW.out) _ _ _ _ _ _ _ _;clear oJ ng nX HJ;go_wp2;exact bodyPost_ret (v:=.tuple #[.agg #[.slice a1 y.pn m1,.slice a2 y.sn m2,.slice (some ⟨g3,0,none⟩) y.wn m3,.slice (some ⟨bh,oh,none⟩) y.hn m4,.bool q.on,.slice (some ⟨g5,0,none⟩) q.cn c5,.slice (some ⟨g6,0,none⟩) q.ol c6,.slice ka q.kn kc],.bool false]) (by simp [results,results22,go_sem,r0,r1,r2,r3,r4,r5,r6,r7]) rfl ⟨BE.out,.inl ⟨HY.out,rfl⟩⟩
   have HN:Hid (∀ j,j<b+1->¬ 12<=y.wL (p*y.pn+j)):=fun j hj=>by
    by_cases e:j=b
    ·subst e
     rw [hM,hJ];omega
    ·exact HF.out j (by omega)
   have t0:((y.wL J:Int) == 12)=false:=by simp;omega
   go_wp2_with fail
   refine qa1 (fun w'=>w'.cell? ⟨w.heap.size,2,none⟩=some (sG g3 y.wn m3)/\w'.cell? ⟨g3,J,none⟩=some (.slice aw (y.wL J) cw)) (fun i=>i == 22) (by kernel_rfl) ?_;have hHeld:=And.intro b2 cJ;refine qcn [0,1,2,3,4,5,6,7,8,9,10,11,12,13,14,15,16,17,18] ?_;iterate 19 (refine qdl rfl hHeld ?_)
   refine qb0 ?_;refine yW 19 rfl fun K hK=>?_;go_simp;have ba:Below wr.heap.size wr (wr.drew.alloc (.cells #[.bool true,.int .i64 0] 74)):=(nE wr.heap.size wr).drew.trans (zP wr.drew _);have hca:=(qap ba).1;refine hK.out _ _ (fun _=>⟨(hca _ _ lt0).trans b2,(hca _ _ lg).trans cJ⟩) ?_;clear hca ba;clear hK K
   (try simp only [Act.put,zD,zE,zF])
   refine yW 20 rfl fun K hK=>?_;refine qb7 kndT wr.drew rfl rfl _ _ rfl 0 (.slice aw (y.wL J) cw) (y.wL J) _ rfl oJ #[.bool true,.int .i64 0] rfl rfl (by intro u hu;simp at hu;rcases hu with rfl | rfl <;> rfl) (by omega) (nD _) ?_;intro v3 w3 o3 d3 q3 n3;obtain ⟨a3,c3,rfl⟩:=zT o3;have hk3:∀ k,k<wr.heap.size->(Value.slice aw (y.wL J) cw).ownBlock≠some k->w3.heap[k]? = wr.heap[k]?:=fun k h1 h2=>d3.block k h1 fun e=>h2 e.symm;have hx0:=hk3 _ lt0 (nX _ (.inr (.inl rfl)));have hx1:=hk3 _ lt1 (nX _ (.inr (.inr rfl)));have hxg:=hk3 _ lg ng;have hHeld:=And.intro ((zH (a:=⟨w.heap.size,2,none⟩) hx0).trans b2) ((zH (a:=⟨g3,J,none⟩) hxg).trans cJ);have hfw:∀ j,w3.frozen? ⟨g3,j,none⟩=false:=fun j=>(zI hxg).trans (fg j);have hn0:w.heap.size≠g3:=PrL.ne3 (y:=y.dwn p b) HJ.1 (.inr (.inl rfl));have hn1:w.heap.size+1≠g3:=PrL.ne3 (y:=y.dwn p b) HJ.1 (.inr (.inr rfl));have hy0:=(zN w3 ⟨g3,J,none⟩ (.slice a3 (y.wL J+1) c3) w.heap.size fun e=>hn0 e).trans hx0;have hy1:=(zN w3 ⟨g3,J,none⟩ (.slice a3 (y.wL J+1) c3) (w.heap.size+1) fun e=>hn1 e).trans hx1
   have XN : Hid (PrL W1 W1.heap.size (y.dwn p (b + 1)) { q with oH := drO q p b } true true true true (.agg #[.slice a1 y.pn m1, .slice a2 y.sn m2, .slice (some ⟨g3, 0, none⟩) y.wn m3, .slice (some ⟨bh, oh, none⟩) y.hn m4]) (.slice (some ⟨g5, 0, none⟩) q.cn c5) (.slice (some ⟨g6, 0, none⟩) q.ol c6) (.slice ka q.kn kc) (fun k => X k ∨ k = w.heap.size ∨ k = w.heap.size + 1) (w3.setCell ⟨g3, J, none⟩ (.slice a3 (y.wL J + 1) c3)) ∧ BoxH (w3.setCell ⟨g3, J, none⟩ (.slice a3 (y.wL J + 1) c3)) w.heap.size (.slice a1 y.pn m1) (.slice a2 y.sn m2) (.slice (some ⟨g3, 0, none⟩) y.wn m3) (.slice (some ⟨bh, oh, none⟩) y.hn m4) (.bool q.on) (.slice (some ⟨g5, 0, none⟩) q.cn c5) (.slice (some ⟨g6, 0, none⟩) q.ol c6) (.slice ka q.kn kc) ∧ BoxH (w3.setCell ⟨g3, J, none⟩ (.slice a3 (y.wL J + 1) c3)) (w.heap.size + 1) nS nS nS nS (.bool false) nS nS nS ∧ (∀ j, (w3.setCell ⟨g3, J, none⟩ (.slice a3 (y.wL J + 1) c3)).frozen? ⟨w.heap.size, j, none⟩ = false) ∧ (∀ j, (w3.setCell ⟨g3, J, none⟩ (.slice a3 (y.wL J + 1) c3)).frozen? ⟨w.heap.size + 1, j, none⟩ = false)) := ⟨by
    have h9:=PrL.wayGrow (y:=y.dwn p b) HJ.1 (J:=J) hJw cJ (nE wr.heap.size wr).drew d3 (m:=y.wL J+1) (H':=fun i=>if i=y.wL J then ⟨true,0⟩ else y.wH J i) (by rw [qyg];exact o3) q3;have h10:=y.dwn_next p b;rw [hM,hJ] at h10;rw [h10] at h9
    exact h9,HJ.2.1.blk hy0,HJ.2.2.1.blk hy1,fun j=>(zI hy0).trans (HJ.2.2.2.1 j),fun j=>(zI hy1).trans (HJ.2.2.2.2 j)⟩
   have KN:Hid (∀ k,X k->(w3.setCell ⟨g3,J,none⟩ (.slice a3 (y.wL J+1) c3)).heap[k]? = w.heap[k]?):=fun k hk=>((zN _ _ _ _ fun e=>PrL.ne3 (y:=y.dwn p b) HJ.1 (.inl hk) e).trans (hk3 k (Nat.lt_trans (KL.out k hk) lt0) (nX k (.inl hk)))).trans (KJ.out k hk);refine hK.out _ _ (fun _=>hHeld) ?_;clear o3 d3 q3 n3 hk3 hx0 hx1 hxg hy0 hy1 hn0 hn1 HJ ng nX oJ;clear hK K;refine qgu 21 rfl hHeld ?_;refine yW 22 rfl fun K hK=>?_;have hcN:=hHeld.2;have hfN:=hfw J;go_simp;refine hK.out _ _ (fun h=>absurd h (by decide)) ?_;clear hK K
   (try simp only [Act.put])
   refine yX ?_ _;clear hcN hfN hfw hHeld b0 b1 b2 b3 b4 b5 b6 b7 cJ fg lg lt0 lt1 t0;generalize w3.setCell ⟨g3,J,none⟩ (.slice a3 (y.wL J+1) c3)=w4 at *;obtain ⟨b0,b1,b2,b3,b4,b5,b6,b7⟩:=XN.2.1;obtain ⟨MM,hMM⟩:∃ MM,b*y.pn=MM:=⟨_,rfl⟩
   have hmul2:(b:Int)*(y.pn:Int)=(MM:Int):=by rw [<- hMM];simp
   have hMo:MM+p<q.ol:=by
    rw [HD.2.2.2.2.2,HD.2.2.1,<- hMM];exact zL (Nat.add_lt_add_left HD.1 _) (by rw [<- Nat.succ_mul];exact Nat.mul_le_mul_right _ hlt)
   have ho16:q.ol<=16:=by rw [HD.2.2.2.2.2];exact hw16
   have hMo':(MM:Int)+(p:Int)<(q.ol:Int):=by omega
   have ho16':(q.ol:Int)<=16:=by omega
   obtain ⟨ck,-,-,hO,-,-⟩:=XN.1.ow;have oo:OwnQ w4 0 (sG g6 q.ol c6) q.ol (drO q p b):=(hO rfl).1;have cg:=World.ownsRow.cellAt oo (MM+p) (by omega);rw [qes hMo] at cg;have cf:=World.ownsRow.frozenAt oo (MM+p);have z0:w.heap.size≠g6:=fun e=>XN.1.ne6 (.inr (.inl rfl)) (by rw [e];rfl);have z1:w.heap.size+1≠g6:=fun e=>XN.1.ne6 (.inr (.inr rfl)) (by rw [e];rfl);have hy0:=zN w4 ⟨g6,MM+p,none⟩ (.bool true) w.heap.size fun e=>z0 e;have hy1:=zN w4 ⟨g6,MM+p,none⟩ (.bool true) (w.heap.size+1) fun e=>z1 e
   have XO : Hid (PrL W1 W1.heap.size (y.dwn p (b + 1)) { q with oH := drO q p (b + 1) } true true true true (.agg #[.slice a1 y.pn m1, .slice a2 y.sn m2, .slice (some ⟨g3, 0, none⟩) y.wn m3, .slice (some ⟨bh, oh, none⟩) y.hn m4]) (.slice (some ⟨g5, 0, none⟩) q.cn c5) (.slice (some ⟨g6, 0, none⟩) q.ol c6) (.slice ka q.kn kc) (fun k => X k ∨ k = w.heap.size ∨ k = w.heap.size + 1) (w4.setCell ⟨g6, MM + p, none⟩ (.bool true)) ∧ BoxH (w4.setCell ⟨g6, MM + p, none⟩ (.bool true)) w.heap.size (.slice a1 y.pn m1) (.slice a2 y.sn m2) (.slice (some ⟨g3, 0, none⟩) y.wn m3) (.slice (some ⟨bh, oh, none⟩) y.hn m4) (.bool q.on) (.slice (some ⟨g5, 0, none⟩) q.cn c5) (.slice (some ⟨g6, 0, none⟩) q.ol c6) (.slice ka q.kn kc) ∧ BoxH (w4.setCell ⟨g6, MM + p, none⟩ (.bool true)) (w.heap.size + 1) nS nS nS nS (.bool false) nS nS nS ∧ (∀ j, (w4.setCell ⟨g6, MM + p, none⟩ (.bool true)).frozen? ⟨w.heap.size, j, none⟩ = false) ∧ (∀ j, (w4.setCell ⟨g6, MM + p, none⟩ (.bool true)).frozen? ⟨w.heap.size + 1, j, none⟩ = false)) := ⟨by
    have h9:=PrL.openAt XN.1 (MM+p) true;have hMq:b*q.cn=MM:=by rw [HD.2.2.2.2.1];exact hMM
    rw [<- hMq] at h9 ⊢;rw [<- qrk q (by have:=HD.out;omega)]
    exact h9,XN.2.1.blk hy0,XN.2.2.1.blk hy1,fun j=>(zI hy0).trans (XN.2.2.2.1 j),fun j=>(zI hy1).trans (XN.2.2.2.2 j)⟩
   have KO:Hid (∀ k,X k->(w4.setCell ⟨g6,MM+p,none⟩ (.bool true)).heap[k]? = w.heap[k]?):=fun k hk=>(zN _ _ _ _ fun e=>XN.1.ne6 (.inl hk) (by rw [show k=g6 from e];rfl)).trans (KN.out k hk);clear hO oo z0 z1 hy0 hy1 XN hMM hJ hM KN;go_wp2;go_roundw
   case rel=>exact ⟨b+1,by omega,by go_num,HN,XO,KO⟩
   case measure=>simp [intOf];omega
  ·have hbn:b=y.pn:=by omega
   subst hbn;have HNF:Hid (¬ y.HasFull p):=fun ⟨j,hj,h⟩=>HF.out j hj h;obtain ⟨xs,ev,ey,gx⟩:=PrL.g (y:=y.dwn p y.pn) HJ.1;have hhx:p<xs.hn:=by rw [show xs.hn=xs.y.hn from rfl,ey];show p<y.hn;have:=HD.out;omega
   obtain ⟨b9,o9,eh,ch⟩:=gx.h.at hhx
   have ea:(⟨b9,o9,none⟩:Addr)=⟨bh,oh,none⟩:=by
    have h9:xs.v=(.agg #[.slice a1 y.pn m1,.slice a2 y.sn m2,.slice (some ⟨g3,0,none⟩) y.wn m3,.slice (some ⟨bh,oh,none⟩) y.hn m4]):=ev;simp only [SysIn.v,Value.agg.injEq,Array.mk.injEq,List.cons.injEq,and_true,Value.slice.injEq] at h9;have:=h9.2.2.2.1;rw [eh] at this;exact Option.some.inj this
   simp only [Addr.mk.injEq,and_true] at ea;obtain ⟨e8,e9⟩:=ea;have e8:=e8.symm;have e9:=e9.symm;subst e8 e9;have eL:xs.hL p=y.hL p:=congrArg (fun t:Sy=>t.hL p) ey;rw [eL] at ch;obtain ⟨b0,b1,b2,b3,b4,b5,b6,b7⟩:=HJ.2.1;obtain ⟨ck,-,hC,-,-,-⟩:=HJ.1.ow;have cg:=World.ownsRow.cellAt (hC rfl).1 p (by show p<q.cn*1;omega);rw [qs1 (show p<q.cn by omega)] at cg;have cf:=World.ownsRow.frozenAt (hC rfl).1 p;clear eh ey ev hhx eL hC;go_wp2_with fail
   refine qa1 (fun w'=>w'.cell? ⟨w.heap.size,5,none⟩=some (sG g5 q.cn c5)/\w'.cell? ⟨w.heap.size,3,none⟩=some (.slice (some ⟨bh,oh,none⟩) y.hn m4)/\w'.cell? ⟨bh,oh+p,none⟩=some (.slice (xs.hA p) (y.hL p) (xs.hC p))) (fun i=>i == 12) (by kernel_rfl) ?_;have hHeld:=And.intro b5 (And.intro b3 ch);refine qcn [0,1,2,3,4,5,6,7,8,9,10,11] ?_;iterate 12 (refine qdl rfl hHeld ?_)
   refine qb0 ?_;refine yW 12 rfl fun K hK=>?_;go_simp;refine hK.out _ _ (fun h=>absurd h (by decide)) ?_;clear hK K hHeld
   (try simp only [Act.put])
   refine yX ?_ _;have z0:w.heap.size≠g5:=fun e=>HJ.1.ne5 (.inr (.inl rfl)) (by rw [e];rfl);have z1:w.heap.size+1≠g5:=fun e=>HJ.1.ne5 (.inr (.inr rfl)) (by rw [e];rfl);have hy0:=zN wr ⟨g5,p,none⟩ (.int .i64 (y.hL p)) w.heap.size fun e=>z0 e;have hy1:=zN wr ⟨g5,p,none⟩ (.int .i64 (y.hL p)) (w.heap.size+1) fun e=>z1 e
   have XC : Hid (PrL W1 W1.heap.size (y.dwn p y.pn) (q.drawn p (y.hL p : Int)) true true true true (.agg #[.slice a1 y.pn m1, .slice a2 y.sn m2, .slice (some ⟨g3, 0, none⟩) y.wn m3, .slice (some ⟨bh, oh, none⟩) y.hn m4]) (.slice (some ⟨g5, 0, none⟩) q.cn c5) (.slice (some ⟨g6, 0, none⟩) q.ol c6) (.slice ka q.kn kc) (fun k => X k ∨ k = w.heap.size ∨ k = w.heap.size + 1) (wr.setCell ⟨g5, p, none⟩ (.int .i64 (y.hL p))).drew ∧ BoxH (wr.setCell ⟨g5, p, none⟩ (.int .i64 (y.hL p))).drew w.heap.size (.slice a1 y.pn m1) (.slice a2 y.sn m2) (.slice (some ⟨g3, 0, none⟩) y.wn m3) (.slice (some ⟨bh, oh, none⟩) y.hn m4) (.bool q.on) (.slice (some ⟨g5, 0, none⟩) q.cn c5) (.slice (some ⟨g6, 0, none⟩) q.ol c6) (.slice ka q.kn kc) ∧ BoxH (wr.setCell ⟨g5, p, none⟩ (.int .i64 (y.hL p))).drew (w.heap.size + 1) nS nS nS nS (.bool false) nS nS nS ∧ (∀ j, (wr.setCell ⟨g5, p, none⟩ (.int .i64 (y.hL p))).drew.frozen? ⟨w.heap.size, j, none⟩ = false) ∧ (∀ j, (wr.setCell ⟨g5, p, none⟩ (.int .i64 (y.hL p))).drew.frozen? ⟨w.heap.size + 1, j, none⟩ = false)) := ⟨by
    have h9:=(PrL.cutAt HJ.1 p (y.hL p:Int)).drew.onAs true;unfold Sh.drawn;rw [HD.2.2.2.2.1];rw [HD.2.2.2.2.1] at h9
    exact h9,HJ.2.1.blk hy0,HJ.2.2.1.blk hy1,fun j=>(zI hy0).trans (HJ.2.2.2.1 j),fun j=>(zI hy1).trans (HJ.2.2.2.2 j)⟩
   have KC:Hid (∀ k,X k->(wr.setCell ⟨g5,p,none⟩ (.int .i64 (y.hL p))).drew.heap[k]? = w.heap[k]?):=fun k hk=>(zN wr _ _ _ fun e=>HJ.1.ne5 (.inl hk) (by rw [show k=g5 from e];rfl)).trans (KJ.out k hk);clear z0 z1 hy0 hy1 HJ b0 b1 b2 b3 b4 b5 b6 b7 cg cf ch gx HF;generalize (wr.setCell ⟨g5,p,none⟩ (.int .i64 (y.hL p))).drew=w4 at *;obtain ⟨d0,d1,d2,d3,d4,d5,d6,d7⟩:=XC.2.1;have df:=XC.2.2.2.1;have dl:=XC.2.1.lt;go_upto_region 11 with fail
   have XD : Hid (PrL W1 W1.heap.size (y.dwn p y.pn) (q.drawn p (y.hL p : Int)) true true true true (.agg #[.slice a1 y.pn m1, .slice a2 y.sn m2, .slice (some ⟨g3, 0, none⟩) y.wn m3, .slice (some ⟨bh, oh, none⟩) y.hn m4]) (.slice (some ⟨g5, 0, none⟩) q.cn c5) (.slice (some ⟨g6, 0, none⟩) q.ol c6) (.slice ka q.kn kc) (fun k => X k ∨ k = w.heap.size ∨ k = w.heap.size + 1) (w4.setCell ⟨w.heap.size, 4, none⟩ (.bool true)) ∧ BoxH (w4.setCell ⟨w.heap.size, 4, none⟩ (.bool true)) w.heap.size (.slice a1 y.pn m1) (.slice a2 y.sn m2) (.slice (some ⟨g3, 0, none⟩) y.wn m3) (.slice (some ⟨bh, oh, none⟩) y.hn m4) (.bool true) (.slice (some ⟨g5, 0, none⟩) q.cn c5) (.slice (some ⟨g6, 0, none⟩) q.ol c6) (.slice ka q.kn kc) ∧ BoxH (w4.setCell ⟨w.heap.size, 4, none⟩ (.bool true)) (w.heap.size + 1) nS nS nS nS (.bool false) nS nS nS ∧ (∀ j, (w4.setCell ⟨w.heap.size, 4, none⟩ (.bool true)).frozen? ⟨w.heap.size, j, none⟩ = false) ∧ (∀ j, (w4.setCell ⟨w.heap.size, 4, none⟩ (.bool true)).frozen? ⟨w.heap.size + 1, j, none⟩ = false)) := ⟨XC.1.put (.inr (.inl rfl)) HW.out 4 _, by refine ⟨?_, ?_, ?_, ?_, ?_, ?_, ?_, ?_⟩ <;> go_cell, XC.2.2.1.blk (Below.heap_setCell _ _ _ _ fun e => by
    have e2:w.heap.size+1=w.heap.size:=e
    omega),fun j=>by rw [World.frozen?_setCell];exact XC.2.2.2.1 j,fun j=>by rw [World.frozen?_setCell];exact XC.2.2.2.2 j⟩
   have KD : Hid (∀ k, X k → (w4.setCell ⟨w.heap.size, 4, none⟩ (.bool true)).heap[k]? = w.heap[k]?) := fun k hk => (Below.heap_setCell _ _ _ _ fun e => by
    have e2:k=w.heap.size:=e;have:=KL.out k hk
    omega).trans (KC.out k hk)
   clear d0 d1 d2 d3 d4 d5 d6 d7 df dl XC KC;generalize w4.setCell ⟨w.heap.size,4,none⟩ (.bool true)=w5 at *;obtain ⟨d0,d1,d2,d3,d4,d5,d6,d7⟩:=XD.2.1;obtain ⟨r0,r1,r2,r3,r4,r5,r6,r7⟩:=XD.2.2.1;have rf:=XD.2.2.2.2;have rl:=XD.2.2.1.lt;have FE:Hid (PrL W1 W1.heap.size (y.dwn p y.pn) (q.drawn p (y.hL p:Int)) true true true true (.agg #[.slice a1 y.pn m1,.slice a2 y.sn m2,.slice (some ⟨g3,0,none⟩) y.wn m3,.slice (some ⟨bh,oh,none⟩) y.hn m4]) (sG g5 q.cn c5) (sG g6 q.ol c6) (.slice ka q.kn kc) X (set8 w5 (w.heap.size+1) (.slice a1 y.pn m1) (.slice a2 y.sn m2) (sG g3 y.wn m3) (.slice (some ⟨bh,oh,none⟩) y.hn m4) (.bool true) (sG g5 q.cn c5) (sG g6 q.ol c6) (.slice ka q.kn kc))):=(XD.1.put8 (.inr (.inr rfl)) (Nat.le_succ_of_le HW.out) _ _ _ _ _ _ _ _).sub fun k hk=>.inl hk;have KE:Hid (∀ k,X k->(set8 w5 (w.heap.size+1) (.slice a1 y.pn m1) (.slice a2 y.sn m2) (sG g3 y.wn m3) (.slice (some ⟨bh,oh,none⟩) y.hn m4) (.bool true) (sG g5 q.cn c5) (sG g6 q.ol c6) (.slice ka q.kn kc)).heap[k]? = w.heap[k]?):=fun k hk=>(qt6 (fun e=>by have:=KL.out k hk;omega) _ _ _ _ _ _ _ _).trans (KD.out k hk);clear XD KD;go_wp2;exact bodyPost_ret (v:=.tuple #[.agg #[.slice a1 y.pn m1,.slice a2 y.sn m2,.slice (some ⟨g3,0,none⟩) y.wn m3,.slice (some ⟨bh,oh,none⟩) y.hn m4,.bool true,.slice (some ⟨g5,0,none⟩) q.cn c5,.slice (some ⟨g6,0,none⟩) q.ol c6,.slice ka q.kn kc],.bool true]) (by simp [results,results22,go_sem,r0,r1,r2,r3,r4,r5,r6,r7]) rfl ⟨FE.be,.inr ⟨HNF.out,rfl,FE.out,KE.out⟩⟩
theorem qqa (x:LvIn) (w:World) (hG:LvG w x) (hL:x.Len):
  Calls prog 21 #[x.v] w fun e w'=>∃ v,e=.returned v/\qba w' w.heap.size x.s.y x.h.z v/\Below w.heap.size w w':=by
 have HC4:Hid (∀ wx,Below w.heap.size w wx->Calls prog 44 #[x.s.v] wx fun e w'=>∃ v,e=.returned v/\qbj false w' wx.heap.size x.s.y v/\Below wx.heap.size wx w'):=fun wx hb=>(qtf x.s wx (hG.s.bw hb) hL.s).mono fun e w' h=>by
  obtain ⟨v,e,⟨c,vp,vs,vw,vh,up,us,uw,uh,ev,o⟩,b⟩:=h;exact ⟨v,e,⟨c,vp,vs,vw,vh,up,us,uw,uh,ev,o.weak⟩,b⟩
 have HH:Hid (∀ wx,Below w.heap.size w wx->ShG wx x.h):=fun wx hb=>hG.h.bw hb;have HLh:Hid x.h.Len:=hL.h;have BW:Hid (Below w.heap.size w ((w.alloc (oQ7 x.s.pa x.s.pn x.s.pc x.s.sa x.s.sn x.s.sc x.s.wa x.s.wn x.s.wc x.s.ha x.s.hn x.s.hc x.h.on x.h.ca x.h.cn x.h.cc x.h.oa x.h.ol x.h.oc x.h.ka x.h.kn x.h.kc)).alloc (zQ5))):=(zP _ _).trans ((zP _ _).mono (by simp));have NB:Hid (BoxH ((w.alloc (oQ7 x.s.pa x.s.pn x.s.pc x.s.sa x.s.sn x.s.sc x.s.wa x.s.wn x.s.wc x.s.ha x.s.hn x.s.hc x.h.on x.h.ca x.h.cn x.h.cc x.h.oa x.h.ol x.h.oc x.h.ka x.h.kn x.h.kc)).alloc (zQ5)) w.heap.size (.slice x.s.pa x.s.pn x.s.pc) (.slice x.s.sa x.s.sn x.s.sc) (.slice x.s.wa x.s.wn x.s.wc) (.slice x.s.ha x.s.hn x.s.hc) (.bool x.h.on) (.slice x.h.ca x.h.cn x.h.cc) (.slice x.h.oa x.h.ol x.h.oc) (.slice x.h.ka x.h.kn x.h.kc)):=(BoxH.new w _ _ _ _ _ _ _ _ _).bw (zP _ _)
 have RB:Hid (BoxH ((w.alloc (oQ7 x.s.pa x.s.pn x.s.pc x.s.sa x.s.sn x.s.sc x.s.wa x.s.wn x.s.wc x.s.ha x.s.hn x.s.hc x.h.on x.h.ca x.h.cn x.h.cc x.h.oa x.h.ol x.h.oc x.h.ka x.h.kn x.h.kc)).alloc (zQ5)) (w.heap.size+1) nS nS nS nS (.bool false) nS nS nS/\∀ j,((w.alloc (oQ7 x.s.pa x.s.pn x.s.pc x.s.sa x.s.sn x.s.sc x.s.wa x.s.wn x.s.wc x.s.ha x.s.hn x.s.hc x.h.on x.h.ca x.h.cn x.h.cc x.h.oa x.h.ol x.h.oc x.h.ka x.h.kn x.h.kc)).alloc (zQ5)).frozen? ⟨w.heap.size+1,j,none⟩=false):=by
  have e:(w.alloc (oQ7 x.s.pa x.s.pn x.s.pc x.s.sa x.s.sn x.s.sc x.s.wa x.s.wn x.s.wc x.s.ha x.s.hn x.s.hc x.h.on x.h.ca x.h.cn x.h.cc x.h.oa x.h.ol x.h.oc x.h.ka x.h.kn x.h.kc)).heap.size=w.heap.size+1:=by simp
  rw [<- e];exact ⟨BoxH.new _ _ _ _ _ _ _ _ _ _,fun j=>yA _ _ _ _ rfl⟩
 have hM:w.heap.size<=w.heap.size+1:=nK _;clear hG hL
 go_enter func21,ntmps21
 go_upto_region 1 with fail
 generalize (w.alloc (oQ7 x.s.pa x.s.pn x.s.pc x.s.sa x.s.sn x.s.sc x.s.wa x.s.wn x.s.wc x.s.ha x.s.hn x.s.hc x.h.on x.h.ca x.h.cn x.h.cc x.h.oa x.h.ol x.h.oc x.h.ka x.h.kn x.h.kc)).alloc (zQ5)=W2 at *;have LR:Hid (w.heap.size+1<W2.heap.size):=RB.1.lt;have HRB:Hid (∀ wx,Below W2.heap.size W2 wx->BoxH wx w.heap.size (.slice x.s.pa x.s.pn x.s.pc) (.slice x.s.sa x.s.sn x.s.sc) (.slice x.s.wa x.s.wn x.s.wc) (.slice x.s.ha x.s.hn x.s.hc) (.bool x.h.on) (.slice x.h.ca x.h.cn x.h.cc) (.slice x.h.oa x.h.ol x.h.oc) (.slice x.h.ka x.h.kn x.h.kc)/\BoxH wx (w.heap.size+1) nS nS nS nS (.bool false) nS nS nS/\(∀ j,wx.frozen? ⟨w.heap.size+1,j,none⟩=false)/\w.heap.size+1<wx.heap.size):=fun wx hb=>⟨NB.bw hb,RB.1.bw hb,fun j=>((qap hb).2 _ j LR.out).trans (RB.2 j),zL LR.out hb.size⟩
 clear NB RB;have F0:Hid (PrL W2 W2.heap.size x.s.y { x.h.z with cn:=0,ol:=0,kn:=0 } false false false true undef undef undef nS (fun _=>False) W2.drew):=((PrL.start (vk:=undef) (nA _) (nE _ _)).kept (u:=fun _=>.slice none 0 0) (nE _ _) (LL.nil _ _ _ _ _ _ _ _)).drew
 have hS0:∀ wx,Below W2.heap.size W2 wx->wx.cell? ⟨w.heap.size,0,none⟩=some (.slice x.s.pa x.s.pn x.s.pc)/\wx.cell? ⟨w.heap.size,1,none⟩=some (.slice x.s.sa x.s.sn x.s.sc)/\wx.cell? ⟨w.heap.size,2,none⟩=some (.slice x.s.wa x.s.wn x.s.wc)/\wx.cell? ⟨w.heap.size,3,none⟩=some (.slice x.s.ha x.s.hn x.s.hc)/\wx.cell? ⟨w.heap.size,4,none⟩=some (.bool x.h.on)/\wx.cell? ⟨w.heap.size,5,none⟩=some (.slice x.h.ca x.h.cn x.h.cc)/\wx.cell? ⟨w.heap.size,6,none⟩=some (.slice x.h.oa x.h.ol x.h.oc):=fun wx hb=>by
  obtain ⟨h0,h1,h2,h3,h4,h5,h6,h7⟩:=(HRB.out wx hb).1;exact ⟨h0,h1,h2,h3,h4,h5,h6⟩
 have hHeld:(fun w':World=>w'.cell? ⟨w.heap.size,0,none⟩=some (.slice x.s.pa x.s.pn x.s.pc)/\w'.cell? ⟨w.heap.size,1,none⟩=some (.slice x.s.sa x.s.sn x.s.sc)/\w'.cell? ⟨w.heap.size,2,none⟩=some (.slice x.s.wa x.s.wn x.s.wc)/\w'.cell? ⟨w.heap.size,3,none⟩=some (.slice x.s.ha x.s.hn x.s.hc)/\w'.cell? ⟨w.heap.size,4,none⟩=some (.bool x.h.on)/\w'.cell? ⟨w.heap.size,5,none⟩=some (.slice x.h.ca x.h.cn x.h.cc)/\w'.cell? ⟨w.heap.size,6,none⟩=some (.slice x.h.oa x.h.ol x.h.oc)) W2.drew:=hS0 W2 (nE _ _);refine qa1 (fun w'=>w'.cell? ⟨w.heap.size,0,none⟩=some (.slice x.s.pa x.s.pn x.s.pc)/\w'.cell? ⟨w.heap.size,1,none⟩=some (.slice x.s.sa x.s.sn x.s.sc)/\w'.cell? ⟨w.heap.size,2,none⟩=some (.slice x.s.wa x.s.wn x.s.wc)/\w'.cell? ⟨w.heap.size,3,none⟩=some (.slice x.s.ha x.s.hn x.s.hc)/\w'.cell? ⟨w.heap.size,4,none⟩=some (.bool x.h.on)/\w'.cell? ⟨w.heap.size,5,none⟩=some (.slice x.h.ca x.h.cn x.h.cc)/\w'.cell? ⟨w.heap.size,6,none⟩=some (.slice x.h.oa x.h.ol x.h.oc)) (fun i=>i == 19) (by kernel_rfl) ?_;refine qcn [0,1,3,4,5,7,8,9,12,13,14] ?_;iterate 11 (refine qdl rfl hHeld ?_)
 refine qb0 ?_;clear hHeld;refine qq8 (fun s:Bool × Bool × Bool × Bool × Bool × Bool=>#[true,true,s.1,true,true,true,s.2.2.2.1,true,true,true,s.2.1,s.2.2.2.2.1,true,true,true,s.2.2.1,false,false,s.2.2.2.2.2,false]) (fun s=>outI s.1 2 ++ (outI s.2.2.2.1 6 ++ (outI (s.2.1 || !(s.1 && s.2.2.2.1)) 10 ++ (outI s.2.2.2.2.1 11 ++ (outI (s.2.2.1 || !(s.2.1 && s.2.2.2.2.1)) 15 ++ outI s.2.2.2.2.2 18))))) (fun s y wq=>((s.2.1=true->s.1=true/\s.2.2.2.1=true)/\(s.2.2.1=true->s.2.1=true/\s.2.2.2.2.1=true))/\∃ v7 v11 v15 v16 v20 v21 v22 v3,y=⟨#[.agg #[.slice x.s.pa x.s.pn x.s.pc,.slice x.s.sa x.s.sn x.s.sc,.slice x.s.wa x.s.wn x.s.wc,.slice x.s.ha x.s.hn x.s.hc,.bool x.h.on,.slice x.h.ca x.h.cn x.h.cc,.slice x.h.oa x.h.ol x.h.oc,.slice x.h.ka x.h.kn x.h.kc],.pointer (some ⟨w.heap.size,0,none⟩),.pointer (some ⟨w.heap.size+1,0,none⟩),v3,undef,.pointer (some ⟨w.heap.size,0,none⟩),.agg #[.slice x.s.pa x.s.pn x.s.pc,.slice x.s.sa x.s.sn x.s.sc,.slice x.s.wa x.s.wn x.s.wc,.slice x.s.ha x.s.hn x.s.hc],v7,.pointer (some ⟨w.heap.size,4,none⟩),.pointer (some ⟨w.heap.size,4,none⟩),.bool x.h.on,v11,.pointer (some ⟨w.heap.size,4,none⟩),.pointer (some ⟨w.heap.size,5,none⟩),.slice x.h.ca x.h.cn x.h.cc,v15,v16,.pointer (some ⟨w.heap.size,4,none⟩),.pointer (some ⟨w.heap.size,6,none⟩),.slice x.h.oa x.h.ol x.h.oc,v20,v21,v22,undef,undef,undef,undef,undef,undef,undef,undef,undef,undef,undef,undef,undef,undef,undef,undef,undef,undef,undef,undef,undef,undef,undef,undef],[]⟩/\((s.2.2.2.1=true->s.2.1=false->∃ k,v11=.slice (some ⟨k,0,none⟩) 0 0)/\(s.2.2.2.2.1=true->s.2.2.1=false->∃ k,v16=.slice (some ⟨k,0,none⟩) 0 0))/\(s.2.2.2.2.2=true->∃ N,v3=.pointer (some ⟨N,0,none⟩)/\W2.heap.size<=N/\BoxH wq N nS nS nS nS (.bool false) nS nS nS/\∀ j,wq.frozen? ⟨N,j,none⟩=false)/\PrL W2 W2.heap.size x.s.y { x.h.z with cn:=bif s.2.1 then x.h.cn else 0,ol:=bif s.2.2.1 then x.h.ol else 0,kn:=0 } s.1 s.2.2.2.1 s.2.2.2.2.1 true v7 (bif s.2.1 then v15 else v11) (bif s.2.2.1 then v20 else v16) nS (fun k=>s.2.2.2.2.2=true/\v3=.pointer (some ⟨k,0,none⟩)) wq) (fun s=>s.2.2.1) ?_ ?_ ?_ ?_ _ (false,false,false,false,false,false) _ _ _ (by kernel_rfl) ⟨⟨(fun e=>by cases e),(fun e=>by cases e)⟩,_,_,_,_,_,_,_,_,rfl,⟨(fun e=>by cases e),(fun e=>by cases e)⟩,(fun e=>by cases e),F0.sub fun k h=>by cases h.1⟩ (by kernel_rfl)
 ·rintro ⟨a,b,c,d,e,f⟩ hs
  cases a <;> cases b <;> cases c <;> cases d <;> cases e <;> cases f <;> first | exact absurd hs (by decide) | kernel_rfl
 ·rintro ⟨a,b,c,d,e,f⟩ hs
  cases a <;> cases b <;> cases c <;> cases d <;> cases e <;> cases f <;> first | exact absurd hs (by decide) | exact (by decide)
 ·rintro ⟨a,b,c,d,e,f⟩ y wq ⟨⟨hb1,hc1⟩,v7,v11,v15,v16,v20,v21,v22,v3,rfl,⟨h11,h16⟩,hE,F⟩ hs
  obtain rfl:c=false:=hs
  have hE2:∀ wx,Below wq.heap.size wq wx->f=true->∃ N,v3=.pointer (some ⟨N,0,none⟩)/\W2.heap.size<=N/\BoxH wx N nS nS nS nS (.bool false) nS nS nS/\∀ j,wx.frozen? ⟨N,j,none⟩=false:=fun wx hb he=>by
   obtain ⟨N,e1,e2,e3,e4⟩:=hE he;have hl:=e3.lt;exact ⟨N,e1,e2,e3.bw hb,fun j=>((qap hb).2 _ j hl).trans (e4 j)⟩
  have hS:∀ wx,Below wq.heap.size wq wx->wx.cell? ⟨w.heap.size,0,none⟩=some (.slice x.s.pa x.s.pn x.s.pc)/\wx.cell? ⟨w.heap.size,1,none⟩=some (.slice x.s.sa x.s.sn x.s.sc)/\wx.cell? ⟨w.heap.size,2,none⟩=some (.slice x.s.wa x.s.wn x.s.wc)/\wx.cell? ⟨w.heap.size,3,none⟩=some (.slice x.s.ha x.s.hn x.s.hc)/\wx.cell? ⟨w.heap.size,4,none⟩=some (.bool x.h.on)/\wx.cell? ⟨w.heap.size,5,none⟩=some (.slice x.h.ca x.h.cn x.h.cc)/\wx.cell? ⟨w.heap.size,6,none⟩=some (.slice x.h.oa x.h.ol x.h.oc):=fun wx hb=>hS0 wx (F.be.trans (hb.mono F.be.size));have hSh:=HH.out wq (BW.trans (F.be.mono BW.size));intro i hi;rw [List.mem_append,List.mem_append,List.mem_append,List.mem_append,List.mem_append] at hi
  rcases hi with hi | hi | hi | hi | hi | hi
  all_goals obtain ⟨he,rfl⟩:=qlt hi
  ·obtain rfl:a=false:=he
   refine ⟨(true,b,false,d,e,f),rfl,wpOp_step rfl fun K hK=>?_⟩;refine qas rfl 44 _ _ rfl #[x.s.v] (by simp [Act.eval,SysIn.v,sysV]) (zZ func44) (HC4.out wq (BW.trans (F.be.mono BW.size))) ?_;rintro e5 w5 ⟨v5,rfl,o5,q5⟩;exact ⟨_,rfl,hK _ _ ⟨fun _ _=>hS _ q5,⟨(fun h=>⟨rfl,(hb1 h).2⟩),(fun h=>by cases h)⟩,v5,v11,v15,v16,v20,v21,v22,v3,rfl,⟨h11,h16⟩,hE2 _ q5,F.sys q5 o5⟩⟩
  ·obtain rfl:d=false:=he
   obtain rfl:b=false:=by
    cases b
    ·rfl
    ·have h9:=(hb1 rfl).2
     cases h9
   refine ⟨(a,false,false,true,e,f),rfl,wpOp_step rfl fun K hK=>?_⟩;go_simp;exact hK _ _ ⟨fun _ _=>hS _ (zP _ _),⟨(fun h=>by cases h),(fun h=>by cases h)⟩,v7,.slice (some ⟨wq.heap.size,0,none⟩) 0 0,v15,v16,v20,v21,v22,v3,rfl,⟨(fun _ _=>⟨_,rfl⟩),h16⟩,hE2 _ (zP _ _),F.cut (zP _ _) (World.ownsRow_made (base:=wq.heap.size) (e:=3) (size:=1) wq #[] 0 (nA _) (by unfold maxLen;omega) (by simp))⟩
  ·obtain rfl:b=false:=by cases b <;> simp_all
   obtain ⟨rfl,rfl⟩:a=true/\d=true:=by cases a <;> cases d <;> simp_all
   refine ⟨(true,true,false,true,e,f),rfl,wpOp_step rfl fun K hK=>?_⟩;obtain ⟨kb,rfl⟩:=h11 rfl rfl;obtain ⟨ck,-,hC,-,-,-⟩:=F.ow;refine qb6 qu6 wq rfl _ _ rfl 0 (sG kb 0 0) 0 [] rfl (hC rfl).1 x.h.ca x.h.cn x.h.cc (fZ x.h.cH x.h.cn) rfl (qet _ _) (srcZ hSh.c) (qrr _ _) (by have:=HLh.c;omega) (nD _) ?_;intro v5 w5 o5 g5 hb5 _;rw [nL,List.nil_append] at o5
   have F':=F.cutGrow o5 g5 fun k hk=>by
    rcases hb5 with h | h
    ·exact .inl (h.symm.trans hk)
    ·rw [h] at hk
     cases hk;exact .inr (nA _)
   refine hK _ _ ⟨fun _ _=>hS0 w5 F'.be,⟨(fun _=>⟨rfl,rfl⟩),(fun h=>by cases h)⟩,v7,.slice (some ⟨kb,0,none⟩) 0 0,v5,v16,v20,v21,v22,v3,rfl,⟨(fun _ h=>by cases h),h16⟩,(fun he=>?_),F'⟩;obtain ⟨N,e1,e2,e3,e4⟩:=hE he;have hn:=g5.block N e3.lt (F.ne5 ⟨he,e1⟩);exact ⟨N,e1,e2,e3.blk hn,fun j=>(zI hn).trans (e4 j)⟩
  ·obtain rfl:e=false:=he
   refine ⟨(a,b,false,d,true,f),rfl,wpOp_step rfl fun K hK=>?_⟩;go_simp;exact hK _ _ ⟨fun _ _=>hS _ (zP _ _),⟨hb1,(fun h=>by cases h)⟩,v7,v11,v15,.slice (some ⟨wq.heap.size,0,none⟩) 0 0,v20,v21,v22,v3,rfl,⟨h11,(fun _ _=>⟨_,rfl⟩)⟩,hE2 _ (zP _ _),F.open' (zP _ _) (World.ownsRow_made (base:=wq.heap.size) (e:=4) (size:=1) wq #[] 0 (nA _) (by unfold maxLen;omega) (by simp))⟩
  ·obtain ⟨rfl,rfl⟩:b=true/\e=true:=by cases b <;> cases e <;> simp_all
   refine ⟨(a,true,true,d,true,f),rfl,wpOp_step rfl fun K hK=>?_⟩;obtain ⟨kb,rfl⟩:=h16 rfl rfl;obtain ⟨ck,-,-,hC,-,-⟩:=F.ow;refine qb6 qyk wq rfl _ _ rfl 0 (sG kb 0 0) 0 [] rfl (hC rfl).1 x.h.oa x.h.ol x.h.oc (fBo x.h.oH x.h.ol) rfl (qk0 _ _) (qzk hSh.o) (qup _ _) (by have:=HLh.o;omega) (nD _) ?_;intro v5 w5 o5 g5 hb5 _;rw [nL,List.nil_append] at o5
   have F':=F.openGrow (n':=x.h.ol) (H':=x.h.oH) o5 g5 fun k hk=>by
    rcases hb5 with h | h
    ·exact .inl (h.symm.trans hk)
    ·rw [h] at hk
     cases hk;exact .inr (nA _)
   refine hK _ _ ⟨fun _ _=>hS0 w5 F'.be,⟨hb1,(fun _=>⟨rfl,rfl⟩)⟩,v7,v11,v15,.slice (some ⟨kb,0,none⟩) 0 0,v5,v21,v22,v3,rfl,⟨h11,(fun _ h=>by cases h)⟩,(fun he=>?_),F'⟩;obtain ⟨N,e1,e2,e3,e4⟩:=hE he;have hn:=g5.block N e3.lt (F.ne6 ⟨he,e1⟩);exact ⟨N,e1,e2,e3.blk hn,fun j=>(zI hn).trans (e4 j)⟩
  ·obtain rfl:f=false:=he
   refine ⟨(a,b,false,d,e,true),rfl,wpOp_step rfl fun K hK=>?_⟩;go_simp;exact hK _ _ ⟨fun _ _=>hS _ (zP _ _),⟨hb1,hc1⟩,v7,v11,v15,v16,v20,v21,v22,.pointer (some ⟨wq.heap.size,0,none⟩),rfl,⟨h11,h16⟩,(fun _=>⟨_,rfl,F.be.size,BoxH.new wq _ _ _ _ _ _ _ _ _,fun j=>yA _ _ _ _ rfl⟩),F.box _ _ fun k hk=>.inr (by have:=hk.2;simp at this;exact this.symm)⟩
 rintro ⟨a,b,c,d,e,f⟩ y wq ⟨⟨hb1,hc1⟩,v7,v11,v15,v16,v20,v21,v22,v3,rfl,-,hE,F⟩ hs;obtain rfl:c=true:=hs;obtain ⟨rfl,rfl⟩:b=true/\e=true:=hc1 rfl;obtain ⟨rfl,rfl⟩:a=true/\d=true:=hb1 rfl;obtain ⟨ck,hS4,hC,hO,-,-⟩:=F.ow;obtain ⟨vp,v2,vw,vh,up,us,uw,uh,rfl,os⟩:=hS4 rfl;obtain ⟨a1,m1,rfl⟩:=zT os.p.row;obtain ⟨a2,m2,rfl⟩:=zT os.s.row;obtain ⟨a3,m3,rfl⟩:=zT os.t.row;obtain ⟨a4,m4,rfl⟩:=zT os.h.row;obtain ⟨a5,c5,rfl⟩:∃ a c,v15=.slice a x.h.cn c:=zT (hC rfl).1;obtain ⟨a6,c6,rfl⟩:∃ a c,v20=.slice a x.h.ol c:=zT (hO rfl).1;clear hS4 hC hO os hb1 hc1;refine qq8 (fun s:Bool × Bool × Bool=>#[true,true,true,true,true,true,true,true,true,true,true,true,true,true,true,true,s.2.1,s.2.2,s.1,false]) (fun s=>outI s.2.1 16 ++ (outI (s.2.2 || !s.2.1) 17 ++ outI s.1 18)) (fun s y wq=>(s.2.2=true->s.2.1=true)/\∃ v21 v22 v3,y=⟨#[.agg #[.slice x.s.pa x.s.pn x.s.pc,.slice x.s.sa x.s.sn x.s.sc,.slice x.s.wa x.s.wn x.s.wc,.slice x.s.ha x.s.hn x.s.hc,.bool x.h.on,.slice x.h.ca x.h.cn x.h.cc,.slice x.h.oa x.h.ol x.h.oc,.slice x.h.ka x.h.kn x.h.kc],.pointer (some ⟨w.heap.size,0,none⟩),.pointer (some ⟨w.heap.size+1,0,none⟩),v3,undef,.pointer (some ⟨w.heap.size,0,none⟩),.agg #[.slice x.s.pa x.s.pn x.s.pc,.slice x.s.sa x.s.sn x.s.sc,.slice x.s.wa x.s.wn x.s.wc,.slice x.s.ha x.s.hn x.s.hc],.agg #[.slice a1 x.s.y.pn m1,.slice a2 x.s.y.sn m2,.slice a3 x.s.y.wn m3,.slice a4 x.s.y.hn m4],.pointer (some ⟨w.heap.size,4,none⟩),.pointer (some ⟨w.heap.size,4,none⟩),.bool x.h.on,v11,.pointer (some ⟨w.heap.size,4,none⟩),.pointer (some ⟨w.heap.size,5,none⟩),.slice x.h.ca x.h.cn x.h.cc,.slice a5 x.h.cn c5,v16,.pointer (some ⟨w.heap.size,4,none⟩),.pointer (some ⟨w.heap.size,6,none⟩),.slice x.h.oa x.h.ol x.h.oc,.slice a6 x.h.ol c6,v21,v22,undef,undef,undef,undef,undef,undef,undef,undef,undef,undef,undef,undef,undef,undef,undef,undef,undef,undef,undef,undef,undef,undef,undef,undef],[]⟩/\(s.2.1=true->v21=.agg #[.bool x.h.on,.slice a5 x.h.cn c5,.slice a6 x.h.ol c6,nS])/\(s.2.2=true->v22=.agg #[.slice a1 x.s.y.pn m1,.slice a2 x.s.y.sn m2,.slice a3 x.s.y.wn m3,.slice a4 x.s.y.hn m4,.bool x.h.on,.slice a5 x.h.cn c5,.slice a6 x.h.ol c6,nS])/\(s.1=true->∃ N,v3=.pointer (some ⟨N,0,none⟩)/\W2.heap.size<=N/\BoxH wq N nS nS nS nS (.bool false) nS nS nS/\∀ j,wq.frozen? ⟨N,j,none⟩=false)/\PrL W2 W2.heap.size x.s.y { x.h.z with kn:=0 } true true true true (.agg #[.slice a1 x.s.y.pn m1,.slice a2 x.s.y.sn m2,.slice a3 x.s.y.wn m3,.slice a4 x.s.y.hn m4]) (.slice a5 x.h.cn c5) (.slice a6 x.h.ol c6) nS (fun k=>s.1=true/\v3=.pointer (some ⟨k,0,none⟩)) wq) (fun s=>s.2.2 && s.1) ?_ ?_ ?_ ?_ _ (f,false,false) _ _ _ rfl ⟨(fun e=>by cases e),v21,v22,v3,rfl,(fun e=>by cases e),(fun e=>by cases e),hE,F⟩ rfl
 ·rintro ⟨f,g,h⟩ hs
  cases f <;> cases g <;> cases h <;> first | exact absurd hs (by decide) | kernel_rfl
 ·rintro ⟨f,g,h⟩ hs
  cases f <;> cases g <;> cases h <;> first | exact absurd hs (by decide) | exact (by decide)
 ·rintro ⟨f,g,h⟩ y wq ⟨hgh,v21,v22,v3,rfl,h21,h22,hE,F⟩ hs
  have hE2:∀ wx,Below wq.heap.size wq wx->f=true->∃ N,v3=.pointer (some ⟨N,0,none⟩)/\W2.heap.size<=N/\BoxH wx N nS nS nS nS (.bool false) nS nS nS/\∀ j,wx.frozen? ⟨N,j,none⟩=false:=fun wx hb he=>by
   obtain ⟨N,e1,e2,e3,e4⟩:=hE he;have hl:=e3.lt;exact ⟨N,e1,e2,e3.bw hb,fun j=>((qap hb).2 _ j hl).trans (e4 j)⟩
  have hS:∀ wx,Below wq.heap.size wq wx->wx.cell? ⟨w.heap.size,0,none⟩=some (.slice x.s.pa x.s.pn x.s.pc)/\wx.cell? ⟨w.heap.size,1,none⟩=some (.slice x.s.sa x.s.sn x.s.sc)/\wx.cell? ⟨w.heap.size,2,none⟩=some (.slice x.s.wa x.s.wn x.s.wc)/\wx.cell? ⟨w.heap.size,3,none⟩=some (.slice x.s.ha x.s.hn x.s.hc)/\wx.cell? ⟨w.heap.size,4,none⟩=some (.bool x.h.on)/\wx.cell? ⟨w.heap.size,5,none⟩=some (.slice x.h.ca x.h.cn x.h.cc)/\wx.cell? ⟨w.heap.size,6,none⟩=some (.slice x.h.oa x.h.ol x.h.oc):=fun wx hb=>hS0 wx (F.be.trans (hb.mono F.be.size));intro i hi;rw [List.mem_append,List.mem_append] at hi
  rcases hi with hi | hi | hi
  all_goals obtain ⟨he,rfl⟩:=qlt hi
  ·obtain rfl:g=false:=he
   refine ⟨(f,true,h),rfl,wpOp_step rfl fun K hK=>?_⟩;go_simp;exact hK _ _ ⟨fun h _=>h,(fun _=>rfl),_,v22,v3,rfl,(fun _=>rfl),h22,hE,F⟩
  ·obtain ⟨rfl,rfl⟩:g=true/\h=false:=by cases g <;> cases h <;> simp_all
   refine ⟨(f,true,true),rfl,wpOp_step rfl fun K hK=>?_⟩;obtain rfl:=h21 rfl;go_simp;exact hK _ _ ⟨fun h _=>h,(fun _=>rfl),_,_,v3,rfl,(fun _=>rfl),(fun _=>rfl),hE,F⟩
  ·obtain rfl:f=false:=he
   refine ⟨(true,g,h),rfl,wpOp_step rfl fun K hK=>?_⟩;go_simp;exact hK _ _ ⟨fun _ _=>hS _ (zP _ _),hgh,v21,v22,.pointer (some ⟨wq.heap.size,0,none⟩),rfl,h21,h22,(fun _=>⟨_,rfl,F.be.size,BoxH.new wq _ _ _ _ _ _ _ _ _,fun j=>yA _ _ _ _ rfl⟩),F.box _ _ fun k hk=>.inr (by have:=hk.2;simp at this;exact this.symm)⟩
 rintro ⟨f,g,h⟩ y wq ⟨hgh,v21,v22,v3,rfl,h21,h22,hE,F⟩ hs;obtain ⟨rfl,rfl⟩:h=true/\f=true:=by cases f <;> cases h <;> simp_all
 obtain rfl:g=true:=hgh rfl;obtain rfl:=h21 rfl;obtain rfl:=h22 rfl;obtain ⟨N,rfl,nw,nb,nf⟩:=hE rfl;have nb':=nb;obtain ⟨r0,r1,r2,r3,r4,r5,r6,r7⟩:=nb;have nl:=nb'.lt;refine yW 19 rfl fun K hK=>?_;go_simp;refine hK.out _ _ (fun h=>absurd h (by decide)) ?_;clear hK K
 (try simp only [zD,zE,zF])
 refine yX ?_ _;have hX:∀ k,k=N->true=true/\(Value.pointer (some ⟨N,0,none⟩):Value)=.pointer (some ⟨k,0,none⟩):=fun k hk=>⟨rfl,by rw [hk]⟩
 have X5:Hid (PrL W2 W2.heap.size x.s.y { x.h.z with kn:=0 } true true true true (.agg #[.slice a1 x.s.y.pn m1,.slice a2 x.s.y.sn m2,.slice a3 x.s.y.wn m3,.slice a4 x.s.y.hn m4]) (.slice a5 x.h.cn c5) (.slice a6 x.h.ol c6) nS (fun k=>k=N) (set8 wq N (.slice a1 x.s.y.pn m1) (.slice a2 x.s.y.sn m2) (.slice a3 x.s.y.wn m3) (.slice a4 x.s.y.hn m4) (.bool x.h.on) (.slice a5 x.h.cn c5) (.slice a6 x.h.ol c6) nS)/\BoxH (set8 wq N (.slice a1 x.s.y.pn m1) (.slice a2 x.s.y.sn m2) (.slice a3 x.s.y.wn m3) (.slice a4 x.s.y.hn m4) (.bool x.h.on) (.slice a5 x.h.cn c5) (.slice a6 x.h.ol c6) nS) N (.slice a1 x.s.y.pn m1) (.slice a2 x.s.y.sn m2) (.slice a3 x.s.y.wn m3) (.slice a4 x.s.y.hn m4) (.bool x.h.on) (.slice a5 x.h.cn c5) (.slice a6 x.h.ol c6) nS/\(∀ j,(set8 wq N (.slice a1 x.s.y.pn m1) (.slice a2 x.s.y.sn m2) (.slice a3 x.s.y.wn m3) (.slice a4 x.s.y.hn m4) (.bool x.h.on) (.slice a5 x.h.cn c5) (.slice a6 x.h.ol c6) nS).frozen? ⟨N,j,none⟩=false)/\W2.heap.size<=N):=⟨(F.sub hX).put8 rfl nw _ _ _ _ _ _ _ _,qfj nb' _ _ _ _ _ _ _ _,fun i=>by unfold set8;simp only [World.frozen?_setCell];exact nf i,nw⟩
 unfold set8 at X5;clear F hX nb' r0 r1 r2 r3 r4 r5 r6 r7 nl nf hE hgh h21 h22 hs nw hS0;generalize ((((((((wq.setCell ⟨N,0,none⟩ (.slice a1 x.s.y.pn m1)).setCell ⟨N,1,none⟩ (.slice a2 x.s.y.sn m2)).setCell ⟨N,2,none⟩ (.slice a3 x.s.y.wn m3)).setCell ⟨N,3,none⟩ (.slice a4 x.s.y.hn m4)).setCell ⟨N,4,none⟩ (.bool x.h.on)).setCell ⟨N,5,none⟩ (.slice a5 x.h.cn c5)).setCell ⟨N,6,none⟩ (.slice a6 x.h.ol c6)).setCell ⟨N,7,none⟩ nS)=w5 at *;have hkn:(x.h.kn:Int)<=1048576:=by have:=HLh.k.1;omega
 go_wp2_with fail
 go_loopw [4] (fun i wr=>∃ k:Nat,k<=x.h.kn/\i=.int .i64 k/\Hid (∃ vk,PrL W2 W2.heap.size x.s.y { x.h.z with kn:=k } true true true true (.agg #[.slice a1 x.s.y.pn m1,.slice a2 x.s.y.sn m2,.slice a3 x.s.y.wn m3,.slice a4 x.s.y.hn m4]) (.slice a5 x.h.cn c5) (.slice a6 x.h.ol c6) vk (fun k=>k=N) wr/\BoxH wr N (.slice a1 x.s.y.pn m1) (.slice a2 x.s.y.sn m2) (.slice a3 x.s.y.wn m3) (.slice a4 x.s.y.hn m4) (.bool x.h.on) (.slice a5 x.h.cn c5) (.slice a6 x.h.ol c6) vk/\(∀ j,wr.frozen? ⟨N,j,none⟩=false)/\W2.heap.size<=N)) (fun i _=>x.h.kn - (intOf i).toNat)
 case atStart=>exact ⟨0,nD _,rfl,_,X5.out⟩
 case round=>
  clear X5;obtain ⟨k,hk,rfl,HJ⟩:=hrel;obtain ⟨vk,hj⟩:=HJ.out
  obtain ⟨ka,kc,rfl⟩:∃ a c,vk=.slice a k c:=by
   obtain ⟨ck,-,-,-,h4,-⟩:=hj.1.ow;obtain ⟨uk,ok⟩:=h4 rfl;exact zT ok.row
  have HJ':Hid (PrL W2 W2.heap.size x.s.y { x.h.z with kn:=k } true true true true (.agg #[.slice a1 x.s.y.pn m1,.slice a2 x.s.y.sn m2,.slice a3 x.s.y.wn m3,.slice a4 x.s.y.hn m4]) (.slice a5 x.h.cn c5) (.slice a6 x.h.ol c6) (.slice ka k kc) (fun k=>k=N) wr/\BoxH wr N (.slice a1 x.s.y.pn m1) (.slice a2 x.s.y.sn m2) (.slice a3 x.s.y.wn m3) (.slice a4 x.s.y.hn m4) (.bool x.h.on) (.slice a5 x.h.cn c5) (.slice a6 x.h.ol c6) (.slice ka k kc)/\(∀ j,wr.frozen? ⟨N,j,none⟩=false)/\W2.heap.size<=N):=hj;clear hj HJ;obtain ⟨b0,b1,b2,b3,b4,b5,b6,b7⟩:=(HRB.out wr HJ'.1.be).1;by_cases hlt:k<x.h.kn
  ·have hlt':(k:Int)<(x.h.kn:Int):=by omega
   go_wp2_with fail
   have hSh:=HH.out wr (BW.trans (HJ'.1.be.mono BW.size));obtain ⟨bq,oq,eq,s0⟩:=hSh.k.at hlt;rw [eq] at b7;have LSt:Hid (Src wr (x.h.kA k) (fZ (x.h.kH k) (x.h.kL k))/\x.h.kL k<=1048576):=⟨srcZ (hSh.l k hlt),HLh.k.2 k hlt⟩
   obtain ⟨-,-,-,-,-,-,-,x7⟩:=HJ'.2.1;have hlN:N<wr.heap.size:=HJ'.2.1.lt;have hb0w:w.heap.size<wr.heap.size:=zJ wr _ b7;have hbw:bq<wr.heap.size:=zJ wr _ s0;refine qa1 (fun w'=>w'.cell? ⟨N,7,none⟩=some (.slice ka k kc)/\w'.cell? ⟨w.heap.size,7,none⟩=some (.slice (some ⟨bq,oq,none⟩) x.h.kn x.h.kc)/\w'.cell? ⟨bq,oq+k,none⟩=some (.slice (x.h.kA k) (x.h.kL k) (x.h.kC k))) (fun i=>i == 15) (by kernel_rfl) ?_;have hHeld:(fun w':World=>w'.cell? ⟨N,7,none⟩=some (.slice ka k kc)/\w'.cell? ⟨w.heap.size,7,none⟩=some (.slice (some ⟨bq,oq,none⟩) x.h.kn x.h.kc)/\w'.cell? ⟨bq,oq+k,none⟩=some (.slice (x.h.kA k) (x.h.kL k) (x.h.kC k))) wr.drew:=⟨x7,b7,s0⟩
   refine qcn [0,1,2,4,5,6,7,8,9] ?_;iterate 9 (refine qdl rfl hHeld ?_)
   refine qb0 ?_;have hS9:∀ wx,Below wr.heap.size wr wx->(fun w':World=>w'.cell? ⟨N,7,none⟩=some (.slice ka k kc)/\w'.cell? ⟨w.heap.size,7,none⟩=some (.slice (some ⟨bq,oq,none⟩) x.h.kn x.h.kc)/\w'.cell? ⟨bq,oq+k,none⟩=some (.slice (x.h.kA k) (x.h.kL k) (x.h.kC k))) wx:=fun wx hb=>⟨((qap hb).1 _ _ hlN).trans x7,((qap hb).1 _ _ hb0w).trans b7,((qap hb).1 _ _ hbw).trans s0⟩
   refine yW 3 rfl fun K hK=>?_;go_simp;refine hK.out _ _ (fun _=>hS9 _ ((nE wr.heap.size wr).drew.alloc (nA _) _)) ?_;clear hK K hHeld
   (try simp only [Act.put,zD,zE,zF])
   refine yW 10 rfl fun K hK=>?_;refine qcm qu6 wr.drew rfl rfl _ _ rfl (x.h.kA k) (x.h.kL k) (x.h.kC k) (fZ (x.h.kH k) (x.h.kL k)) rfl rfl (qet _ _) (LSt.1.bw (nE wr.heap.size wr).drew) (qrr _ _) (zO LSt.2 (by omega)) ?_;intro v1 w1 o1 d1' n1;obtain ⟨a1',c1',rfl⟩:=zT o1;have q1:Below wr.heap.size wr w1:=(nE wr.heap.size wr).drew.trans d1';have O1:Hid (w1.ownsRow wr.heap.size 3 1 (.slice a1' (x.h.kL k) c1') (x.h.kL k) (fZ (x.h.kH k) (x.h.kL k))/\Below wr.heap.size wr w1):=⟨o1,q1⟩
   refine hK.out _ _ (fun _=>hS9 _ q1) ?_;clear o1 d1' n1 hK K
   (try simp only [Act.put,zD,zE,zF])
   refine yW 11 rfl fun K hK=>?_;go_simp;refine hK.out _ _ (fun _=>hS9 _ (q1.alloc (O1.2.size) _)) ?_;clear hK K
   (try simp only [Act.put,zD,zE,zF])
   refine yW 12 rfl fun K hK=>?_;obtain ⟨ck,-,-,-,h4,-⟩:=HJ'.1.ow;obtain ⟨uk,ok⟩:=h4 rfl;refine qb7 qry w1 rfl rfl _ _ rfl 0 (.slice ka k kc) k _ rfl (ok.bw O1.2).row #[.slice a1' (x.h.kL k) c1'] rfl rfl (by intro u hu;simp at hu;subst hu;rfl) (by have:=HLh.k.1;omega) (nD _) ?_;intro v3 w3 o3 g3 q3 n3;obtain ⟨a3',c3',rfl⟩:=zT o3;have hn:w3.heap[N]? = wr.heap[N]?:=(g3.block N (zL hlN q1.size) (HJ'.1.ne7 rfl)).trans (q1.block N hlN);have F':=HJ'.1.keptPush O1.2 O1.1 ok o3 g3 q3;have fn:∀ j,w3.frozen? ⟨N,j,none⟩=false:=fun j=>(zI hn).trans (HJ'.2.2.1 j)
   have XN : Hid (PrL W2 W2.heap.size x.s.y { x.h.z with kn := (k + 1) } true true true true (.agg #[.slice a1 x.s.y.pn m1, .slice a2 x.s.y.sn m2, .slice a3 x.s.y.wn m3, .slice a4 x.s.y.hn m4]) (.slice a5 x.h.cn c5) (.slice a6 x.h.ol c6) (.slice a3' (k + 1) c3') (fun k => k = N) (w3.setCell ⟨N, 7, none⟩ (.slice a3' (k + 1) c3')) ∧ BoxH (w3.setCell ⟨N, 7, none⟩ (.slice a3' (k + 1) c3')) N (.slice a1 x.s.y.pn m1) (.slice a2 x.s.y.sn m2) (.slice a3 x.s.y.wn m3) (.slice a4 x.s.y.hn m4) (.bool x.h.on) (.slice a5 x.h.cn c5) (.slice a6 x.h.ol c6) (.slice a3' (k + 1) c3') ∧ (∀ j, (w3.setCell ⟨N, 7, none⟩ (.slice a3' (k + 1) c3')).frozen? ⟨N, j, none⟩ = false) ∧ W2.heap.size ≤ N) := ⟨F'.put rfl HJ'.2.2.2 7 _, by
    obtain ⟨r0,r1,r2,r3,r4,r5,r6,r7⟩:=HJ'.2.1.blk hn
    refine ⟨?_,?_,?_,?_,?_,?_,?_,?_⟩ <;> go_cell,fun j=>by rw [World.frozen?_setCell];exact fn j,HJ'.2.2.2⟩
   have y7:w3.cell? ⟨N,7,none⟩=some (.slice ka k kc):=(zH hn).trans x7;have hb3:=(HRB.out w3 F'.be).1;obtain ⟨b2',o2',e2',s2'⟩:=(HH.out w3 (BW.trans (F'.be.mono BW.size))).k.at hlt;rw [eq] at e2';simp at e2';obtain ⟨rfl,rfl⟩:=e2';have hS3:(fun w':World=>w'.cell? ⟨N,7,none⟩=some (.slice ka k kc)/\w'.cell? ⟨w.heap.size,7,none⟩=some (.slice (some ⟨bq,oq,none⟩) x.h.kn x.h.kc)/\w'.cell? ⟨bq,oq+k,none⟩=some (.slice (x.h.kA k) (x.h.kL k) (x.h.kC k))) w3:=⟨y7,(hb3.2.2.2.2.2.2.2).trans (by rw [eq]),s2'⟩
   have z7:=hS3.1;refine hK.out _ _ (fun _=>⟨z7,hS3.2⟩) ?_;clear hK K
   (try simp only [Act.put,zD,zE,zF])
   refine yW 13 rfl fun K hK=>?_;go_simp;refine hK.out _ _ (fun _=>⟨z7,hS3.2⟩) ?_;clear hK K
   (try simp only [Act.put,zD,zE,zF])
   refine yW 14 rfl fun K hK=>?_;go_simp;refine hK.out _ _ (fun _=>⟨z7,hS3.2⟩) ?_;clear hK K
   (try simp only [Act.put,zD,zE,zF])
   refine yW 15 rfl fun K hK=>?_;go_simp;refine hK.out _ _ (fun h=>absurd h (by decide)) ?_;clear hK K
   (try simp only [Act.put,zD,zE,zF])
   refine yX ?_ _;clear b0 b1 b2 b3 b4 b5 b6 b7 x7 y7 z7 s0 s2' hb3 o3 g3 q3 n3 ok h4 F' fn hn hS9 hS3 hSh HJ' q1;go_wp2;go_roundw
   case rel=>exact ⟨k+1,by omega,by go_num,_,XN.1,XN.2.1,(fun j=>by simpa using XN.2.2.1 j),XN.2.2.2⟩
   case measure=>simp [intOf];omega
  ·have hkn2:k=x.h.kn:=by omega
   subst hkn2;clear b0 b1 b2 b3 b4 b5 b6;obtain ⟨p0,p1,p2,p3,p4,p5,p6,p7⟩:=HJ'.2.1;obtain ⟨⟨r0,r1,r2,r3,r4,r5,r6,r7⟩,rf,l1⟩:=(HRB.out wr HJ'.1.be).2;obtain ⟨vp,v2,vw,vh,ev,OL⟩:=HJ'.1.live;simp only [Value.agg.injEq,Array.mk.injEq,List.cons.injEq,and_true] at ev;obtain ⟨rfl,rfl,rfl,rfl⟩:=ev;have LV:Hid (qba wr W2.heap.size x.s.y x.h.z (.agg #[.slice a1 x.s.y.pn m1,.slice a2 x.s.y.sn m2,.slice a3 x.s.y.wn m3,.slice a4 x.s.y.hn m4,.bool x.h.on,.slice a5 x.h.cn c5,.slice a6 x.h.ol c6,.slice ka x.h.kn kc])/\Below W2.heap.size W2 wr):=⟨OL,HJ'.1.be⟩
   clear OL HJ';go_wp2;exact bodyPost_ret (v:=.agg #[.slice a1 x.s.y.pn m1,.slice a2 x.s.y.sn m2,.slice a3 x.s.y.wn m3,.slice a4 x.s.y.hn m4,.bool x.h.on,.slice a5 x.h.cn c5,.slice a6 x.h.ol c6,.slice ka x.h.kn kc]) (by simp [results,results21,go_sem,r0,r1,r2,r3,r4,r5,r6,r7]) rfl ⟨_,rfl,((LV.1.set8 LR.out _ _ _ _ _ _ _ _).base (nJ (Nat.lt_of_succ_lt LR.out))),qax (BW.trans (LV.2.mono BW.size)) hM _ _ _ _ _ _ _ _⟩
def SysIn.Wz (x:SysIn):Prop:=∀ i,i<x.wn->0<x.wL i->∃ b,x.wA i=some ⟨b,0,none⟩/\x.wL i<=x.wC i/\(x.wC i<=x.wL i\/x.wC i<=maxLen)
theorem qcc.g4 {w:World} {lo hi:Nat} {x:SysIn} {v:Value} (o:qcc w lo hi x v):∃ x':SysIn,v=x'.v/\SysG w x'/\x'.y=x.y/\(∀ i,i<x'.hn->x'.hL i<=x'.hC i)/\x'.Nn true/\x'.Wz:=by
 obtain ⟨D1,D2,D3,D4,b1,vs,b3,b4,h1,h2,h3,o⟩:=o;obtain ⟨q1,q2,q3,q4,-⟩:=o.hi
 have hst:∀ i,i<x.sn->∃ t:Option Addr × Nat × Option Addr × Nat,vs i=stV (x.sS i).p t.1 (x.sS i).rs.length t.2.1 t.2.2.1 (x.sS i).os.length t.2.2.2 (x.sS i).c/\w.cell? ⟨D2,i*4,none⟩=some (.int .i64 (x.sS i).p)/\w.cell? ⟨D2,i*4+1,none⟩=some (.slice t.1 (x.sS i).rs.length t.2.1)/\w.cell? ⟨D2,i*4+2,none⟩=some (.slice t.2.2.1 (x.sS i).os.length t.2.2.2)/\w.cell? ⟨D2,i*4+3,none⟩=some (.int .i64 (x.sS i).c):=by
  intro i hi;obtain ⟨ra,rc,oa,oc,e,c0,c1,c2,c3⟩:=o.ss.cel i hi;exact ⟨(ra,rc,oa,oc),e,c0,c1,c2,c3⟩
 have inh:Inhabited (Option Addr × Nat × Option Addr × Nat):=⟨(none,0,none,0)⟩
 obtain ⟨t,ht⟩:=Go.Deep.choose_lt hst;refine ⟨⟨some ⟨D1,0,none⟩,x.pn,x.pn,fun i=>some ⟨b1 i,0,none⟩,x.pL,x.pL,x.pH,some ⟨D2,0,none⟩,x.sn,x.sn,fun i=>⟨(x.sS i).p,(t i).1,(t i).2.1,(x.sS i).rs,(t i).2.2.1,(t i).2.2.2,(x.sS i).os,(x.sS i).c⟩,some ⟨D3,0,none⟩,x.wn,x.wn,fun i=>some ⟨b3 i,0,none⟩,x.wL,x.wL,x.wH,some ⟨D4,0,none⟩,x.hn,x.hn,fun i=>some ⟨b4 i,0,none⟩,x.hL,x.hL,x.hH⟩,o.val,?_,rfl,fun i _=>nA _,⟨fun i _=>.inl ⟨b3 i,0,rfl⟩,fun i _=>.inl ⟨b4 i,0,rfl⟩⟩,fun i _ _=>⟨b3 i,rfl,nA _,.inl (nA _)⟩⟩;have l1:=o.pp.lt;have l2:=o.ss.lt;have l3:=o.ww.lt;have l4:=o.hh.lt;refine ⟨.inr ⟨D1,0,rfl,by omega,fun i hi=>?_⟩,fun i hi=>⟨b1 i,rfl,zL (o.pp.bd i hi).2 o.pp.le,o.pp.row i hi⟩,⟨.inr ⟨D2,0,rfl,by omega,fun i hi=>?_⟩,fun i hi=>?_⟩,.inr ⟨D3,0,rfl,by omega,fun i hi=>?_⟩,fun i hi=>.inr ⟨b3 i,0,rfl,zL (o.ww.bd i hi).2 o.ww.le,o.ww.row i hi⟩,.inr ⟨D4,0,rfl,by omega,fun i hi=>?_⟩,fun i hi=>.inr ⟨b4 i,0,rfl,zL (o.hh.bd i hi).2 o.hh.le,o.hh.row i hi⟩⟩
 ·have:=o.pp.cel i hi
  simpa using this
 ·have:=(ht i hi).2
  simpa using this
 ·have h4:=o.ss.own i hi
  rw [(ht i hi).1] at h4;exact ⟨h4.parts.1.slOf,h4.parts.2.1.slOf⟩
 ·have:=o.ww.cel i hi
  simpa using this
 ·have:=o.hh.cel i hi
  simpa using this
theorem qb1.g4 {w:World} {lo hi:Nat} {x:LvIn} {v:Value} (o:qb1 w lo hi x v):∃ x':LvIn,v=x'.v/\LvG w x'/\x'.s.y=x.s.y/\x'.h.z=x.h.z/\(∀ i,i<x'.s.hn->x'.s.hL i<=x'.s.hC i)/\(x'.s.Nn true/\x'.s.Wz)/\x'.h.Nk:=by
 obtain ⟨D1,D2,D3,D4,E1,E2,E3,m,rfl,o1,o2⟩:=o;obtain ⟨x1,e1,g1,y1,c1,n1⟩:=o1.g4;obtain ⟨x2,e2,g2,z2,n2⟩:=o2.g3;refine ⟨⟨x1,x2⟩,?_,⟨g1,g2⟩,y1,z2,c1,n1,n2⟩;simp only [SysIn.v,Value.agg.injEq,Array.mk.injEq,List.cons.injEq,and_true] at e1;simp only [ShIn.v,Value.agg.injEq,Array.mk.injEq,List.cons.injEq,and_true] at e2;show _=Value.agg #[.slice x1.pa x1.pn x1.pc,.slice x1.sa x1.sn x1.sc,.slice x1.wa x1.wn x1.wc,.slice x1.ha x1.hn x1.hc,.bool x2.on,.slice x2.ca x2.cn x2.cc,.slice x2.oa x2.ol x2.oc,.slice x2.ka x2.kn x2.kc];rw [e1.1,e1.2.1,e1.2.2.1,e1.2.2.2,e2.1,e2.2.1,e2.2.2.1,e2.2.2.2]
def Sy.MkF (y:Sy) (J:Nat):Bool:=decide (y.wL J≠0) && (y.wH J 0).m
theorem qip (x:SysIn) (a b:Nat) (w:World) (hG:SysG w x) (hL:x.Len) (ha:a<4) (hb:b<4) (hp:x.pn<=4) (hJ:a*x.pn+b<x.wn):
  Calls prog 38 #[x.v,.int .i64 a,.int .i64 b] w (rB w (.bool (x.y.MkF (a*x.pn+b)))):=by
 have HQ:Hid (∀ wx,Below w.heap.size w wx->Calls prog 40 #[x.v,.int .i64 a,.int .i64 b] wx (rB wx (.agg #[.slice (x.wA (a*x.pn+b)) (x.wL (a*x.pn+b)) (x.wC (a*x.pn+b)),.int .i64 12]))):=fun wx hbw=>qc8 x a b wx (hG.bw hbw) ha hb hp hJ;have HF:Hid (∀ wx,Below w.heap.size w wx->Calls prog 101 #[.agg #[.slice (x.wA (a*x.pn+b)) (x.wL (a*x.pn+b)) (x.wC (a*x.pn+b)),.int .i64 12]] wx (rB wx (.tuple #[if x.wL (a*x.pn+b)=0 then itV false 0 else itV (x.wH (a*x.pn+b) 0).m (x.wH (a*x.pn+b) 0).v,.bool (decide (x.wL (a*x.pn+b)≠0))]))):=fun wx hbw=>quq _ _ _ _ _ wx (hL.w.2 _ hJ) ((hG.bw hbw).wi _ hJ);have HM:Hid (x.y.MkF (a*x.pn+b)=(decide (x.wL (a*x.pn+b)≠0) && (x.wH (a*x.pn+b) 0).m)):=rfl;generalize a*x.pn+b=J at *;clear hG hL hp hJ;have X0:Hid (Below w.heap.size w (w.alloc (oQ4 x.pa x.pn x.pc x.sa x.sn x.sc x.wa x.wn x.wc x.ha x.hn x.hc))):=zP _ _
 go_enter func38,ntmps38
 go_wp2_with fail
 generalize w.alloc (oQ4 x.pa x.pn x.pc x.sa x.sn x.sc x.wa x.wn x.wc x.ha x.hn x.hc)=wA at *;refine (HQ.out wA X0.out).mono ?_;rintro e w1 ⟨rfl,b1⟩;have X1:Hid (Below w.heap.size w w1):=X0.trans (b1.mono X0.size);clear b1 X0;go_wp2_with fail
 refine (HF.out w1 X1.out).mono ?_;rintro e w2 ⟨rfl,b2⟩;have X2:Hid (Below w.heap.size w w2):=X1.trans (b2.mono X1.size);clear b2 X1;by_cases h0:x.wL J=0
 ·have HE:Hid (x.y.MkF J=false):=by rw [HM.out,h0];rfl
  rw [nC h0,decide_eq_false (by simp [h0])];go_wp2;go_ret;exact ⟨qaf HE.symm,X2.alloc X2.size _⟩
 ·have HE:Hid (x.y.MkF J=(x.wH J 0).m):=by rw [HM.out,decide_eq_true h0];rfl
  rw [nB h0,decide_eq_true h0];generalize (x.wH J 0).m=m at *;generalize (x.wH J 0).v=v at *;have X3:Hid (Below w.heap.size w (w2.alloc (.cells #[.bool m,.int .i64 v] 74))):=X2.alloc X2.size _;go_upto_region 2 with fail
  have p0:(w2.alloc (.cells #[.bool m,.int .i64 v] 74)).cell? ⟨w2.heap.size,0,none⟩=some (.bool m):=zV w2 _ _ 0 rfl;have p1:(w2.alloc (.cells #[.bool m,.int .i64 v] 74)).cell? ⟨w2.heap.size,1,none⟩=some (.int .i64 v):=zV w2 _ _ 1 rfl;generalize w2.alloc (.cells #[.bool m,.int .i64 v] 74)=w3 at *;go_wp2_with fail
  refine (qj4 m v w3).mono ?_;rintro e w4 ⟨rfl,b4⟩;have X4:Hid (Below w.heap.size w w4):=X3.trans (b4.mono X3.size);clear b4 X3 X2 p0 p1;go_wp2;go_ret;exact ⟨qaf HE.symm,X4.out⟩
theorem qw6 (W1:World) (y:Sy) (q:Sh) (fs fc fk:Bool) (vs vc vk:Value) (X:Nat->Prop) (w:World) (P J g6 c6:Nat) (n:Int) (v0 v1 v3:Value) (F:PrL W1 W1.heap.size y q fs fc true fk vs vc (sG g6 q.ol c6) vk X w) (hX:X P) (hP:W1.heap.size<=P) (h:PicL w P 0 v0 v1 (sG g6 q.ol c6) v3 n) (hJ:J<q.ol) (ho:q.ol<=1048576):
  Calls prog 42 #[.pointer (some ⟨P,0,none⟩),.int .i64 J] w fun e w'=>e=.returned (.tuple #[])/\PicL w' P 0 v0 v1 (sG g6 q.ol c6) v3 n/\PrL W1 W1.heap.size y { q with oH:=fun i=>if i=J then false else q.oH i } fs fc true fk vs vc (sG g6 q.ol c6) vk X w'/\∀ k,k≠P->k≠g6->w'.heap[k]? = w.heap[k]?:=by
 have HP:Hid (X P/\W1.heap.size<=P):=⟨hX,hP⟩
 have HJ:Hid (J<q.ol):=hJ;have hJ':(J:Int)<(q.ol:Int):=by omega
 have ho':(q.ol:Int)<=1048576:=by omega
 have X0:Hid (PrL W1 W1.heap.size y q fs fc true fk vs vc (sG g6 q.ol c6) vk X w/\PicL w P 0 v0 v1 (sG g6 q.ol c6) v3 n):=⟨F,h⟩
 clear F hX hP h ho
 go_enter_defers func42,ntmps42
 go_wp2_with fail
 refine (qlf P 0 w X0.2.l0 (X0.2.fz 0)).mono ?_;rintro e w1 ⟨rfl,rfl⟩;have X1:Hid (PrL W1 W1.heap.size y q fs fc true fk vs vc (sG g6 q.ol c6) vk X (w.setCell ⟨P,0,none⟩ (.int .i32 1))/\PicL (w.setCell ⟨P,0,none⟩ (.int .i32 1)) P 1 v0 v1 (sG g6 q.ol c6) v3 n):=⟨X0.1.put HP.1 HP.2 0 _,X0.2.setL⟩
 have K1:Hid (∀ k,k≠P->k≠g6->(w.setCell ⟨P,0,none⟩ (.int .i32 1)).heap[k]? = w.heap[k]?):=fun k h1 _=>zN _ _ _ _ fun e=>h1 e;clear X0;generalize w.setCell ⟨P,0,none⟩ (.int .i32 1)=w1 at *;obtain ⟨ck,-,-,hO,-,-⟩:=X1.1.ow;have oo:OwnQ w1 0 (sG g6 q.ol c6) q.ol q.oH:=(hO rfl).1;have cg:=World.ownsRow.cellAt oo J (by omega);rw [qes hJ] at cg;have cf:=World.ownsRow.frozenAt oo J;have s2:=X1.2.s2;have h6:P≠g6:=fun e=>X1.1.ne6 HP.1 (by rw [e];rfl);have hg6:g6≠P:=fun e=>h6 e.symm;have X2:Hid (PrL W1 W1.heap.size y { q with oH:=fun i=>if i=J then false else q.oH i } fs fc true fk vs vc (sG g6 q.ol c6) vk X (w1.setCell ⟨g6,J,none⟩ (.bool false))/\PicL (w1.setCell ⟨g6,J,none⟩ (.bool false)) P 1 v0 v1 (sG g6 q.ol c6) v3 n):=⟨PrL.openAt X1.1 J false,X1.2.blk (zN _ _ _ _ fun e=>h6 e)⟩
 have K2:Hid (∀ k,k≠P->k≠g6->(w1.setCell ⟨g6,J,none⟩ (.bool false)).heap[k]? = w.heap[k]?):=fun k h1 h2=>(zN _ _ _ _ fun e=>h2 e).trans (K1.out k h1 h2);clear K1 hO oo h6;have l0:=X2.2.l0;have f0:=X2.2.fz 0;go_wp2;refine leaves_cons (f:=79) (args:=#[.pointer (some ⟨P,0,none⟩)]) (by simp) (by simp [go_sem]) ?_;refine (qc1 ⟨P,0,none⟩ .returning _ l0 f0).mono ?_;rintro e u' w'' ⟨rfl,rfl,rfl⟩;exact ⟨_,results_none rfl _ _ _,rfl,X2.2.setL,X2.1.put HP.1 HP.2 0 _,fun k h1 h2=>(zN _ _ _ _ fun e=>h1 e).trans (K2.out k h1 h2)⟩
