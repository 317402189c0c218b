/- Proved: whatever bytes are drawn by, a drawn run ends where something first became so behind a step that was done, and not before it, with the system that these steps make; where it never became so, all steps are gone through; nothing is written into what came in. One condition, tied to the program's text: errors.errorType holds what its text lays. -/
import Derived.Test.YtlhikgdcgpgolaaGreatDoorBh0
import Derived.Test.YtlhikgdcgpgolaaGreatDoorBh32
import Derived.Test.YtlhikgdcgpgolaaGreatDoorBh31
import Derived.Test.YtlhikgdcgpgolaaGreatDoorBh33
import Derived.Deep.CutRange
import Derived.Test.YtlhikgdcgpgolaaGreatDoorBh11
import Derived.Test.YtlhikgdcgpgolaaGreatDoorCards
import Derived.SevenTiedAt
namespace Go.Proofs.YtlhikgdcgpgolaaGreatDoor
set_option maxRecDepth 100000
set_option maxHeartbeats 8000000
open Go.ChangeShapes Go.WideShapes Go.ChangeAt Go.RowKit Go.Deep
theorem fsN_facts (f:Nat->Bool):∀ m i,i<=fsN f m i/\(∀ j,i<=j->j+1<fsN f m i->f j=false)/\(fsN f m i<i+m->i<fsN f m i/\f (fsN f m i - 1)=true)
 | 0,i=>by
  unfold fsN
  exact ⟨Nat.le_refl _,fun j h1 h2=>by omega,fun h=>by omega⟩
 | m+1,i=>by
  unfold fsN
  by_cases h:f i=true
  ·rw [if_pos h]
   exact ⟨by omega,fun j h1 h2=>by omega,fun _=>⟨by omega,by simpa using h⟩⟩
  ·rw [if_neg h]
   obtain ⟨h1,h2,h3⟩:=fsN_facts f m (i+1)
   refine ⟨by omega,fun j g1 g2=>?_,fun g=>?_⟩
   ·by_cases hj:j=i
    ·subst hj
     simpa using h
    ·exact h2 j (by omega) g2
   ·obtain ⟨g1,g2⟩:=h3 (by omega)
    exact ⟨by omega,g2⟩
theorem stY_no {y:Sy} (h:y.Ok) {p f:Int} (hc:stC y p f≠0):stY y p f=y:=by
 unfold stC at hc
 unfold Go.Proofs.YtlhikgdcgpgolaaGreatDoor.stY
 have ho:=Sy.okB_true h
 rw [if_pos ho] at hc ⊢
 by_cases hb:belB p y.pn=true
 ·rw [if_pos hb] at hc ⊢
  exact Sy.step_no hc
 ·rw [if_neg hb]
theorem until_facts (y:Sy) (h:Nat->Pk2) (n:Nat) (p k v:Int):(unC y h n p k v = -1/\(unY y h n p k v).pn=0)\/∃ N:Nat,unC y h n p k v=N/\N<=n/\unY y h n p k v=utY y h N/\y.Ok/\(∀ j,j+1<N->utF y h p k v j=false)/\(N<n->hsB (utY y h N) p k v=true):=by
 unfold unC unY
 by_cases hb:unB y p k n=true
 ·rw [if_pos hb,if_pos hb]
  have hO:y.Ok:=by
   simp only [unB,Bool.and_eq_true] at hb
   have h9:=hb.1
   simp only [spB,Bool.and_eq_true] at h9
   exact Sy.ok_of h9.2.2
  obtain ⟨-,h2,h3⟩:=fsN_facts (utF y h p k v) n 0
  have h4:=fsN_le (utF y h p k v) n 0
  generalize fsN (utF y h p k v) n 0=R at *
  refine .inr ⟨_,rfl,by omega,rfl,hO,fun j hj=>h2 j (Nat.zero_le _) hj,fun hlt=>?_⟩
  obtain ⟨g1,g2⟩:=h3 (by omega)
  unfold utF at g2
  simp only [Bool.and_eq_true] at g2
  have g3:=g2.2
  rw [show R - 1+1=R by omega] at g3
  exact g3
 ·rw [if_neg hb,if_neg hb]
  exact .inl ⟨rfl,rfl⟩
structure LJ (w wr:World) (X Z:Nat) (x:SysIn) (p k v:Int):Prop where
 j:WJ w wr X x
 s:St3 wr Z p k v
theorem LJ.below {w wr w':World} {X Z:Nat} {x:SysIn} {p k v:Int} (h:LJ w wr X Z x p k v) (hb:Below wr.heap.size wr w'):LJ w w' X Z x p k v:=⟨h.j.below hb,h.s.blk (hb.block _ h.s.lt)⟩
theorem LJ.cs {w wr:World} {X Z:Nat} {x:SysIn} {p kd v:Int} (h:LJ w wr X Z x p kd v):BoxC wr X (.slice x.pa x.pn x.pc) (.slice x.sa x.sn x.sc) (.slice x.wa x.wn x.wc) (.slice x.ha x.hn x.hc)/\wr.cell? ⟨Z,0,none⟩=some (.int .i64 p)/\wr.cell? ⟨Z,1,none⟩=some (.int .i64 kd)/\wr.cell? ⟨Z,2,none⟩=some (.int .i64 v):=⟨h.j.bx,h.s.c0,h.s.c1,h.s.c2⟩
structure UJ (w wr:World) (X Z:Nat) (x:SysIn) (p k v:Int) (la:Option Addr) (n:Nat) (h:Nat->Pk2):Prop where
 j:LJ w wr X Z x p k v
 pl:PkL wr la n h
theorem UJ.below {w wr w':World} {X Z:Nat} {x:SysIn} {p k v:Int} {la:Option Addr} {n:Nat} {h:Nat->Pk2} (d:UJ w wr X Z x p k v la n h) (hb:Below wr.heap.size wr w'):UJ w w' X Z x p k v la n h:=⟨d.j.below hb,d.pl.below hb⟩
structure UnU (W0:World) (xu:SysIn) (wr:World):Prop where
 b:Below W0.heap.size W0 wr
 g:SysG wr xu
 bx:BoxC wr W0.heap.size (.slice xu.pa xu.pn xu.pc) (.slice xu.sa xu.sn xu.sc) (.slice xu.wa xu.wn xu.wc) (.slice xu.ha xu.hn xu.hc)
 f:∀ j,wr.frozen? ⟨W0.heap.size,j,none⟩=false
 l:xu.Len
 n:xu.Nn false
theorem UnU.below {W0 wr w':World} {xu:SysIn} (h:UnU W0 xu wr) (hb:Below wr.heap.size wr w'):UnU W0 xu w':=⟨h.b.trans (hb.mono h.b.size),h.g.below hb,h.bx.below hb,fun j=>((bcell hb).2 _ j (zJ wr _ h.bx.1)).trans (h.f j),h.l,h.n⟩
def UnK (W0:World) (x:SysIn) (h:Nat->Pk2) (j:Nat) (wr:World):Prop:=∃ xu,UnU W0 xu wr/\xu.y=utY x.y h j
theorem untilDLaw_small (a0:Option Addr) (len cap:Nat) (w:World) (hl:len<=1048576) (hB:BytesAt w w.heap.size a0 len) (hV:w.cell? ⟨0,0,none⟩=some (.iface 222 (.agg #[.pointer (some ⟨1,171,none⟩)]))):
  Calls Tryz.prog 3 #[.slice a0 len cap] w fun e w'=>e=.returned (.bool true)/\Below w.heap.size w w':=by
 have HB:Hid (BytesAt w w.heap.size a0 len):=hB
 have HV:Hid (∀ wx,Below w.heap.size w wx->wx.cell? ⟨0,0,none⟩=some (.iface 222 (.agg #[.pointer (some ⟨1,171,none⟩)]))):=fun wx hb=>(hb.cell (p:=⟨0,0,none⟩) (zJ w _ hV)).trans hV
 clear hB hV
 go_enter Tryz.func3,Tryz.ntmps3
 go_wp2_with fail
 refine (big_any a0 len cap w).mono ?_
 rintro e w1 ⟨rfl,e1⟩
 obtain rfl:=e1.symm
 rw [decide_eq_false (show ¬ (1048576:Int)<(len:Int) by omega)]
 go_wp2_with fail
 refine (DrawUntil_any w.heap.size len cap a0 w HB.out (Nat.le_refl _) hl).mono ?_
 rintro e w2 ⟨x,B,T,p,kd,v,la,n,lc,h,rfl,hm,hX,hP,hn,b2⟩
 have HM:Hid (x.Len/\(∀ i,i<x.hn->x.hL i<=x.hC i)/\x.Nn false/\n<=200):=⟨hm.inLen,hX.cap,hX.nn,hn⟩
 have bA:=(zQ w2 (oQ4 x.pa x.pn x.pc x.sa x.sn x.sc x.wa x.wn x.wc x.ha x.hn x.hc)).trans ((zQ (w2.alloc (oQ4 x.pa x.pn x.pc x.sa x.sn x.sc x.wa x.wn x.wc x.ha x.hn x.hc)) (oQ5 p kd v)).mono (by simp))
 have K2:Hid (UJ w ((w2.alloc (oQ4 x.pa x.pn x.pc x.sa x.sn x.sc x.wa x.wn x.wc x.ha x.hn x.hc)).alloc (oQ5 p kd v)) w2.heap.size (w2.heap.size+1) x p kd v la n h):=by
  have h3:=St3.new (w2.alloc (oQ4 x.pa x.pn x.pc x.sa x.sn x.sc x.wa x.wn x.wc x.ha x.hn x.hc)) p kd v 32
  rw [World.size_alloc] at h3
  exact ⟨⟨⟨hX.self.below bA,(BoxC.new w2 _ _ _ _ _).below (zQ _ _),b2.trans (bA.mono b2.size)⟩,h3⟩,hP.below bA⟩
 clear hX b2 hm HB bA hP hn
 go_upto_region 4 with fail
 generalize (w2.alloc (oQ4 x.pa x.pn x.pc x.sa x.sn x.sc x.wa x.wn x.wc x.ha x.hn x.hc)).alloc (oQ5 p kd v)=W2 at *
 generalize hZ:w2.heap.size+1=Z at *
 generalize w2.heap.size=X at *
 clear hZ w2
 have hF0:=until_facts x.y h n p kd v
 obtain ⟨C,hC⟩:∃ C,unC x.y h n p kd v=C:=⟨_,rfl⟩
 obtain ⟨Y,hY⟩:∃ Y,unY x.y h n p kd v=Y:=⟨_,rfl⟩
 rw [hC,hY] at hF0
 have HF:Hid ((C = -1/\Y.pn=0)\/∃ N:Nat,C=N/\N<=n/\Y=utY x.y h N/\x.y.Ok/\(∀ j,j+1<N->utF x.y h p kd v j=false)/\(N<n->hsB (utY x.y h N) p kd v=true)):=hF0
 have HUi:Hid (∀ wx,UJ w wx X Z x p kd v la n h->Calls Tryz.prog 6 #[x.v,.slice la n lc,spV p kd v] wx fun e w'=>∃ u,e=.returned (.tuple #[u,.int .i64 C])/\OwnSys false w' wx.heap.size Y u/\Below wx.heap.size wx w'):=fun wx hd=>by
  rw [<- hC,<- hY]
  exact implUntil_any x la n lc h p kd v wx hd.j.j.g HM.out.1 HM.out.2.2.1 hd.pl (by have:=HM.out.2.2.2;omega) (HV.out _ hd.j.j.be)
 have HUs:Hid (∀ wx,UJ w wx X Z x p kd v la n h->Calls Tryz.prog 7 #[x.v,.slice la n lc,spV p kd v] wx fun e w'=>∃ u,e=.returned (.tuple #[u,.int .i64 C])/\OwnSys true w' wx.heap.size Y u/\Below wx.heap.size wx w'):=fun wx hd=>by
  rw [<- hC,<- hY]
  exact specUntil_any x la n lc h p kd v wx hd.j.j.g HM.out.1 HM.out.2.1 hd.pl (by have:=HM.out.2.2.2;omega)
 clear hF0 hC hY
 obtain ⟨⟨z0,z1,z2,z3⟩,y0,y1,y2⟩:=K2.out.j.cs
 go_wp2_with fail
 clear z0 z1 z2 z3 y0 y1 y2
 refine (HUi.out W2 K2.out).mono ?_
 rintro e w3 ⟨u3,rfl,o3,d3⟩
 obtain ⟨x',rfl,ey3,g3,-,-⟩:=o3.inJ
 have K3:Hid (UJ w (w3.alloc (oQ4 x'.pa x'.pn x'.pc x'.sa x'.sn x'.sc x'.wa x'.wn x'.wc x'.ha x'.hn x'.hc)) X Z x p kd v la n h/\WJ w (w3.alloc (oQ4 x'.pa x'.pn x'.pc x'.sa x'.sn x'.sc x'.wa x'.wn x'.wc x'.ha x'.hn x'.hc)) w3.heap.size x'/\x'.y=Y):=⟨(K2.out.below d3).below (zQ _ _),⟨g3.below (zQ _ _),BoxC.new _ _ _ _ _ _,((K2.out.below d3).below (zQ _ _)).j.j.be⟩,ey3⟩
 clear o3 ey3 g3 d3 K2 HUi
 go_upto_region 5 with fail
 generalize w3.alloc (oQ4 x'.pa x'.pn x'.pc x'.sa x'.sn x'.sc x'.wa x'.wn x'.wc x'.ha x'.hn x'.hc)=W3 at *
 generalize w3.heap.size=Yb at *
 clear w3
 obtain ⟨⟨z0,z1,z2,z3⟩,y0,y1,y2⟩:=K3.out.1.j.cs
 go_wp2_with fail
 clear z0 z1 z2 z3 y0 y1 y2
 refine (HUs.out W3 K3.out.1).mono ?_
 rintro e w4 ⟨u4,rfl,o4,d4⟩
 obtain ⟨x2,rfl,-,-,-,-⟩:=o4.inJ
 have K4:Hid (UJ w (w4.alloc (oQ4 x2.pa x2.pn x2.pc x2.sa x2.sn x2.sc x2.wa x2.wn x2.wc x2.ha x2.hn x2.hc)) X Z x p kd v la n h/\WJ w (w4.alloc (oQ4 x2.pa x2.pn x2.pc x2.sa x2.sn x2.sc x2.wa x2.wn x2.wc x2.ha x2.hn x2.hc)) Yb x'/\x'.y=Y):=⟨(K3.out.1.below d4).below (zQ _ _),(K3.out.2.1.below d4).below (zQ _ _),K3.out.2.2⟩
 clear o4 d4 K3 HUs
 go_upto_region 6 with fail
 generalize w4.alloc (oQ4 x2.pa x2.pn x2.pc x2.sa x2.sn x2.sc x2.wa x2.wn x2.wc x2.ha x2.hn x2.hc)=W4 at *
 generalize w4.heap.size=M8 at *
 clear w4
 have hCC:(C != C)=false:=by simp
 rcases HF.out with ⟨rfl,hp0⟩ | ⟨N,rfl,hNn,rfl,hO,hf,hs⟩
 ·have hp9:x'.pn=0:=by
   have h9:=congrArg (fun y:Sy=>y.pn) K4.out.2.2
   exact h9.trans hp0
  obtain ⟨t0,-,-,-⟩:=K4.out.2.1.bx
  rw [hp9] at t0
  have KB:Hid (Below w.heap.size w W4):=K4.out.1.j.j.be
  clear K4 HF hp9 hp0
  go_wp2
  go_ret
  exact ⟨rfl,KB.out⟩
 have HN:Hid (N<=n/\x.y.Ok/\(∀ j,j+1<N->utF x.y h p kd v j=false)/\(N<n->hsB (utY x.y h N) p kd v=true)):=⟨hNn,hO,hf,hs⟩
 have hN0:¬ (N:Int)<0:=by omega
 have hN2:(N:Int)<=200:=by have:=HM.out.2.2.2;omega
 clear hO hf hs HF hNn
 obtain ⟨z0,z1,z2,z3⟩:=K4.out.1.j.cs.1
 go_wp2_with fail
 clear z0 z1 z2 z3
 have D0:Hid (UJ w W4 X Z x p kd v la n h/\WJ w W4 Yb x'/\x'.y=utY x.y h N):=K4.out
 have M5:Hid (UnU W4 x (W4.alloc (oQ4 x.pa x.pn x.pc x.sa x.sn x.sc x.wa x.wn x.wc x.ha x.hn x.hc))):=⟨zQ _ _,K4.out.1.j.j.g.below (zQ _ _),BoxC.new _ _ _ _ _ _,fun j=>yB _ _ _ _ rfl,HM.out.1,HM.out.2.2.1⟩
 clear K4 hCC hN0
 generalize W4.alloc (oQ4 x.pa x.pn x.pc x.sa x.sn x.sc x.wa x.wn x.wc x.ha x.hn x.hc)=W5 at *
 go_loopw [11] (fun i wr=>∃ j:Nat,j<=N/\i=.int .i64 (j:Nat)/\Hid (UnK W4 x h j wr)) (fun i _=>N - (intOf i).toNat)
 case atStart=>exact ⟨0,Nat.zero_le _,rfl,x,M5.out,rfl⟩
 case round=>
  clear M5
  rename World=>wr
  obtain ⟨j,hj,rfl,HK⟩:=hrel
  by_cases hjt:j<N
  case neg=>
   have hjn:j=N:=by omega
   have hjt':¬ (j:Int)<(N:Int):=by omega
   obtain ⟨xu,ku,mu⟩:=HK.out
   have K14 : Hid (UJ w wr X Z x p kd v la n h ∧ WJ w wr Yb x' ∧ WJ w wr W4.heap.size xu ∧ xu.y = x'.y ∧ x'.Len) := ⟨D0.out.1.below ku.b, D0.out.2.1.below ku.b, ⟨ku.g, ku.bx, (D0.out.1.below ku.b).j.j.be⟩, by rw [D0.out.2.2, mu, hjn], by
    have h9:=(utY_ok HN.out.2.1 h N).sm
    rw [<- D0.out.2.2] at h9
    exact h9.inLen⟩
   clear hjn ku mu HK
   obtain ⟨s0,s1,s2,s3⟩:=K14.out.2.1.bx
   obtain ⟨t0,t1,t2,t3⟩:=K14.out.2.2.1.bx
   by_cases hE:N=n
   ·have hEE:((N:Int) == (n:Int))=true:=by simp [hE]
    clear hE
    go_wp2_with (go_at_call 10;refine (sameHist_same x' xu _ K14.out.2.2.2.1 K14.out.2.1.g K14.out.2.2.1.g K14.out.2.2.2.2).mono ?_;rintro e w8 ⟨rfl,d8⟩;have K8:Hid (Below w.heap.size w w8):=(K14.out.2.1.below d8).be;clear d8 s0 s1 s2 s3 t0 t1 t2 t3)
    go_ret
    exact ⟨rfl,K8.out⟩
   ·have hEE:((N:Int) == (n:Int))=false:=by
     have:¬ (N:Int)=(n:Int):=by omega
     simpa using this
    have HH:Hid (∀ wx,WJ w wx Yb x'->Calls Tryz.prog 9 #[x'.v,spV p kd v] wx fun e w'=>e=.returned (.bool true)/\Below wx.heap.size wx w'):=fun wx hw=>by
     have h9:=implHolds_any x' p kd v wx hw.g K14.out.2.2.2.2 (HV.out _ hw.be)
     have h8:=HN.out.2.2.2 (by have:=HN.out.1;omega)
     rw [<- D0.out.2.2] at h8
     rw [h8] at h9
     exact h9
    clear hE
    obtain ⟨y0,y1,y2⟩:=K14.out.1.j.cs.2
    go_wp2_with (first|(go_at_call 10;refine (sameHist_same x' xu _ K14.out.2.2.2.1 K14.out.2.1.g K14.out.2.2.1.g K14.out.2.2.2.2).mono ?_;rintro e w8 ⟨rfl,d8⟩;have K8:Hid (WJ w w8 Yb x'/\UJ w w8 X Z x p kd v la n h):=⟨K14.out.2.1.below d8,K14.out.1.below d8⟩;clear d8 s0 s1 s2 s3 t0 t1 t2 t3 y0 y1 y2;obtain ⟨s0,s1,s2,s3⟩:=K8.out.1.bx;obtain ⟨y0,y1,y2⟩:=K8.out.2.j.cs.2)|(go_at_call 9;refine (HH.out _ K8.out.1).mono ?_;rintro e w9 ⟨rfl,d9⟩;have K9:Hid (Below w.heap.size w w9):=(K8.out.1.below d9).be;clear d9 s0 s1 s2 s3 y0 y1 y2))
    go_ret
    exact ⟨rfl,K9.out⟩
  have hjt':(j:Int)<(N:Int):=by omega
  have hjn9:j<n:=by have:=HN.out.1;omega
  have hjn':(j:Int)<(n:Int):=by omega
  obtain ⟨xu,ku,mu⟩:=HK.out
  obtain ⟨A,hA⟩:∃ A,(h j).m=A:=⟨_,rfl⟩
  obtain ⟨F,hFF⟩:∃ F,(h j).v=F:=⟨_,rfl⟩
  have hok:xu.y.Ok:=by rw [mu];exact utY_ok HN.out.2.1 h j
  have hcf:stY xu.y A F=utY x.y h (j+1):=by rw [<- hA,<- hFF,mu];rfl
  have hno:stC xu.y A F≠0->stY xu.y A F=xu.y:=fun hc=>stY_no hok hc
  have hho:stC xu.y A F=0->j+1<N->hsB (stY xu.y A F) p kd v=false:=fun hc hlt=>by
   have h9:=HN.out.2.2.1 j hlt
   unfold utF at h9
   rw [hA,hFF,<- mu,hc,<- hcf] at h9
   simpa using h9
  have hsm:(stY xu.y A F).Sm:=by rw [hcf];exact (utY_ok HN.out.2.1 h (j+1)).sm
  obtain ⟨bv,ov,ev,-,c0,c1⟩:=(D0.out.1.below ku.b).pl.at hjn9
  rw [hA] at c0
  rw [hFF] at c1
  have HST:Hid (∀ wx,Below wr.heap.size wr wx->Calls Tryz.prog 8 #[.agg #[.slice xu.pa xu.pn xu.pc,.slice xu.sa xu.sn xu.sc,.slice xu.wa xu.wn xu.wc,.slice xu.ha xu.hn xu.hc],.int .i64 A,.int .i64 F] wx fun e w'=>∃ v,e=.returned (.tuple #[v,.int .i64 (stC xu.y A F)])/\OwnSys false w' wx.heap.size (stY xu.y A F) v/\Below wx.heap.size wx w'):=fun wx hb=>implStep_any (z:=false) xu A F wx (ku.below hb).g ku.l ku.n (HV.out _ (D0.out.1.below (ku.below hb).b).j.j.be)
  obtain ⟨YW,hYW⟩:∃ YW,stY xu.y A F=YW:=⟨_,rfl⟩
  obtain ⟨CW,hCW⟩:∃ CW,stC xu.y A F=CW:=⟨_,rfl⟩
  rw [hYW] at hcf hno hho hsm
  rw [hCW] at hno hho
  rw [hYW,hCW] at HST
  have HG:Hid (YW=utY x.y h (j+1)/\(CW≠0->YW=xu.y)/\(CW=0->j+1<N->hsB YW p kd v=false)/\YW.Sm):=⟨hcf,hno,hho,hsm⟩
  have HU2:Hid (UnU W4 xu wr):=ku
  have HS1:Hid (∀ wx,Below wr.heap.size wr wx->BoxC wx W4.heap.size (.slice xu.pa xu.pn xu.pc) (.slice xu.sa xu.sn xu.sc) (.slice xu.wa xu.wn xu.wc) (.slice xu.ha xu.hn xu.hc)/\wx.cell? ⟨bv,ov+j*2,none⟩=some (.int .i64 A)/\wx.cell? ⟨bv,ov+j*2+1,none⟩=some (.int .i64 F)):=fun wx hb=>⟨ku.bx.below hb,(hb.cell (p:=⟨bv,_,none⟩) (zJ wr _ c0)).trans c0,(hb.cell (p:=⟨bv,_,none⟩) (zJ wr _ c1)).trans c1⟩
  subst ev
  clear hcf hno hho hsm hYW hCW hA hFF hok ku mu c0 c1 HK
  go_upto_region 14 with fail
  have Q1:Below wr.heap.size wr wr.drew:=(Below.refl wr.heap.size wr).drew
  go_cut [12,13] from 51 to 65 (fun s t wx=>∃ N:Nat,s=.pointer (some ⟨N,0,none⟩)/\t=.int .i64 CW/\Hid (∃ pa pc sa sc wa wc ha hc,OwnSys false wx wr.heap.size YW (.agg #[.slice pa YW.pn pc,.slice sa YW.sn sc,.slice wa YW.wn wc,.slice ha YW.hn hc])/\Below wr.heap.size wr wx/\BoxC wx N (.slice pa YW.pn pc) (.slice sa YW.sn sc) (.slice wa YW.wn wc) (.slice ha YW.hn hc)))
  case first=>
   refine wp_region_G (fun w'=>BoxC w' W4.heap.size (.slice xu.pa xu.pn xu.pc) (.slice xu.sa xu.sn xu.sc) (.slice xu.wa xu.wn xu.wc) (.slice xu.ha xu.hn xu.hc)/\w'.cell? ⟨bv,ov+j*2,none⟩=some (.int .i64 A)/\w'.cell? ⟨bv,ov+j*2+1,none⟩=some (.int .i64 F)) (fun _=>false) (by kernel_rfl) ?_
   have hHeld:=HS1.out _ Q1
   refine wpGT_of [0,1,2,3,4,5,6,7,8,9,10] ?_
   iterate 11 (refine wpGT_k rfl hHeld ?_)
   refine wpGT_nil ?_
   refine wpG_two 11 15 rfl rfl (by kernel_rfl) (fun K hK=>?_) (fun K hK=>?_)
   ·refine stepR_call rfl 8 _ _ rfl #[.agg #[.slice xu.pa xu.pn xu.pc,.slice xu.sa xu.sn xu.sc,.slice xu.wa xu.wn xu.wc,.slice xu.ha xu.hn xu.hc],.int .i64 A,.int .i64 F] (by simp [Act.eval]) (yA Tryz.func8 (by kernel_rfl) rfl) (HST.out wr.drew Q1) ?_
    rintro e w7 ⟨v7,rfl,o7,d7⟩
    obtain ⟨cq,vp,vs,vw,vh,up,us,uw,uh,rfl,o7⟩:=o7
    obtain ⟨pa,pc,rfl⟩:=zU o7.p.row
    obtain ⟨sa,sc,rfl⟩:=zU o7.s.row
    obtain ⟨wa,wc,rfl⟩:=zU o7.t.row
    obtain ⟨ha,hc,rfl⟩:=zU o7.h.row
    have O7:OwnSys false w7 (wr.drew).heap.size YW (.agg #[.slice pa YW.pn pc,.slice sa YW.sn sc,.slice wa YW.wn wc,.slice ha YW.hn hc]):=⟨_,_,_,_,_,_,_,_,_,rfl,o7⟩
    refine ⟨_,rfl,?_⟩
    have q7:Below wr.heap.size wr w7:=Q1.trans (d7.mono Q1.size)
    refine hK.out _ _ (fun _=>HS1.out _ q7) ?_
    clear hK K o7
    have hHeld:=HS1.out _ q7
    (try simp only [Act.put,zD,zE,zF])
    refine wpGT_of [12,13,14] ?_
    iterate 3 (refine wpGT_k rfl hHeld ?_)
    refine wpGT_nil ?_
    refine wpG_one 15 rfl (by kernel_rfl) (fun K hK=>?_)
    go_simp
    have qa:=q7.trans ((zQ w7 (zQ3)).mono q7.size)
    refine hK.out _ _ (fun _=>HS1.out _ qa) ?_
    clear hK K hHeld
    (try simp only [Act.put,zD,zE,zF])
    refine wpG_one 16 rfl (by kernel_rfl) (fun K hK=>?_)
    go_simp
    have qb:=q7.trans ((zQ w7 (oQ4 pa YW.pn pc sa YW.sn sc wa YW.wn wc ha YW.hn hc)).mono q7.size)
    refine hK.out _ _ (fun _=>HS1.out _ qb) ?_
    clear hK K
    have hHeld:=HS1.out _ qb
    (try simp only [Act.put,zD,zE,zF])
    refine wpG_k 17 rfl hHeld ?_
    refine wpG_done (by kernel_rfl) ?_ _
    go_wp2_with fail
    go_meet
    case rel=>exact ⟨w7.heap.size,by with_reducible rfl,by with_reducible rfl,_,_,_,_,_,_,_,_,(O7.below (zQ _ _)).base Q1.size,qb,BoxC.new w7 _ _ _ _ _⟩
   ·go_simp
    have qa:=(zQ wr (zQ3)).drew
    have bN:BoxC (wr.alloc (zQ3)).drew wr.heap.size (.slice none 0 0) (.slice none 0 0) (.slice none 0 0) (.slice none 0 0):=(BoxC.new wr _ _ _ _ _).below (Below.refl _ _).drew
    have fN:∀ j,(wr.alloc (zQ3)).drew.frozen? ⟨wr.heap.size,j,none⟩=false:=fun j=>(World.frozen?_drew _ _).trans (yB _ _ _ _ rfl)
    have zN:wr.heap.size<(wr.alloc (zQ3)).drew.heap.size:=by simp
    refine hK.out _ _ (fun _=>HS1.out _ qa) ?_
    clear hK K
    (try simp only [Act.put,zD,zE,zF])
    refine wpG_one 11 rfl (by kernel_rfl) (fun K hK=>?_)
    obtain ⟨N,hNN⟩:∃ N,N=wr.heap.size:=⟨_,rfl⟩
    have sN6:wr.heap.size<=N:=by omega
    have bN:BoxC (wr.alloc (zQ3)).drew N (.slice none 0 0) (.slice none 0 0) (.slice none 0 0) (.slice none 0 0):=by rw [hNN];exact bN
    have fN:∀ j,(wr.alloc (zQ3)).drew.frozen? ⟨N,j,none⟩=false:=by rw [hNN];exact fN
    have zN:N<(wr.alloc (zQ3)).drew.heap.size:=by rw [hNN];exact zN
    rw [<- hNN]
    clear hNN
    generalize (wr.alloc (zQ3)).drew=wC at *
    refine stepR_call rfl 8 _ _ rfl #[.agg #[.slice xu.pa xu.pn xu.pc,.slice xu.sa xu.sn xu.sc,.slice xu.wa xu.wn xu.wc,.slice xu.ha xu.hn xu.hc],.int .i64 A,.int .i64 F] (by simp [Act.eval]) (yA Tryz.func8 (by kernel_rfl) rfl) (HST.out wC qa) ?_
    rintro e w7 ⟨v7,rfl,o7,d7⟩
    obtain ⟨cq,vp,vs,vw,vh,up,us,uw,uh,rfl,o7⟩:=o7
    obtain ⟨pa,pc,rfl⟩:=zU o7.p.row
    obtain ⟨sa,sc,rfl⟩:=zU o7.s.row
    obtain ⟨wa,wc,rfl⟩:=zU o7.t.row
    obtain ⟨ha,hc,rfl⟩:=zU o7.h.row
    have O7:OwnSys false w7 (wC).heap.size YW (.agg #[.slice pa YW.pn pc,.slice sa YW.sn sc,.slice wa YW.wn wc,.slice ha YW.hn hc]):=⟨_,_,_,_,_,_,_,_,_,rfl,o7⟩
    refine ⟨_,rfl,?_⟩
    have q7:Below wr.heap.size wr w7:=qa.trans (d7.mono qa.size)
    refine hK.out _ _ (fun _=>HS1.out _ q7) ?_
    clear hK K o7
    have hHeld:=HS1.out _ q7
    (try simp only [Act.put,zD,zE,zF])
    refine wpGT_of [12,13,14] ?_
    iterate 3 (refine wpGT_k rfl hHeld ?_)
    refine wpGT_nil ?_
    obtain ⟨n0,n1,n2,n3⟩:=bN.below d7
    have nf:∀ j,w7.frozen? ⟨N,j,none⟩=false:=fun j=>((bcell d7).2 _ j zN).trans (fN j)
    refine wpG_one 16 rfl (by kernel_rfl) (fun K hK=>?_)
    go_simp
    have qb:Below wr.heap.size wr ((((w7.setCell ⟨N,0,none⟩ (.slice pa YW.pn pc)).setCell ⟨N,1,none⟩ (.slice sa YW.sn sc)).setCell ⟨N,2,none⟩ (.slice wa YW.wn wc)).setCell ⟨N,3,none⟩ (.slice ha YW.hn hc)):=(((q7.setCell sN6 _).setCell sN6 _).setCell sN6 _).setCell sN6 _
    refine hK.out _ _ (fun _=>HS1.out _ qb) ?_
    clear hK K hHeld
    have hHeld:=HS1.out _ qb
    (try simp only [Act.put,zD,zE,zF])
    refine wpG_k 17 rfl hHeld ?_
    refine wpG_done (by kernel_rfl) ?_ _
    go_wp2_with fail
    go_meet
    case rel=>exact ⟨N,by with_reducible rfl,by with_reducible rfl,_,_,_,_,_,_,_,_,((((O7.setBelow zN 0 _).setBelow zN 1 _).setBelow zN 2 _).setBelow zN 3 _).base qa.size,qb,BoxC.set4 ⟨n0,n1,n2,n3⟩ _ _ _ _⟩
  case rest=>
   obtain ⟨Zn,rfl,rfl,HT⟩:=hcut
   obtain ⟨pa,pc,sa,sc,wa,wc,ha,hc,hOw,hBe,hBx⟩:=HT.out
   rename_i w7
   have HU7:Hid (UnU W4 xu w7):=HU2.out.below hBe
   have HB7:Hid (BoxC w7 Zn (.slice pa YW.pn pc) (.slice sa YW.sn sc) (.slice wa YW.wn wc) (.slice ha YW.hn hc)):=hBx
   have H7:Hid (OwnSys false w7 wr.heap.size YW (.agg #[.slice pa YW.pn pc,.slice sa YW.sn sc,.slice wa YW.wn wc,.slice ha YW.hn hc])/\W4.heap.size<wr.heap.size):=⟨hOw,zJ _ _ HU2.out.bx.1⟩
   clear hOw hBe hBx HT HU2 HST HS1 Q1
   by_cases hc0:CW=0
   case neg=>
    have hc0':(CW != 0)=true:=by simpa using hc0
    have HK9:Hid (UnK W4 x h (j+1) w7):=⟨xu,HU7.out,by rw [<- HG.out.2.1 hc0];exact HG.out.1⟩
    go_wp2
    go_roundw
    case rel=>exact ⟨j+1,by omega,by go_num,HK9.out⟩
    case measure=>simp [intOf];omega
   subst hc0
   obtain ⟨n0,n1,n2,n3⟩:=HB7.out
   obtain ⟨u0,u1,u2,u3⟩:=HU7.out.bx
   have uf:=HU7.out.f
   go_upto_region 17 with fail
   have HK9:Hid (∃ x8,UnU W4 x8 ((((w7.setCell ⟨W4.heap.size,0,none⟩ (.slice pa YW.pn pc)).setCell ⟨W4.heap.size,1,none⟩ (.slice sa YW.sn sc)).setCell ⟨W4.heap.size,2,none⟩ (.slice wa YW.wn wc)).setCell ⟨W4.heap.size,3,none⟩ (.slice ha YW.hn hc))/\x8.y=YW):=by
    obtain ⟨x8,e8,ey8,g8,-,nn8⟩:=((((H7.out.1.setBelow H7.out.2 0 (.slice pa YW.pn pc)).setBelow H7.out.2 1 (.slice sa YW.sn sc)).setBelow H7.out.2 2 (.slice wa YW.wn wc)).setBelow H7.out.2 3 (.slice ha YW.hn hc)).inJ
    simp only [SysIn.v,sysV,Value.agg.injEq,Array.mk.injEq,List.cons.injEq,and_true] at e8
    have hb8:=BoxC.set4 (w:=w7) (N:=W4.heap.size) ⟨u0,u1,u2,u3⟩ (.slice pa YW.pn pc) (.slice sa YW.sn sc) (.slice wa YW.wn wc) (.slice ha YW.hn hc)
    have hl8:x8.Len:=by
     have h9:=HG.out.2.2.2
     rw [<- ey8] at h9
     exact h9.inLen
    exact ⟨x8,⟨(((HU7.out.b.setCell (Nat.le_refl _) _).setCell (Nat.le_refl _) _).setCell (Nat.le_refl _) _).setCell (Nat.le_refl _) _,g8,by rw [<- e8.1,<- e8.2.1,<- e8.2.2.1,<- e8.2.2.2];exact hb8,fun j=>by simpa using HU7.out.f j,hl8,nn8⟩,ey8⟩
   clear n0 n1 n2 n3 u0 u1 u2 u3 uf HB7 HU7 H7
   generalize (((w7.setCell ⟨W4.heap.size,0,none⟩ (.slice pa YW.pn pc)).setCell ⟨W4.heap.size,1,none⟩ (.slice sa YW.sn sc)).setCell ⟨W4.heap.size,2,none⟩ (.slice wa YW.wn wc)).setCell ⟨W4.heap.size,3,none⟩ (.slice ha YW.hn hc)=w9 at *
   obtain ⟨x8,k8,e8⟩:=HK9.out
   have K9:Hid (UnU W4 x8 w9/\UJ w w9 X Z x p kd v (some ⟨bv,ov,none⟩) n h/\x8.y=YW):=⟨k8,D0.out.1.below k8.b,e8⟩
   clear k8 e8 HK9
   have HH9:Hid (Calls Tryz.prog 9 #[x8.v,spV p kd v] w9 fun e w'=>e=.returned (.bool (hsB x8.y p kd v))/\Below w9.heap.size w9 w'):=implHolds_any x8 p kd v w9 K9.out.1.g K9.out.1.l (HV.out _ K9.out.2.1.j.j.be)
   obtain ⟨u0,u1,u2,u3⟩:=K9.out.1.bx
   obtain ⟨y0,y1,y2⟩:=K9.out.2.1.j.cs.2
   have HW:Hid (hsB x8.y p kd v=true->¬ ((j:Int)+1<(N:Int))):=fun ht hlt=>by
    have h9:=HG.out.2.2.1 rfl (by omega)
    rw [<- K9.out.2.2,ht] at h9
    cases h9
   obtain ⟨H,hH⟩:∃ H,hsB x8.y p kd v=H:=⟨_,rfl⟩
   rw [hH] at HH9 HW
   go_wp2_with fail
   clear u0 u1 u2 u3 y0 y1 y2
   refine HH9.out.mono ?_
   rintro e w10 ⟨rfl,d10⟩
   have HK10:Hid (UnK W4 x h (j+1) w10):=⟨x8,K9.out.1.below d10,by rw [K9.out.2.2];exact HG.out.1⟩
   clear d10 K9 HH9 hH
   cases H
   ·go_wp2
    go_roundw
    case rel=>exact ⟨j+1,by omega,by go_num,HK10.out⟩
    case measure=>simp [intOf];omega
   ·have hnl:=HW.out rfl
    go_wp2
    go_roundw
    case rel=>exact ⟨j+1,by omega,by go_num,HK10.out⟩
    case measure=>simp [intOf];omega
theorem untilDLaw_great (a0:Option Addr) (len cap:Nat) (w:World) (_hm:len<=maxLen) (hl:1048576<len):
  Calls Tryz.prog 3 #[.slice a0 len cap] w fun e w'=>e=.returned (.bool true)/\Below w.heap.size w w':=by
 go_enter Tryz.func3,Tryz.ntmps3
 go_wp2_with fail
 refine (big_any a0 len cap w).mono ?_
 rintro e w1 ⟨rfl,rfl⟩
 rw [decide_eq_true (show (1048576:Int)<(len:Int) by omega)]
 go_wp2
 go_ret
 exact ⟨rfl,Below.refl _ _⟩
theorem untilDLifted (os:Os) (started:os.Started) (H:Type) (enc:TypeId × Value->H):
  ReturnsInHanded {} Tryz.checked os 3 .any (fun w args => (Rows.fnUntilSpec.pre enc Tryz.prog Tryz.f3 [] false w args /\ laidMetH Tryz.prog [("errors.errorType", Rows.laid_errors_errorType)] w) /\ sizedMet enc Tryz.prog Tryz.f3 (OpenSpec.ofChange Rows.fnUntilSpec) false w args)
   (Rows.fnUntilSpec.post enc Tryz.prog Tryz.f3 false true false false):=by
 refine returnsInHanded_of_change_and (C := Tryz.checked) (X := fun w _ => laidMetH Tryz.prog [("errors.errorType", Rows.laid_errors_errorType)] w) (fun _ _ _ hh h => h.of_heap hh) Tryz.own started (by kernel_rfl) Tryz.func3
  (ChangeSpec.witness_at (enc := enc) (C := Tryz.checked) (os := os) (X := fun w _ => laidMetH Tryz.prog [("errors.errorType", Rows.laid_errors_errorType)] w) false (laidWorld os) #[.slice none 0 0] 8 rfl (by kernel_rfl) (by kernel_rfl) (by kernel_rfl) (by kernel_rfl) (by kernel_rfl) (laidWorld_met os _)) ?_
 intro W base args ds gs before hval0 hW _ _ hL _
 have hval:∀ (j:Nat) t v,Tryz.f3.params[j]? = some t->args[j]? = some v->Value.okWide Tryz.prog W .any base t v:=hval0
 have hW':=hW
 obtain ⟨p,q,hA0,hV,rfl,hfz,hnd⟩:=hW
 have hA:DataW.TrodAll enc Tryz.prog W 0 (fun _=>true) true Tryz.f3.params.toList args.toList ds p:=hA0
 rw [Tryz.params3] at hA hval
 obtain ⟨v0,d0,rfl,rfl,h0⟩:=trodAll_one hA
 obtain ⟨rfl,rfl⟩:=trodVars_none hV
 have lt0:∀ x ∈ p,x.block<W.heap.size:=by obtain ⟨m,hm⟩:=h0;exact DataW.trod_lt m _ _ _ hm
 have hg:=handle_of_laid hL
 clear hA0 hval0
 have hlaw:Calls Tryz.prog 3 #[v0] W fun e w'=>e=.returned (.bool true)/\Below W.heap.size W w':=by
  obtain ⟨a0,len,cap,rfl⟩:=okWide_slice Tryz.underlying22 (hval 0 22 v0 rfl rfl)
  obtain ⟨hm,hB⟩:=open_bytes h0
  by_cases hs:len<=1048576
  ·exact untilDLaw_small a0 len cap W hs hB hg
  ·exact untilDLaw_great a0 len cap W hm (by omega)
 refine hlaw.mono fun e W' ⟨he,bel⟩=>?_
 subst he
 exact ⟨_,rfl,_,_,_,[],_,[],hW',trodAll_mk1 (shut_bool Tryz.underlying4 _),trodAll_mk1 (Below.trod Tryz.laidOut (by kernel_rfl) (of_decide_eq_true (by kernel_rfl)) h0 bel lt0),rfl,bel.frame _,fun h=>by cases h⟩
theorem untilDSaid:Rows.FnUntilSaid:=
 OpenClaim.holds_of_wide 3 Tryz.f3 rfl rfl rfl rfl rfl rfl rfl ⟨rfl,rfl,rfl,rfl,rfl⟩ rfl rfl rfl rfl rfl (by kernel_rfl) Tryz.func3 (by kernel_rfl)
  (of_decide_eq_true (by kernel_rfl)) (by unfold Func.isWrapper;first|(rw [if_pos (by decide +kernel)];kernel_rfl)|(rw [if_neg (by decide +kernel)];exact ⟨rfl,rfl⟩))
  (fun os started H enc _=>untilDLifted os started H enc)
theorem untilDPlain (f : FuncId) (fn : Func) (hf : Tryz.pinned.checked.prog.funcNamed "loop.example/g00196/laws.FnUntil" = some f) (hfn : Tryz.pinned.checked.prog.funcs[f]? = some fn) :
  true=Tryz.pinned.checked.prog.looks []/\∀ (j:Nat) t,fn.params[j]? = some t->Tryz.pinned.checked.prog.wantsStandIn t=false:=by
 obtain rfl : f = 3 := Option.some.inj ((show Tryz.prog.funcNamed "loop.example/g00196/laws.FnUntil" = some 3 by kernel_rfl).symm.trans hf) |>.symm
 obtain rfl:fn=Tryz.f3:=(Option.some.inj (Tryz.func3.symm.trans hfn)).symm
 refine ⟨by kernel_rfl,fun j t ht=>?_⟩
 rw [Tryz.params3] at ht
 have hm:=Array.mem_of_getElem? ht
 simp at hm
 obtain rfl:=hm
 exact (show Tryz.prog.wantsStandIn 22=false by kernel_rfl)
theorem untilD_card:Rows.FnUntilCardSaid:=
 Claim7.holds_tied_plain_at .later [] _ _ _ _ untilDSaid (fun _ h=>by cases h) (by kernel_rfl) (fun _ h=>by cases h) fnUntil_row_tie rfl ⟨rfl,rfl⟩ (by kernel_rfl) rfl untilDPlain (by kernel_rfl)
