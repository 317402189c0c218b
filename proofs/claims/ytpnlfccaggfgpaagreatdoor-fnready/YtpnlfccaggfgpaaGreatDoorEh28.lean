import Derived.Test.YtpnlfccaggfgpaaGreatDoorEh0
import Derived.Test.YtpnlfccaggfgpaaGreatDoorEh25
import Derived.Deep.RegionWith
import Derived.Test.YtpnlfccaggfgpaaGreatDoorEh20
import Derived.Deep.RegionHeld3
import Derived.BigQuiet
namespace Go.Proofs.YtpnlfccaggfgpaaGreatDoor
set_option maxRecDepth 100000
set_option maxHeartbeats 1000000
open Go.ChangeShapes Go.WideShapes Go.ChangeAt Go.RowKit Go.Deep Go.Sort
structure Ev3 (w:World) (N:Nat):Prop where
 c0:∃ v,w.cell? ⟨N,0,none⟩=some v
 c1:∃ v,w.cell? ⟨N,1,none⟩=some v
 c2:∃ v,w.cell? ⟨N,2,none⟩=some v
 fr:∀ j,w.frozen? ⟨N,j,none⟩=false
theorem Ev3.below {w w':World} {N:Nat} (h:Ev3 w N) (hb:Below w.heap.size w w'):Ev3 w' N:=by
 obtain ⟨v,hv⟩:=h.c0
 have hN:=hb.block N (zJ w _ hv)
 obtain ⟨v1,hv1⟩:=h.c1
 obtain ⟨v2,hv2⟩:=h.c2
 exact ⟨⟨v,(zH hN).trans hv⟩,⟨v1,(zH hN).trans hv1⟩,⟨v2,(zH hN).trans hv2⟩,fun j=>(zI hN).trans (h.fr j)⟩
theorem wayNumber_any (x:SysIn) (a b:Nat) (w:World) (ha:a<4) (hb:b<4) (hp:x.pn<=4):
  Calls Tryz.prog 62 #[x.v,.int .i64 a,.int .i64 b] w fun e w'=>e=.returned (.int .i64 (a*x.pn+b:Nat))/\Below w.heap.size w w':=by
 have hm0:0<=(a:Int)*(x.pn:Int):=Int.mul_nonneg (by omega) (by omega)
 have hm1:(a:Int)*(x.pn:Int)<=16:=by
  have:=Int.mul_le_mul (show (a:Int)<=4 by omega) (show (x.pn:Int)<=4 by omega) (by omega) (by omega)
  omega
 have hJ:Hid (((a*x.pn+b:Nat):Int)=(a:Int)*(x.pn:Int)+(b:Int)):=by
  show ((a*x.pn+b:Nat):Int)=(a:Int)*(x.pn:Int)+(b:Int)
  rw [Int.natCast_add,Int.natCast_mul]
 have hb':(b:Int)<=4:=by omega
 go_enter Tryz.func62,Tryz.ntmps62
 go_wp2
 go_ret
 rw [hJ.out]
 exact ⟨rfl,by go_grown⟩
theorem eventQueue_any (x:SysIn) (p:Nat) (w:World) (hG:SysG w x) (hp:p<x.hn):
  Calls Tryz.prog 58 #[x.v,.int .i64 p] w fun e w'=>e=.returned (.agg #[.slice (x.hA p) (x.hL p) (x.hC p),.int .i64 200])/\Below w.heap.size w w':=by
 have hp':(p:Int)<(x.hn:Int):=by omega
 obtain ⟨bh,oh,eh,ch⟩:=hG.h.at hp
 have zb:bh<w.heap.size:=zJ w _ ch
 have ch':∀ o1 o2,((w.alloc o1).alloc o2).cell? ⟨bh,oh+p,none⟩=some (.slice (x.hA p) (x.hL p) (x.hC p)):=fun o1 o2=>(World.cell?_alloc_lt _ _ _ (by simp;omega)).trans ((World.cell?_alloc_lt _ _ _ zb).trans ch)
 rw [show x.v=sysV x.pa x.pn x.pc x.sa x.sn x.sc x.wa x.wn x.wc x.ha x.hn x.hc from rfl,eh]
 clear hG eh ch
 go_enter Tryz.func58,Tryz.ntmps58
 go_wp2
 exact bodyPost_ret (v:=.agg #[.slice (x.hA p) (x.hL p) (x.hC p),.int .i64 200]) (by simp [results,Tryz.results58,go_sem]) rfl ⟨rfl,by go_grown⟩
theorem wayQueue_any (x:SysIn) (a b:Nat) (w:World) (hG:SysG w x) (ha:a<4) (hb:b<4) (hp:x.pn<=4) (hJ:a*x.pn+b<x.wn):
  Calls Tryz.prog 60 #[x.v,.int .i64 a,.int .i64 b] w fun e w'=>e=.returned (.agg #[.slice (x.wA (a*x.pn+b)) (x.wL (a*x.pn+b)) (x.wC (a*x.pn+b)),.int .i64 12])/\Below w.heap.size w w':=by
 obtain ⟨bh,oh,eh,ch⟩:=hG.w.at hJ
 have HW:Hid (∀ wx,Calls Tryz.prog 62 #[sysV x.pa x.pn x.pc x.sa x.sn x.sc (some ⟨bh,oh,none⟩) x.wn x.wc x.ha x.hn x.hc,.int .i64 a,.int .i64 b] wx fun e w'=>e=.returned (.int .i64 (a*x.pn+b:Nat))/\Below wx.heap.size wx w'):=fun wx=>by
  have:=wayNumber_any x a b wx ha hb hp
  rw [show x.v=sysV x.pa x.pn x.pc x.sa x.sn x.sc x.wa x.wn x.wc x.ha x.hn x.hc from rfl,eh] at this
  exact this
 rw [show x.v=sysV x.pa x.pn x.pc x.sa x.sn x.sc x.wa x.wn x.wc x.ha x.hn x.hc from rfl,eh]
 generalize a*x.pn+b=J at *
 have hJ':(J:Int)<(x.wn:Int):=by omega
 have BW:Hid (Below w.heap.size w ((w.alloc (oQ4 x.pa x.pn x.pc x.sa x.sn x.sc (some ⟨bh,oh,none⟩) x.wn x.wc x.ha x.hn x.hc)).alloc (.cells #[.slice none 0 0,.int .i64 0] 96))):=(zT _ _).trans ((zT _ _).mono (by simp))
 have BX:Hid (BoxC ((w.alloc (oQ4 x.pa x.pn x.pc x.sa x.sn x.sc (some ⟨bh,oh,none⟩) x.wn x.wc x.ha x.hn x.hc)).alloc (.cells #[.slice none 0 0,.int .i64 0] 96)) w.heap.size (.slice x.pa x.pn x.pc) (.slice x.sa x.sn x.sc) (.slice (some ⟨bh,oh,none⟩) x.wn x.wc) (.slice x.ha x.hn x.hc)):=(BoxC.new w _ _ _ _ _).below (zT _ _)
 have RX:Hid (((w.alloc (oQ4 x.pa x.pn x.pc x.sa x.sn x.sc (some ⟨bh,oh,none⟩) x.wn x.wc x.ha x.hn x.hc)).alloc (.cells #[.slice none 0 0,.int .i64 0] 96)).cell? ⟨w.heap.size+1,0,none⟩=some (.slice none 0 0)/\((w.alloc (oQ4 x.pa x.pn x.pc x.sa x.sn x.sc (some ⟨bh,oh,none⟩) x.wn x.wc x.ha x.hn x.hc)).alloc (.cells #[.slice none 0 0,.int .i64 0] 96)).cell? ⟨w.heap.size+1,1,none⟩=some (.int .i64 0)/\∀ j,((w.alloc (oQ4 x.pa x.pn x.pc x.sa x.sn x.sc (some ⟨bh,oh,none⟩) x.wn x.wc x.ha x.hn x.hc)).alloc (.cells #[.slice none 0 0,.int .i64 0] 96)).frozen? ⟨w.heap.size+1,j,none⟩=false):=⟨zW _ _ _ 0 (by simp),zW _ _ _ 1 (by simp),fun j=>yB _ _ _ _ (by simp)⟩
 have HCh:Hid (w.cell? ⟨bh,oh+J,none⟩=some (.slice (x.wA J) (x.wL J) (x.wC J))):=ch
 have dN:¬ w.heap.size+1=bh:=by have:=zJ w _ ch;simp at this;omega
 clear hG eh ch
 go_enter Tryz.func60,Tryz.ntmps60
 go_wp2_with fail
 generalize ((w.alloc (oQ4 x.pa x.pn x.pc x.sa x.sn x.sc (some ⟨bh,oh,none⟩) x.wn x.wc x.ha x.hn x.hc)).alloc (.cells #[.slice none 0 0,.int .i64 0] 96))=W2 at *
 have HC2:Hid (W2.cell? ⟨bh,oh+J,none⟩=some (.slice (x.wA J) (x.wL J) (x.wC J))):=(BW.out.cell (p:=⟨bh,oh+J,none⟩) (zJ w _ HCh.out)).trans HCh.out
 obtain ⟨k0,k1,k2,k3⟩:=BX.out
 go_region_law (refine step_call rfl 62 _ _ rfl #[sysV x.pa x.pn x.pc x.sa x.sn x.sc (some ⟨bh,oh,none⟩) x.wn x.wc x.ha x.hn x.hc,.int .i64 a,.int .i64 b] (by simp [Act.eval,sysV]) (yA Tryz.func62 (by kernel_rfl) rfl) (HW.out W2.drew) ?_;rintro e w1 ⟨rfl,b1⟩;refine ⟨_,rfl,?_⟩;have q1:Below W2.heap.size W2 w1:=(Below.refl W2.heap.size W2).drew.trans b1;have c1:=(q1.cell (p:=⟨bh,oh+J,none⟩) (zJ W2 _ HC2.out)).trans HC2.out;obtain ⟨m0,m1,m2,m3⟩:=BX.out.below q1;have r0:=(q1.cell (p:=⟨w.heap.size+1,0,none⟩) (zJ W2 _ RX.out.1)).trans RX.out.1;have r1:=(q1.cell (p:=⟨w.heap.size+1,1,none⟩) (zJ W2 _ RX.out.2.1)).trans RX.out.2.1;have f1:∀ j,w1.frozen? ⟨w.heap.size+1,j,none⟩=false:=fun j=>(zI (q1.block (w.heap.size+1) (zJ W2 ⟨w.heap.size+1,0,none⟩ RX.out.1))).trans (RX.out.2.2 j);have Q1:Hid (Below w.heap.size w w1):=BW.out.trans (q1.mono BW.out.size);clear b1 q1)
 all_goals
  go_wp2
  refine bodyPost_ret (v:=.agg #[.slice (x.wA J) (x.wL J) (x.wC J),.int .i64 12]) (by simp [results,Tryz.results60,go_sem,r0,r1]) rfl ⟨rfl,?_⟩
  exact (Q1.out.setCell (Nat.le_succ _) _).setCell (Nat.le_succ _) _
theorem isFullEvent_any (a:Option Addr) (n c:Nat) (L:Int) (w:World):
  Calls Tryz.prog 98 #[.agg #[.slice a n c,.int .i64 L]] w fun e w'=>e=.returned (.bool (decide (L<=(n:Int))))/\Below w.heap.size w w':=by
 go_enter Tryz.func98,Tryz.ntmps98
 go_wp2
 go_ret
 exact ⟨rfl,by go_grown⟩
theorem isFullItem_any (a:Option Addr) (n c:Nat) (L:Int) (w:World):
  Calls Tryz.prog 99 #[.agg #[.slice a n c,.int .i64 L]] w fun e w'=>e=.returned (.bool (decide (L<=(n:Int))))/\Below w.heap.size w w':=by
 go_enter Tryz.func99,Tryz.ntmps99
 go_wp2
 go_ret
 exact ⟨rfl,by go_grown⟩
theorem first_any (a:Option Addr) (n c:Nat) (L:Int) (h:Nat->I2) (w:World) (hn:n<=1048576) (hI:ItL w a n h):
  Calls Tryz.prog 97 #[.agg #[.slice a n c,.int .i64 L]] w fun e w'=>e=.returned (.tuple #[if n=0 then itV false 0 else itV (h 0).m (h 0).v,.bool (decide (n≠0))])/\Below w.heap.size w w':=by
 by_cases h0:n=0
 ·subst h0
  rw [if_pos rfl]
  go_enter Tryz.func97,Tryz.ntmps97
  go_wp2
  exact bodyPost_ret (v:=.tuple #[itV false 0,.bool false]) (by simp [results,Tryz.results97,go_sem]) rfl ⟨by simp,by go_grown⟩
 ·obtain ⟨b,off,rfl,zb,c0,c1⟩:=hI.at (k:=0) (by omega)
  have hne:((n:Int) == 0)=false:=by
   have:¬ (n:Int)=0:=by omega
   simpa using this
  have hpos:(0:Int)<(n:Int):=by omega
  rw [if_neg h0]
  have c0':∀ o1 o2,((w.alloc o1).alloc o2).cell? ⟨b,off,none⟩=some (.bool (h 0).m):=fun o1 o2=>(World.cell?_alloc_lt _ _ _ (by simp;omega)).trans ((World.cell?_alloc_lt _ _ _ zb).trans (by simpa using c0))
  have c1':∀ o1 o2,((w.alloc o1).alloc o2).cell? ⟨b,off+1,none⟩=some (.int .i64 (h 0).v):=fun o1 o2=>(World.cell?_alloc_lt _ _ _ (by simp;omega)).trans ((World.cell?_alloc_lt _ _ _ zb).trans (by simpa using c1))
  have hd:decide (n≠0)=true:=decide_eq_true h0
  rw [hd]
  clear hI c0 c1 hd
  go_enter Tryz.func97,Tryz.ntmps97
  go_wp2
  exact bodyPost_ret (v:=.tuple #[itV (h 0).m (h 0).v,.bool true]) (by simp [results,Tryz.results97,go_sem]) rfl ⟨rfl,by go_grown⟩
theorem peerOf_any (k q v peer:Int) (w:World):
  Calls Tryz.prog 55 #[evV k q v,.int .i64 peer] w fun e w'=>e=.returned (.int .i64 (if q=9 then peer else q))/\Below w.heap.size w w':=by
 rcases zK (q == 9) with t | t
 ·have t':q=9:=by simpa using t
  rw [if_pos t']
  clear t'
  go_enter Tryz.func55,Tryz.ntmps55
  go_wp2
  go_ret
  exact ⟨rfl,by go_grown⟩
 ·have t':¬ q=9:=by simpa using t
  rw [if_neg t']
  clear t'
  go_enter Tryz.func55,Tryz.ntmps55
  go_wp2
  go_ret
  exact ⟨rfl,by go_grown⟩
def tkC (x:SysIn) (p:Nat) (f:Int):Int:=if belB f x.pn=true then (if x.wL (f.toNat*x.pn+p)=0 then 3 else if (x.wH (f.toNat*x.pn+p) 0).m=true then 5 else 0) else 2
def tkV (x:SysIn) (p:Nat) (f:Int):Value:=if tkC x p f=0 then evV 3 f (x.wH (f.toNat*x.pn+p) 0).v else evV 0 0 0
theorem takeOf_any (x:SysIn) (p:Nat) (f:Int) (w:World) (hG:SysG w x) (hL:x.Len) (hp:p<x.pn) (h4:x.pn<=4) (hw:x.wn=x.pn*x.pn):
  Calls Tryz.prog 54 #[x.v,.int .i64 p,.int .i64 f] w fun e w'=>e=.returned (.tuple #[tkV x p f,.int .i64 (tkC x p f)])/\Below w.heap.size w w':=by
 have HG:Hid (SysG w x):=hG
 rcases zK (belB f x.pn) with t1 | t1
 case inr=>
  have HN:Hid (tkC x p f=2/\tkV x p f=evV 0 0 0):=by
   have:tkC x p f=2:=by simp [tkC,t1]
   exact ⟨this,by simp [tkV,this]⟩
  rw [HN.out.1,HN.out.2]
  go_enter Tryz.func54,Tryz.ntmps54
  go_wp2_with fail
  refine (isBelow_any _ _ _).mono ?_
  rintro e w1 ⟨rfl,rfl⟩
  rw [t1]
  go_wp2
  exact bodyPost_ret (v:=.tuple #[evV 0 0 0,.int .i64 2]) (by simp [results,Tryz.results54,go_sem]) rfl ⟨rfl,by go_grown⟩
 obtain ⟨q,rfl,hq⟩:∃ q:Nat,f=(q:Int)/\q<x.pn:=by
  simp only [belB,decide_eq_true_eq] at t1
  exact ⟨f.toNat,by omega,by omega⟩
 have hJ:q*x.pn+p<x.wn:=by
  rw [hw]
  have:(q+1)*x.pn<=x.pn*x.pn:=Nat.mul_le_mul_right _ (by omega)
  rw [Nat.add_mul] at this
  omega
 have HI:Hid (ItL w (x.wA (q*x.pn+p)) (x.wL (q*x.pn+p)) (x.wH (q*x.pn+p))/\x.wL (q*x.pn+p)<=1048576):=⟨hG.wi _ hJ,hL.w.2 _ hJ⟩
 have HWq:Hid (∀ wx,Below w.heap.size w wx->Calls Tryz.prog 60 #[x.v,.int .i64 q,.int .i64 p] wx fun e w'=>e=.returned (.agg #[.slice (x.wA (q*x.pn+p)) (x.wL (q*x.pn+p)) (x.wC (q*x.pn+p)),.int .i64 12])/\Below wx.heap.size wx w'):=fun wx hb=>wayQueue_any x q p wx (HG.out.below hb) (by omega) (by omega) h4 hJ
 have HT:Hid (tkC x p q=(if x.wL (q*x.pn+p)=0 then 3 else if (x.wH (q*x.pn+p) 0).m=true then 5 else 0)/\tkV x p q=if tkC x p q=0 then evV 3 q (x.wH (q*x.pn+p) 0).v else evV 0 0 0):=by
  refine ⟨?_,rfl⟩
  show tkC x p q=_
  unfold tkC
  rw [if_pos t1]
  rfl
 generalize tkV x p q=V at *
 generalize tkC x p q=C at *
 generalize q*x.pn+p=J at *
 have BW:Hid (Below w.heap.size w ((w.alloc (oQ4 x.pa x.pn x.pc x.sa x.sn x.sc x.wa x.wn x.wc x.ha x.hn x.hc)).alloc (zQ4))):=(zT _ _).trans ((zT _ _).mono (by simp))
 have RX:Hid (Ev3 ((w.alloc (oQ4 x.pa x.pn x.pc x.sa x.sn x.sc x.wa x.wn x.wc x.ha x.hn x.hc)).alloc (zQ4)) (w.heap.size+1)):=⟨⟨_,zW _ _ _ 0 (by simp)⟩,⟨_,zW _ _ _ 1 (by simp)⟩,⟨_,zW _ _ _ 2 (by simp)⟩,fun j=>yB _ _ _ _ (by simp)⟩
 clear hG hL hw hJ
 go_enter Tryz.func54,Tryz.ntmps54
 go_wp2_with fail
 refine (isBelow_any _ _ _).mono ?_
 rintro e w1 ⟨rfl,rfl⟩
 rw [t1]
 go_wp2_with fail
 generalize (w.alloc (oQ4 x.pa x.pn x.pc x.sa x.sn x.sc x.wa x.wn x.wc x.ha x.hn x.hc)).alloc (zQ4)=W2 at *
 refine (HWq.out W2 BW.out).mono ?_
 rintro e w3 ⟨rfl,b3⟩
 have B3:Hid (Below w.heap.size w w3/\Ev3 w3 (w.heap.size+1)):=⟨BW.out.trans (b3.mono BW.out.size),RX.out.below b3⟩
 clear b3
 go_wp2_with fail
 refine (first_any (x.wA J) (x.wL J) _ 12 (x.wH J) w3 HI.out.2 (HI.out.1.below B3.out.1)).mono ?_
 rintro e w4 ⟨rfl,b4⟩
 have B4:Hid (Below w.heap.size w w4/\Ev3 w4 (w.heap.size+1)):=⟨B3.out.1.trans (b4.mono B3.out.1.size),B3.out.2.below b4⟩
 clear b4 B3
 obtain ⟨⟨v0,r0⟩,⟨v1,r1⟩,⟨v2,r2⟩,rf⟩:=B4.out.2
 have hS:∀ (a b c:Value),Below w.heap.size w (((w4.setCell ⟨w.heap.size+1,0,none⟩ a).setCell ⟨w.heap.size+1,1,none⟩ b).setCell ⟨w.heap.size+1,2,none⟩ c):=fun a b c=>((B4.out.1.setCell (Nat.le_succ _) _).setCell (Nat.le_succ _) _).setCell (Nat.le_succ _) _
 have HS:Hid (∀ (o:Obj) (a b c:Value),Below w.heap.size w ((((w4.setCell ⟨w.heap.size+1,0,none⟩ a).setCell ⟨w.heap.size+1,1,none⟩ b).setCell ⟨w.heap.size+1,2,none⟩ c).alloc o)):=fun o a b c=>(hS a b c).trans ((zT _ _).mono (hS a b c).size)
 have z4:w.heap.size+1<w4.heap.size:=zJ w4 _ r0
 clear hS
 by_cases h0:x.wL J=0
 ·have HV:Hid (C=3/\V=evV 0 0 0):=by
   have h1:C=3:=by rw [HT.out.1,if_pos h0]
   exact ⟨h1,by rw [HT.out.2,if_neg (by rw [h1];decide)]⟩
  rw [if_pos h0,show decide (x.wL J≠0)=false from decide_eq_false (by omega)]
  clear h0
  go_wp2
  exact bodyPost_ret (v:=.tuple #[evV 0 0 0,.int .i64 3]) (by simp [results,Tryz.results54,go_sem,r0,r1,r2,z4]) rfl ⟨by rw [HV.out.1,HV.out.2],HS.out _ _ _ _⟩
 rw [if_neg h0,show decide (x.wL J≠0)=true from decide_eq_true h0]
 rcases zK (x.wH J 0).m with hm | hm
 ·have HV:Hid (C=5/\V=evV 0 0 0):=by
   have h1:C=5:=by rw [HT.out.1,if_neg h0,if_pos hm]
   exact ⟨h1,by rw [HT.out.2,if_neg (by rw [h1];decide)]⟩
  rw [hm]
  clear h0
  go_wp2
  exact bodyPost_ret (v:=.tuple #[evV 0 0 0,.int .i64 5]) (by simp [results,Tryz.results54,go_sem,r0,r1,r2,z4]) rfl ⟨by rw [HV.out.1,HV.out.2],HS.out _ _ _ _⟩
 ·have HV:Hid (C=0/\V=evV 3 q (x.wH J 0).v):=by
   have h1:C=0:=by rw [HT.out.1,if_neg h0,if_neg (by rw [hm];decide)]
   exact ⟨h1,by rw [HT.out.2,if_pos h1]⟩
  rw [hm]
  clear h0
  go_wp2
  exact bodyPost_ret (v:=.tuple #[evV 3 q (x.wH J 0).v,.int .i64 0]) (by simp [results,Tryz.results54,go_sem,r0,r1,r2,z4]) rfl ⟨by rw [HV.out.1,HV.out.2],HS.out _ _ _ _⟩
def fuB (x:SysIn) (p:Nat) (k q:Int):Bool:=decide (200<=x.hL p) || (k == 2 && decide (12<=x.wL (p*x.pn+q.toNat)))
theorem isFullFor_any (x:SysIn) (p:Nat) (k q v:Int) (w:World) (hG:SysG w x) (hp:p<x.pn) (h4:x.pn<=4) (hh:x.hn=x.pn) (hw:x.wn=x.pn*x.pn) (hq:k=2->0<=q/\q<x.pn):
  Calls Tryz.prog 56 #[x.v,.int .i64 p,evV k q v] w fun e w'=>e=.returned (.bool (fuB x p k q))/\Below w.heap.size w w':=by
 have HG:Hid (SysG w x):=hG
 have HEq:Hid (∀ wx,Below w.heap.size w wx->Calls Tryz.prog 58 #[x.v,.int .i64 p] wx fun e w'=>e=.returned (.agg #[.slice (x.hA p) (x.hL p) (x.hC p),.int .i64 200])/\Below wx.heap.size wx w'):=fun wx hb=>eventQueue_any x p wx (HG.out.below hb) (by omega)
 have NB:Hid (BoxC ((w.alloc (oQ4 x.pa x.pn x.pc x.sa x.sn x.sc x.wa x.wn x.wc x.ha x.hn x.hc)).alloc (oQ0 k q v)) w.heap.size (.slice x.pa x.pn x.pc) (.slice x.sa x.sn x.sc) (.slice x.wa x.wn x.wc) (.slice x.ha x.hn x.hc)):=(BoxC.new w _ _ _ _ _).below (zT _ _)
 have NE:Hid (((w.alloc (oQ4 x.pa x.pn x.pc x.sa x.sn x.sc x.wa x.wn x.wc x.ha x.hn x.hc)).alloc (oQ0 k q v)).cell? ⟨w.heap.size+1,0,none⟩=some (.int .i64 k)/\((w.alloc (oQ4 x.pa x.pn x.pc x.sa x.sn x.sc x.wa x.wn x.wc x.ha x.hn x.hc)).alloc (oQ0 k q v)).cell? ⟨w.heap.size+1,1,none⟩=some (.int .i64 q)):=⟨zW _ _ _ 0 (by simp),zW _ _ _ 1 (by simp)⟩
 have BW:Hid (Below w.heap.size w ((w.alloc (oQ4 x.pa x.pn x.pc x.sa x.sn x.sc x.wa x.wn x.wc x.ha x.hn x.hc)).alloc (oQ0 k q v))):=(zT _ _).trans ((zT _ _).mono (by simp))
 have HW2:Hid (x.wn=x.pn*x.pn):=hw
 clear hG hh hw
 go_enter Tryz.func56,Tryz.ntmps56
 go_wp2_with fail
 generalize (w.alloc (oQ4 x.pa x.pn x.pc x.sa x.sn x.sc x.wa x.wn x.wc x.ha x.hn x.hc)).alloc (oQ0 k q v)=W2 at *
 refine (HEq.out W2 BW.out).mono ?_
 rintro e w3 ⟨rfl,b3⟩
 have F3:Hid (Below w.heap.size w w3/\Below W2.heap.size W2 w3):=⟨BW.out.trans (b3.mono BW.out.size),b3⟩
 clear b3
 go_wp2_with fail
 refine (isFullEvent_any _ _ _ _ w3).mono ?_
 rintro e w4 ⟨rfl,b4⟩
 have F4:Hid (Below w.heap.size w w4/\Below W2.heap.size W2 w4):=⟨F3.out.1.trans (b4.mono F3.out.1.size),F3.out.2.trans (b4.mono F3.out.2.size)⟩
 clear b4 F3
 by_cases h200:(200:Int)<=(x.hL p:Int)
 ·have HN:Hid (fuB x p k q=true):=by
   show fuB x p k q=true
   simp [fuB,show 200<=x.hL p by omega]
  rw [decide_eq_true h200]
  clear h200
  go_wp2
  go_ret
  rw [HN.out]
  exact ⟨rfl,F4.out.1⟩
 rw [decide_eq_false h200]
 have HN0:Hid (fuB x p k q=(k == 2 && decide (12<=x.wL (p*x.pn+q.toNat)))):=by
  show fuB x p k q=_
  simp [fuB,show ¬ 200<=x.hL p by omega]
 have e0:=(F4.out.2.cell (p:=⟨w.heap.size+1,0,none⟩) (zJ W2 _ NE.out.1)).trans NE.out.1
 have e1:=(F4.out.2.cell (p:=⟨w.heap.size+1,1,none⟩) (zJ W2 _ NE.out.2)).trans NE.out.2
 clear h200
 rcases zK (k == 2) with t2 | t2
 ·have hk2:k=2:=by simpa using t2
  obtain ⟨j,rfl,hj⟩:∃ j:Nat,q=(j:Int)/\j<x.pn:=by
   have:=hq hk2
   exact ⟨q.toNat,by omega,by omega⟩
  have hJ:p*x.pn+j<x.wn:=by
   rw [HW2.out]
   have:(p+1)*x.pn<=x.pn*x.pn:=Nat.mul_le_mul_right _ (by omega)
   rw [Nat.add_mul] at this
   omega
  have HWq:Hid (∀ wx,Below w.heap.size w wx->Calls Tryz.prog 60 #[x.v,.int .i64 p,.int .i64 j] wx fun e w'=>e=.returned (.agg #[.slice (x.wA (p*x.pn+j)) (x.wL (p*x.pn+j)) (x.wC (p*x.pn+j)),.int .i64 12])/\Below wx.heap.size wx w'):=fun wx hb=>wayQueue_any x p j wx (HG.out.below hb) (by omega) (by omega) h4 hJ
  have HN:Hid (fuB x p k j=decide ((12:Int)<=(x.wL (p*x.pn+j):Int))):=by
   show fuB x p k j=_
   rw [HN0.out,t2,Bool.true_and]
   have:(j:Int).toNat=j:=by omega
   rw [this]
   by_cases h:12<=x.wL (p*x.pn+j)
   ·rw [decide_eq_true h,decide_eq_true (by omega)]
   ·rw [decide_eq_false h,decide_eq_false (by omega)]
  rw [hk2] at e0
  generalize p*x.pn+j=J at *
  obtain ⟨k0,k1,k2,k3⟩:=NB.out.below F4.out.2
  clear hk2 t2 HN0 hq
  go_wp2_with fail
  refine (HWq.out w4 F4.out.1).mono ?_
  rintro e w5 ⟨rfl,b5⟩
  have F5:Hid (Below w.heap.size w w5):=F4.out.1.trans (b5.mono F4.out.1.size)
  clear b5 k0 k1 k2 k3 e0 e1
  go_wp2_with fail
  refine (isFullItem_any _ _ _ _ w5).mono ?_
  rintro e w6 ⟨rfl,b6⟩
  have F6:Hid (Below w.heap.size w w6):=F5.out.trans (b6.mono F5.out.size)
  clear b6
  go_wp2
  go_ret
  rw [HN.out]
  exact ⟨rfl,F6.out⟩
 ·have HN:Hid (fuB x p k q=false):=by
   show fuB x p k q=false
   rw [HN0.out,t2,Bool.false_and]
  clear HN0 hq
  go_wp2
  go_ret
  rw [HN.out]
  exact ⟨rfl,F4.out.1⟩
theorem EvK.putN {w:World} {M N:Nat} {k q v:Int} (h:EvK w M k q v) (hN:N≠M) (a b c:Value):EvK (((w.setCell ⟨N,0,none⟩ a).setCell ⟨N,1,none⟩ b).setCell ⟨N,2,none⟩ c) M k q v:=by
 obtain ⟨h0,h1,h2,hf⟩:=h
 exact ⟨by go_cell,by go_cell,by go_cell,fun j=>by simpa using hf j⟩
theorem BoxC.put3N {w:World} {M N:Nat} {p q r s:Value} (h:BoxC w M p q r s) (hN:N≠M) (a b c:Value):BoxC (((w.setCell ⟨N,0,none⟩ a).setCell ⟨N,1,none⟩ b).setCell ⟨N,2,none⟩ c) M p q r s:=by
 obtain ⟨h0,h1,h2,h3⟩:=h
 exact ⟨by go_cell,by go_cell,by go_cell,by go_cell⟩
def SysIn.nk (x:SysIn) (p:Nat):Int:=nxK (x.pH p) (x.pL p) (x.sQ p).p (x.sQ p).rs (x.sQ p).os (x.sQ p).c
def SysIn.nq (x:SysIn) (p:Nat):Int:=nxP (x.pH p) (x.pL p) (x.sQ p).p (x.sQ p).rs (x.sQ p).os (x.sQ p).c
def SysIn.nv (x:SysIn) (p:Nat):Int:=nxW (x.pH p) (x.pL p) (x.sQ p).p (x.sQ p).rs (x.sQ p).os (x.sQ p).c
def cmC (x:SysIn) (p:Nat) (f:Int):Int:=if (x.sQ p).c≠0 then 6 else if fuB x p (x.nk p) (x.nq p)=true then 4 else if x.nk p=3 then tkC x p (if x.nq p=9 then f else x.nq p) else 0
def cmV (x:SysIn) (p:Nat) (f:Int):Value:=if cmC x p f=0 then (if x.nk p=3 then tkV x p (if x.nq p=9 then f else x.nq p) else evV (x.nk p) (x.nq p) (x.nv p)) else evV 0 0 0
theorem tkV_ev (x:SysIn) (p:Nat) (g:Int):∃ k q v:Int,tkV x p g=evV k q v/\k≠2/\(tkC x p g≠0->evV k q v=evV 0 0 0):=by
 unfold tkV
 by_cases h:tkC x p g=0
 ·rw [if_pos h]
  exact ⟨3,g,_,rfl,by decide,fun hn=>absurd h hn⟩
 ·rw [if_neg h]
  exact ⟨0,0,0,rfl,by decide,fun _=>rfl⟩
theorem fuB_of {x:SysIn} {p:Nat} {k q k' q':Int} (h:k≠2) (h':k'≠2):fuB x p k q=fuB x p k' q':=by
 have e:(k == 2)=false:=by simpa using h
 have e':(k' == 2)=false:=by simpa using h'
 rw [fuB,fuB,e,e',Bool.false_and,Bool.false_and]
theorem comingIn_out (x:SysIn) (p f:Int) (w:World) (t1:belB p x.pn=false):
  Calls Tryz.prog 24 #[x.v,.int .i64 p,.int .i64 f] w fun e w'=>e=.returned (.tuple #[evV 0 0 0,.int .i64 2])/\Below w.heap.size w w':=by
 go_enter Tryz.func24,Tryz.ntmps24
 go_wp2_with fail
 refine (isBelow_any _ _ _).mono ?_
 rintro e w1 ⟨rfl,rfl⟩
 rw [t1]
 go_wp2
 exact bodyPost_ret (v:=.tuple #[evV 0 0 0,.int .i64 2]) (by simp [results,Tryz.results24,go_sem]) rfl ⟨rfl,by go_grown⟩
theorem comingIn_any (x:SysIn) (p:Nat) (f:Int) (w:World) (hG:SysG w x) (hL:x.Len) (hp:p<x.pn) (h4:x.pn<=4) (hs:x.sn=x.pn) (hh:x.hn=x.pn) (hw:x.wn=x.pn*x.pn) (hP:progOkB (x.pH p) (x.pL p) 4=true) (hq:x.nk p=2->0<=x.nq p/\x.nq p<x.pn):
  Calls Tryz.prog 24 #[x.v,.int .i64 p,.int .i64 f] w fun e w'=>e=.returned (.tuple #[cmV x p f,.int .i64 (cmC x p f)])/\Below w.heap.size w w':=by
 have HG:Hid (SysG w x):=hG
 have t1:belB (p:Int) x.pn=true:=by
  simp only [belB,decide_eq_true_eq]
  omega
 have hp':(p:Int)<(x.pn:Int):=by omega
 have hps:(p:Int)<(x.sn:Int):=by omega
 have HM:Hid (x.pL p<=maxLen/\(x.sQ p).os.length<=1048576):=⟨by have:=hL.p.2 p hp;unfold maxLen;omega,(hL.s.2 p (by omega)).2⟩
 have HT:Hid (∀ (g:Int) (wx:World),Below w.heap.size w wx->Calls Tryz.prog 54 #[x.v,.int .i64 p,.int .i64 g] wx fun e w'=>e=.returned (.tuple #[tkV x p g,.int .i64 (tkC x p g)])/\Below wx.heap.size wx w'):=fun g wx hb=>takeOf_any x p g wx (HG.out.below hb) hL hp h4 hw
 have HF:Hid (∀ (k q v:Int) (wx:World),(k=2->0<=q/\q<x.pn)->Below w.heap.size w wx->Calls Tryz.prog 56 #[x.v,.int .i64 p,evV k q v] wx fun e w'=>e=.returned (.bool (fuB x p k q))/\Below wx.heap.size wx w'):=fun k q v wx hk hb=>isFullFor_any x p k q v wx (HG.out.below hb) hp h4 hh hw hk
 have HP:Hid (progOkB (x.pH p) (x.pL p) 4=true):=hP
 have HQ:Hid (x.nk p=2->0<=x.nq p/\x.nq p<x.pn):=hq
 have HC:Hid (cmC x p f=(if (x.sQ p).c≠0 then 6 else if fuB x p (x.nk p) (x.nq p)=true then 4 else if x.nk p=3 then tkC x p (if x.nq p=9 then f else x.nq p) else 0)/\cmV x p f=if cmC x p f=0 then (if x.nk p=3 then tkV x p (if x.nq p=9 then f else x.nq p) else evV (x.nk p) (x.nq p) (x.nv p)) else evV 0 0 0):=⟨rfl,rfl⟩
 generalize cmV x p f=V at *
 generalize cmC x p f=C at *
 have BW:Hid (Below w.heap.size w ((w.alloc (oQ4 x.pa x.pn x.pc x.sa x.sn x.sc x.wa x.wn x.wc x.ha x.hn x.hc)).alloc (zQ4))):=(zT _ _).trans ((zT _ _).mono (by simp))
 have RX:Hid (EvK ((w.alloc (oQ4 x.pa x.pn x.pc x.sa x.sn x.sc x.wa x.wn x.wc x.ha x.hn x.hc)).alloc (zQ4)) (w.heap.size+1) 0 0 0):=⟨zW _ _ _ 0 (by simp),zW _ _ _ 1 (by simp),zW _ _ _ 2 (by simp),fun j=>yB _ _ _ _ (by simp)⟩
 have NB:Hid (BoxC ((w.alloc (oQ4 x.pa x.pn x.pc x.sa x.sn x.sc x.wa x.wn x.wc x.ha x.hn x.hc)).alloc (zQ4)) w.heap.size (.slice x.pa x.pn x.pc) (.slice x.sa x.sn x.sc) (.slice x.wa x.wn x.wc) (.slice x.ha x.hn x.hc)):=(BoxC.new w _ _ _ _ _).below (zT _ _)
 have hsp:p<x.sn:=by omega
 clear hG hL hw hh hs hP hq
 go_enter Tryz.func24,Tryz.ntmps24
 go_wp2_with fail
 refine (isBelow_any _ _ _).mono ?_
 rintro e w1 ⟨rfl,rfl⟩
 rw [t1]
 generalize (w.alloc (oQ4 x.pa x.pn x.pc x.sa x.sn x.sc x.wa x.wn x.wc x.ha x.hn x.hc)).alloc (zQ4)=W2 at *
 obtain ⟨bp,op,ep,cp⟩:=(HG.out.below BW.out).p.at hp
 obtain ⟨b',eb',hbl,hI⟩:=(HG.out.below BW.out).pi p hp
 obtain ⟨bs,os,es,s0,s1,s2,s3⟩:=(HG.out.below BW.out).s.at hsp
 obtain ⟨l1,l2⟩:=(HG.out.below BW.out).s.lst p hsp
 obtain ⟨b0,b1,b2,b3⟩:=NB.out
 rw [eb'] at cp
 rw [ep] at b0
 rw [es] at b1
 have HI:Hid (∀ wx,Below W2.heap.size W2 wx->b'<wx.heap.size/\InsAt wx b' 0 (x.pL p) (x.pH p)):=fun wx hb=>⟨zL hbl hb.size,hI.below hb hbl⟩
 have HS:Hid (Sl W2 (x.sQ p).ra (x.sQ p).rs/\Sl W2 (x.sQ p).oa (x.sQ p).os):=⟨l1,l2⟩
 obtain ⟨r0,r1,r2,rf⟩:=RX.out
 have z2:w.heap.size+1<W2.heap.size:=zJ W2 _ r0
 clear hI l1 l2 ep eb' es hbl t1
 by_cases h0:(x.sQ p).c=0
 case neg=>
  have HV:Hid (C=6/\V=evV 0 0 0):=by
   have h1:C=6:=by rw [HC.out.1,if_pos h0]
   exact ⟨h1,by rw [HC.out.2,if_neg (show ¬ C=0 by rw [h1];decide)]⟩
  have t0:((x.sQ p).c == 0)=false:=by simpa using h0
  go_wp2
  exact bodyPost_ret (v:=.tuple #[evV 0 0 0,.int .i64 6]) (by simp [results,Tryz.results24,go_sem,r0,r1,r2]) rfl ⟨by rw [HV.out.1,HV.out.2],((BW.out.setCell (Nat.le_succ _) _).setCell (Nat.le_succ _) _).setCell (Nat.le_succ _) _⟩
 have HC2:Hid (C=(if fuB x p (x.nk p) (x.nq p)=true then 4 else if x.nk p=3 then tkC x p (if x.nq p=9 then f else x.nq p) else 0)):=by
  show C=_
  rw [HC.out.1,if_neg (by simpa using h0)]
 rw [h0] at s3
 have HN:Hid (nxK (x.pH p) (x.pL p) (x.sQ p).p (x.sQ p).rs (x.sQ p).os 0=x.nk p/\nxP (x.pH p) (x.pL p) (x.sQ p).p (x.sQ p).rs (x.sQ p).os 0=x.nq p/\nxW (x.pH p) (x.pL p) (x.sQ p).p (x.sQ p).rs (x.sQ p).os 0=x.nv p):=by
  refine ⟨?_,?_,?_⟩ <;> simp only [SysIn.nk,SysIn.nq,SysIn.nv,h0]
 clear h0
 generalize x.nk p=K at *
 generalize x.nq p=Q at *
 generalize x.nv p=Y at *
 generalize x.sQ p=S at *
 have d1:W2.heap.size≠w.heap.size:=by omega
 have d2:W2.heap.size≠bp:=by have:=zJ W2 _ cp;simp at this;omega
 have d3:W2.heap.size≠bs:=by have:=zJ W2 _ s0;simp at this;omega
 have d4:W2.heap.size≠w.heap.size+1:=by omega
 go_wp2_with fail
 go_cut [8,9] from 25 to 35 (fun s t wx=>∃ N:Nat,s=.pointer (some ⟨N,0,none⟩)/\t=.int .i64 0/\Hid (Below W2.heap.size W2 wx/\W2.heap.size<=N/\EvK wx N K Q Y))
 case first=>
  go_region_held3 (fun w'=>w'.cell? ⟨w.heap.size,0,none⟩=some (.slice (some ⟨bp,op,none⟩) x.pn x.pc)/\w'.cell? ⟨w.heap.size,1,none⟩=some (.slice (some ⟨bs,os,none⟩) x.sn x.sc)/\w'.cell? ⟨bp,op+p,none⟩=some (.slice (some ⟨b',0,none⟩) (x.pL p) (x.pC p))/\w'.cell? ⟨bs,os+p*4,none⟩=some (.int .i64 S.p)/\w'.cell? ⟨bs,os+p*4+1,none⟩=some (.slice S.ra S.rs.length S.rc)/\w'.cell? ⟨bs,os+p*4+2,none⟩=some (.slice S.oa S.os.length S.oc)/\w'.cell? ⟨bs,os+p*4+3,none⟩=some (.int .i64 0)) (go_keep)
   (first
    | (go_at_call 53;refine (nextIn_any b' 0 (x.pL p) _ (x.pH p) S.p 0 S.ra S.oa S.rc S.oc S.rs S.os _ HM.out.1 (HI.out _ (by go_grown)).1 (HI.out _ (by go_grown)).2 HM.out.2 (HS.out.1.below (by go_grown)) (HS.out.2.below (by go_grown)) HP.out).mono ?_;rintro e w5 ⟨he,b5⟩;rw [HN.out.1,HN.out.2.1,HN.out.2.2] at he;subst he;have q5:Below W2.heap.size W2 w5:=below_up (by go_grown) b5 (by simp);obtain ⟨hc5,hf5⟩:=bcell b5;have z5:=b5.size;(try simp only [World.size_alloc,World.size_drew,Nat.add_one_le_iff] at z5);have j5:W2.heap.size<=w5.heap.size:=q5.size;have Q5:Hid (Below W2.heap.size W2 w5):=q5;have y0:=(q5.cell (p:=⟨w.heap.size,0,none⟩) (zJ W2 _ b0)).trans b0;have y1:=(q5.cell (p:=⟨w.heap.size,1,none⟩) (zJ W2 _ b1)).trans b1;have yp:=(q5.cell (p:=⟨bp,op+p,none⟩) (zJ W2 _ cp)).trans cp;have x0:=(q5.cell (p:=⟨bs,os+p*4,none⟩) (zJ W2 _ s0)).trans s0;have x1:=(q5.cell (p:=⟨bs,os+p*4+1,none⟩) (zJ W2 _ s1)).trans s1;have x2:=(q5.cell (p:=⟨bs,os+p*4+2,none⟩) (zJ W2 _ s2)).trans s2;have x3:=(q5.cell (p:=⟨bs,os+p*4+3,none⟩) (zJ W2 _ s3)).trans s3;clear b5 q5))
  all_goals
   go_wp2_with fail
   go_meet
   case rel=>
    first
    | (refine ⟨w5.heap.size, by with_reducible rfl, rfl, ?_⟩
       exact ⟨Q5.out.trans ((zT _ _).mono j5),j5,EvK.new _ _ _ _ _⟩)
    | (refine ⟨W2.heap.size, by with_reducible rfl, rfl, ?_⟩
       exact ⟨((Q5.out.setCell (Nat.le_refl _) _).setCell (Nat.le_refl _) _).setCell (Nat.le_refl _) _,Nat.le_refl _,EvK.put (k:=0) (q:=0) (v:=0) ⟨by rw [hc5 _ _ (by simp)];simp,by rw [hc5 _ _ (by simp)];simp,by rw [hc5 _ _ (by simp)];simp,fun j=>by rw [hf5 _ _ (by simp)];simp⟩ _ _ _⟩)
 case rest=>
  obtain ⟨N,rfl,rfl,HR⟩:=hcut
  clear b0 b1 b2 b3 cp s0 s1 s2 s3 d1 d2 d3 d4 HI HS HP HM hps hsp r0 r1 r2 rf
  have FB:Hid (Below w.heap.size w wc/\BoxC wc w.heap.size (.slice x.pa x.pn x.pc) (.slice x.sa x.sn x.sc) (.slice x.wa x.wn x.wc) (.slice x.ha x.hn x.hc)/\EvK wc N K Q Y/\EvK wc (w.heap.size+1) 0 0 0):=⟨BW.out.trans (HR.out.1.mono BW.out.size),NB.out.below HR.out.1,HR.out.2.2,RX.out.below HR.out.1⟩
  have hNz:w.heap.size+1<N:=zL z2 HR.out.2.1
  have hNl:w.heap.size<=N:=by omega
  have d1:N≠w.heap.size:=by omega
  have d2:N≠w.heap.size+1:=by omega
  clear HR NB RX BW z2
  rcases zK (K == 3) with t3 | t3
  case inr=>
   have h3:¬ K=3:=by simpa using t3
   have HFull:Hid (fuB x p K Q=true->C=4/\V=evV 0 0 0):=fun h=>by
    have h1:C=4:=by rw [HC2.out,if_pos h]
    exact ⟨h1,by rw [HC.out.2,if_neg (show ¬ C=0 by rw [h1];decide)]⟩
   have HFree:Hid (fuB x p K Q=false->C=0/\V=evV K Q Y):=fun h=>by
    have h1:C=0:=by rw [HC2.out,if_neg (by rw [h];decide),if_neg h3]
    exact ⟨h1,by rw [HC.out.2,if_pos h1,if_neg h3]⟩
   have HQ2:Hid (K=2->0<=Q/\Q<x.pn):=HQ.out
   clear h3 HC HC2 HQ HT
   obtain ⟨m0,m1,m2,m3⟩:=FB.out.2.1
   obtain ⟨n0,n1,n2,-⟩:=FB.out.2.2.1
   go_wp2_with fail
   refine (HF.out K Q Y wc HQ2.out FB.out.1).mono ?_
   rintro e w9 ⟨rfl,b9⟩
   have F9:Hid (Below w.heap.size w w9/\EvK w9 N K Q Y/\EvK w9 (w.heap.size+1) 0 0 0):=⟨FB.out.1.trans (b9.mono FB.out.1.size),FB.out.2.2.1.below b9,FB.out.2.2.2.below b9⟩
   clear b9 m0 m1 m2 m3 n0 n1 n2
   obtain ⟨r0,r1,r2,rf⟩:=F9.out.2.2
   obtain ⟨n0,n1,n2,-⟩:=F9.out.2.1
   have z9:w.heap.size+1<w9.heap.size:=zJ w9 _ r0
   rcases zK (fuB x p K Q) with tf | tf
   ·have HV:Hid (C=4/\V=evV 0 0 0):=HFull.out tf
    rw [tf]
    go_wp2
    exact bodyPost_ret (v:=.tuple #[evV 0 0 0,.int .i64 4]) (by simp [results,Tryz.results24,go_sem,r0,r1,r2]) rfl ⟨by rw [HV.out.1,HV.out.2],((F9.out.1.setCell (Nat.le_succ _) _).setCell (Nat.le_succ _) _).setCell (Nat.le_succ _) _⟩
   ·have HV:Hid (C=0/\V=evV K Q Y):=HFree.out tf
    rw [tf]
    go_wp2
    exact bodyPost_ret (v:=.tuple #[evV K Q Y,.int .i64 0]) (by simp [results,Tryz.results24,go_sem,r0,r1,r2]) rfl ⟨by rw [HV.out.1,HV.out.2],((F9.out.1.setCell (Nat.le_succ _) _).setCell (Nat.le_succ _) _).setCell (Nat.le_succ _) _⟩
  case inl=>
   have h3:K=3:=by simpa using t3
   subst h3
   clear t3 HQ
   have HPo:Hid (∀ (wx:World),Calls Tryz.prog 55 #[evV 3 Q Y,.int .i64 f] wx fun e w'=>e=.returned (.int .i64 (if Q=9 then f else Q))/\Below wx.heap.size wx w'):=fun wx=>peerOf_any 3 Q Y f wx
   generalize (if Q=9 then f else Q)=G at *
   obtain ⟨k',q',v',hE,hk2,hE0⟩:=tkV_ev x p G
   have HT2:Hid (∀ (wx:World),Below w.heap.size w wx->Calls Tryz.prog 54 #[x.v,.int .i64 p,.int .i64 G] wx fun e w'=>e=.returned (.tuple #[evV k' q' v',.int .i64 (tkC x p G)])/\Below wx.heap.size wx w'):=by
    have:=HT.out G
    rw [hE] at this
    exact this
   have HFull:Hid (fuB x p k' q'=true->C=4/\V=evV 0 0 0):=fun h=>by
    have h1:C=4:=by rw [HC2.out,if_pos ((fuB_of (by decide) hk2).trans h)]
    exact ⟨h1,by rw [HC.out.2,if_neg (show ¬ C=0 by rw [h1];decide)]⟩
   have HFree:Hid (fuB x p k' q'=false->C=tkC x p G/\V=evV k' q' v'):=fun h=>by
    have h1:C=tkC x p G:=by rw [HC2.out,if_neg (by rw [fuB_of (by decide) hk2,h];decide),if_pos rfl]
    refine ⟨h1,?_⟩
    rw [HC.out.2]
    by_cases h0:C=0
    ·rw [if_pos h0,if_pos rfl,hE]
    ·rw [if_neg h0,hE0 (by rw [<- h1];exact h0)]
   have HK2:Hid (k'=2->0<=q'/\q'<(x.pn:Int)):=fun h=>absurd h hk2
   clear HC HC2 HT hE hk2 hE0
   generalize tkC x p G=T at *
   obtain ⟨m0,m1,m2,m3⟩:=FB.out.2.1
   obtain ⟨n0,n1,n2,-⟩:=FB.out.2.2.1
   go_wp2_with fail
   go_region_law (first
    | (refine step_call rfl 55 _ _ rfl #[evV 3 Q Y,.int .i64 f] (by simp [Act.eval]) (yA Tryz.func55 (by kernel_rfl) rfl) (HPo.out _) ?_;rintro e w6 ⟨rfl,b6⟩;refine ⟨_,rfl,?_⟩;have q6:Below wc.heap.size wc w6:=below_up (by go_grown) b6 (by simp);have Q6:Hid (Below wc.heap.size wc w6):=q6;have m06:=(q6.cell (p:=⟨w.heap.size,0,none⟩) (zJ wc _ m0)).trans m0;have m16:=(q6.cell (p:=⟨w.heap.size,1,none⟩) (zJ wc _ m1)).trans m1;have m26:=(q6.cell (p:=⟨w.heap.size,2,none⟩) (zJ wc _ m2)).trans m2;have m36:=(q6.cell (p:=⟨w.heap.size,3,none⟩) (zJ wc _ m3)).trans m3;clear b6 q6)
    | (refine step_call rfl 54 _ _ rfl #[x.v,.int .i64 p,.int .i64 G] (by simp [Act.eval,SysIn.v]) (yA Tryz.func54 (by kernel_rfl) rfl) (HT2.out _ (FB.out.1.trans (Q6.out.mono FB.out.1.size))) ?_;rintro e w7 ⟨rfl,b7⟩;refine ⟨_,rfl,?_⟩;have q7:Below wc.heap.size wc w7:=below_up Q6.out b7 Q6.out.size;have Q7:Hid (Below wc.heap.size wc w7):=q7;have hf7:=(FB.out.2.2.1.below Q7.out).fr;have m07:=(q7.cell (p:=⟨w.heap.size,0,none⟩) (zJ wc _ m0)).trans m0;have m17:=(q7.cell (p:=⟨w.heap.size,1,none⟩) (zJ wc _ m1)).trans m1;have m27:=(q7.cell (p:=⟨w.heap.size,2,none⟩) (zJ wc _ m2)).trans m2;have m37:=(q7.cell (p:=⟨w.heap.size,3,none⟩) (zJ wc _ m3)).trans m3;have n07:=(q7.cell (p:=⟨N,0,none⟩) (zJ wc _ n0)).trans n0;have n17:=(q7.cell (p:=⟨N,1,none⟩) (zJ wc _ n1)).trans n1;have n27:=(q7.cell (p:=⟨N,2,none⟩) (zJ wc _ n2)).trans n2;clear b7 q7))
   all_goals
    go_upto_region 9 with fail
    have FD:Hid (Below w.heap.size w w7/\BoxC w7 w.heap.size (.slice x.pa x.pn x.pc) (.slice x.sa x.sn x.sc) (.slice x.wa x.wn x.wc) (.slice x.ha x.hn x.hc)/\EvK w7 N 3 Q Y/\EvK w7 (w.heap.size+1) 0 0 0):=⟨FB.out.1.trans (Q7.out.mono FB.out.1.size),FB.out.2.1.below Q7.out,FB.out.2.2.1.below Q7.out,FB.out.2.2.2.below Q7.out⟩
    have FE:Hid (Below w.heap.size w (((w7.setCell ⟨N,0,none⟩ (.int .i64 k')).setCell ⟨N,1,none⟩ (.int .i64 q')).setCell ⟨N,2,none⟩ (.int .i64 v'))/\BoxC (((w7.setCell ⟨N,0,none⟩ (.int .i64 k')).setCell ⟨N,1,none⟩ (.int .i64 q')).setCell ⟨N,2,none⟩ (.int .i64 v')) w.heap.size (.slice x.pa x.pn x.pc) (.slice x.sa x.sn x.sc) (.slice x.wa x.wn x.wc) (.slice x.ha x.hn x.hc)/\EvK (((w7.setCell ⟨N,0,none⟩ (.int .i64 k')).setCell ⟨N,1,none⟩ (.int .i64 q')).setCell ⟨N,2,none⟩ (.int .i64 v')) N k' q' v'/\EvK (((w7.setCell ⟨N,0,none⟩ (.int .i64 k')).setCell ⟨N,1,none⟩ (.int .i64 q')).setCell ⟨N,2,none⟩ (.int .i64 v')) (w.heap.size+1) 0 0 0):=⟨((FD.out.1.setCell (p:=⟨N,0,none⟩) hNl _).setCell (p:=⟨N,1,none⟩) hNl _).setCell (p:=⟨N,2,none⟩) hNl _,FD.out.2.1.put3N d1 _ _ _,FD.out.2.2.1.put _ _ _,FD.out.2.2.2.putN d2 _ _ _⟩
    generalize ((w7.setCell ⟨N,0,none⟩ (.int .i64 k')).setCell ⟨N,1,none⟩ (.int .i64 q')).setCell ⟨N,2,none⟩ (.int .i64 v')=wd at *
    clear FD FB Q6 Q7 HPo HT2 m06 m16 m26 m36 m07 m17 m27 m37 n07 n17 n27 hf7 m0 m1 m2 m3 n0 n1 n2
    obtain ⟨m0,m1,m2,m3⟩:=FE.out.2.1
    obtain ⟨n0,n1,n2,-⟩:=FE.out.2.2.1
    go_wp2_with fail
    refine (HF.out k' q' v' wd HK2.out FE.out.1).mono ?_
    rintro e w9 ⟨rfl,b9⟩
    have F9:Hid (Below w.heap.size w w9/\EvK w9 N k' q' v'/\EvK w9 (w.heap.size+1) 0 0 0):=⟨FE.out.1.trans (b9.mono FE.out.1.size),FE.out.2.2.1.below b9,FE.out.2.2.2.below b9⟩
    clear b9 m0 m1 m2 m3 n0 n1 n2
    obtain ⟨r0,r1,r2,rf⟩:=F9.out.2.2
    obtain ⟨n0,n1,n2,-⟩:=F9.out.2.1
    have z9:w.heap.size+1<w9.heap.size:=zJ w9 _ r0
    rcases zK (fuB x p k' q') with tf | tf
    ·have HV:Hid (C=4/\V=evV 0 0 0):=HFull.out tf
     rw [tf]
     go_wp2
     exact bodyPost_ret (v:=.tuple #[evV 0 0 0,.int .i64 4]) (by simp [results,Tryz.results24,go_sem,r0,r1,r2]) rfl ⟨by rw [HV.out.1,HV.out.2],((F9.out.1.setCell (Nat.le_succ _) _).setCell (Nat.le_succ _) _).setCell (Nat.le_succ _) _⟩
    ·have HV:Hid (C=T/\V=evV k' q' v'):=HFree.out tf
     rw [tf]
     go_wp2
     exact bodyPost_ret (v:=.tuple #[evV k' q' v',.int .i64 T]) (by simp [results,Tryz.results24,go_sem,r0,r1,r2]) rfl ⟨by rw [HV.out.1,HV.out.2],((F9.out.1.setCell (Nat.le_succ _) _).setCell (Nat.le_succ _) _).setCell (Nat.le_succ _) _⟩
theorem cmC_y (x:SysIn) (p:Nat) (f:Int):cmC x p f=cmS x.y p f:=rfl
def chN (x:SysIn) (p:Nat):Nat:=if x.nq p=9 then x.pn else 1
def rdL (c:Nat->Int):Nat->List Int
 | 0=>[]
 | k+1=>if c k=0 then rdL c k ++ [(k:Int)] else rdL c k
theorem rdL_hit {c:Nat->Int} {k:Nat} (h:c k=0):rdL c (k+1)=rdL c k ++ [(k:Int)]:=by rw [rdL,if_pos h]
theorem rdL_not {c:Nat->Int} {k:Nat} (h:¬ c k=0):rdL c (k+1)=rdL c k:=by rw [rdL,if_neg h]
theorem rdL_le (c:Nat->Int) (k:Nat):(rdL c k).length<=k:=by
 induction k with
 | zero=>simp [rdL]
 | succ k ih=>
  rw [rdL]
  split
  ·rw [List.length_append];simp;exact ih
  ·omega
theorem cmV_ev (x:SysIn) (p:Nat) (f:Int):∃ k q v:Int,cmV x p f=evV k q v:=by
 unfold cmV
 split
 ·split
  ·obtain ⟨k,q,v,h,-⟩:=tkV_ev x p (if x.nq p=9 then f else x.nq p)
   exact ⟨k,q,v,h⟩
  ·exact ⟨_,_,_,rfl⟩
 ·exact ⟨_,_,_,rfl⟩
theorem choicesIn_any (x:SysIn) (p:Nat) (w:World) (hG:SysG w x) (hL:x.Len) (hp:p<x.pn) (hs:x.sn=x.pn) (hP:progOkB (x.pH p) (x.pL p) 4=true):
  Calls Tryz.prog 36 #[x.v,.int .i64 p] w fun e w'=>e=.returned (.int .i64 (chN x p:Nat))/\Below w.heap.size w w':=by
 have HG:Hid (SysG w x):=hG
 have HB:Hid (∀ wx,Calls Tryz.prog 52 #[.int .i64 p,.int .i64 x.pn] wx fun e w'=>e=.returned (.bool true)/\w'=wx):=fun wx=>by
  have:=isBelow_any p x.pn wx
  rw [show belB (p:Int) x.pn=true by simp only [belB,decide_eq_true_eq];omega] at this
  exact this
 have hp':(p:Int)<(x.pn:Int):=by omega
 have hps:(p:Int)<(x.sn:Int):=by omega
 have hsp:p<x.sn:=by omega
 have HM:Hid (x.pL p<=maxLen/\(x.sQ p).os.length<=1048576):=⟨by have:=hL.p.2 p hp;unfold maxLen;omega,(hL.s.2 p (by omega)).2⟩
 have HP:Hid (progOkB (x.pH p) (x.pL p) 4=true):=hP
 have HN:Hid (nxK (x.pH p) (x.pL p) (x.sQ p).p (x.sQ p).rs (x.sQ p).os (x.sQ p).c=x.nk p/\nxP (x.pH p) (x.pL p) (x.sQ p).p (x.sQ p).rs (x.sQ p).os (x.sQ p).c=x.nq p/\nxW (x.pH p) (x.pL p) (x.sQ p).p (x.sQ p).rs (x.sQ p).os (x.sQ p).c=x.nv p):=⟨rfl,rfl,rfl⟩
 have HC:Hid (chN x p=if x.nq p=9 then x.pn else 1):=rfl
 generalize chN x p=C at *
 generalize x.nk p=K at *
 generalize x.nq p=Q at *
 generalize x.nv p=Y at *
 have BW:Hid (Below w.heap.size w (w.alloc (oQ4 x.pa x.pn x.pc x.sa x.sn x.sc x.wa x.wn x.wc x.ha x.hn x.hc))):=zT _ _
 have NB:Hid (BoxC (w.alloc (oQ4 x.pa x.pn x.pc x.sa x.sn x.sc x.wa x.wn x.wc x.ha x.hn x.hc)) w.heap.size (.slice x.pa x.pn x.pc) (.slice x.sa x.sn x.sc) (.slice x.wa x.wn x.wc) (.slice x.ha x.hn x.hc)):=BoxC.new w _ _ _ _ _
 clear hG hL hs hP
 go_enter Tryz.func36,Tryz.ntmps36
 go_wp2_with fail
 generalize w.alloc (oQ4 x.pa x.pn x.pc x.sa x.sn x.sc x.wa x.wn x.wc x.ha x.hn x.hc)=W2 at *
 obtain ⟨bp,op,ep,cp⟩:=(HG.out.below BW.out).p.at hp
 obtain ⟨b',eb',hbl,hI⟩:=(HG.out.below BW.out).pi p hp
 obtain ⟨bs,os,es,s0,s1,s2,s3⟩:=(HG.out.below BW.out).s.at hsp
 obtain ⟨l1,l2⟩:=(HG.out.below BW.out).s.lst p hsp
 obtain ⟨b0,b1,-,-⟩:=NB.out
 rw [eb'] at cp
 rw [ep] at b0
 rw [es] at b1
 have HI:Hid (∀ d os',b'<(grow (redrawn W2 d) os').heap.size/\InsAt (grow (redrawn W2 d) os') b' 0 (x.pL p) (x.pH p)):=fun d os'=>⟨zL hbl (below_regrown W2 d os').size,hI.below (below_regrown W2 d os') hbl⟩
 have HS:Hid (∀ d os',Sl (grow (redrawn W2 d) os') (x.sQ p).ra (x.sQ p).rs/\Sl (grow (redrawn W2 d) os') (x.sQ p).oa (x.sQ p).os):=fun d os'=>⟨l1.below (below_regrown W2 d os'),l2.below (below_regrown W2 d os')⟩
 generalize x.sQ p=S at *
 have HNx:Hid (∀ d os',Calls Tryz.prog 53 #[.slice (some ⟨b',0,none⟩) (x.pL p) (x.pC p),stV S.p S.ra S.rs.length S.rc S.oa S.os.length S.oc S.c] (grow (redrawn W2 d) os') fun e w'=>e=.returned (.agg #[.int .i64 K,.int .i64 Q,.int .i64 Y])/\Below (grow (redrawn W2 d) os').heap.size (grow (redrawn W2 d) os') w'):=fun d os'=>by
  have:=nextIn_any b' 0 (x.pL p) (x.pC p) (x.pH p) S.p S.c S.ra S.oa S.rc S.oc S.rs S.os _ HM.out.1 (HI.out d os').1 (HI.out d os').2 HM.out.2 (HS.out d os').1 (HS.out d os').2 HP.out
  rw [HN.out.1,HN.out.2.1,HN.out.2.2] at this
  exact this
 have hfd:∀ wx:World,(Instr.field 47 (.agg #[.int .i64 K,.int .i64 Q,.int .i64 Y]) 1).run Tryz.prog wx=.ok (.int .i64 Q) wx:=fun _=>by kernel_rfl
 have b0':=cell_regrown b0
 have b1':=cell_regrown b1
 have cp':=cell_regrown cp
 have s0':=cell_regrown s0
 have s1':=cell_regrown s1
 have s2':=cell_regrown s2
 have s3':=cell_regrown s3
 clear hI l1 l2 ep eb' es hbl HI HS HM HP HN
 refine wp_region_quiet_below (by kernel_rfl) (by kernel_rfl) ?_
 repeat (quiet_step (first|(go_at_call 52;exact Calls.regrown_same (HB.out _))|(go_at_call 53;exact Calls.regrown_of (HNx.out _ _))))
 refine wpQuiet_nil ?_
 intro _ hw'
 obtain ⟨⟨dq,osq⟩,hw''⟩:=hw'
 subst hw''
 have B3:Hid (Below w.heap.size w (grow (redrawn W2 dq) osq)):=BW.out.trans ((below_regrown W2 dq osq).mono BW.out.size)
 have N3:=(NB.out.below (below_regrown W2 dq osq)).1
 generalize grow (redrawn W2 dq) osq=w3 at *
 clear hfd b0' b1' cp' s0' s1' s2' s3' b0 b1 cp s0 s1 s2 s3 HNx HB
 rcases zK (Q == 9) with t | t
 ·have HV:Hid (C=x.pn):=by
   show C=x.pn
   rw [HC.out,if_pos (by simpa using t)]
  rw [t]
  clear HC
  go_wp2
  go_ret
  rw [HV.out]
  exact ⟨rfl,B3.out⟩
 ·have HV:Hid (C=1):=by
   show C=1
   rw [HC.out,if_neg (by simpa using t)]
  rw [t]
  clear HC
  go_wp2
  go_ret
  rw [HV.out]
  exact ⟨rfl,B3.out⟩
theorem box_low {w w':World} {N:Nat} {a b c d:Value} (h:Below (N+1) w w') (o:BoxC w N a b c d):BoxC w' N a b c d:=
 ⟨(h.cell (p:=⟨N,0,none⟩) (Nat.lt_succ_self _)).trans o.1,(h.cell (p:=⟨N,1,none⟩) (Nat.lt_succ_self _)).trans o.2.1,(h.cell (p:=⟨N,2,none⟩) (Nat.lt_succ_self _)).trans o.2.2.1,(h.cell (p:=⟨N,3,none⟩) (Nat.lt_succ_self _)).trans o.2.2.2⟩
theorem readyIn_of (x:SysIn) (p:Int) (n:Nat) (c:Nat->Int) (w:World) (hn:n<=4)
  (hC:∀ wx,Below w.heap.size w wx->Calls Tryz.prog 36 #[x.v,.int .i64 p] wx fun e w'=>e=.returned (.int .i64 n)/\Below wx.heap.size wx w')
  (hM:∀ (j:Nat),j<n->∀ wx,Below w.heap.size w wx->Calls Tryz.prog 24 #[x.v,.int .i64 p,.int .i64 j] wx fun e w'=>∃ k q v:Int,e=.returned (.tuple #[.agg #[.int .i64 k,.int .i64 q,.int .i64 v],.int .i64 (c j)])/\Below wx.heap.size wx w'):
  Calls Tryz.prog 18 #[x.v,.int .i64 p] w fun e w'=>∃ v,e=.returned v/\OwnI w' w.heap.size v (rdL c n)/\Below w.heap.size w w':=by
 have hl':(n:Int)<=4:=by omega
 have HC:Hid (∀ wx,Below w.heap.size w wx->Calls Tryz.prog 36 #[x.v,.int .i64 p] wx fun e w'=>e=.returned (.int .i64 n)/\Below wx.heap.size wx w'):=hC
 have HM:Hid (∀ (j:Nat),j<n->∀ wx,Below w.heap.size w wx->Calls Tryz.prog 24 #[x.v,.int .i64 p,.int .i64 j] wx fun e w'=>∃ k q v:Int,e=.returned (.tuple #[.agg #[.int .i64 k,.int .i64 q,.int .i64 v],.int .i64 (c j)])/\Below wx.heap.size wx w'):=hM
 have BW:Hid (Below w.heap.size w ((w.alloc (oQ4 x.pa x.pn x.pc x.sa x.sn x.sc x.wa x.wn x.wc x.ha x.hn x.hc)).alloc (.cells #[] 3))):=(zT _ _).trans ((zT _ _).mono (by simp))
 have NB:Hid (BoxC ((w.alloc (oQ4 x.pa x.pn x.pc x.sa x.sn x.sc x.wa x.wn x.wc x.ha x.hn x.hc)).alloc (.cells #[] 3)) w.heap.size (.slice x.pa x.pn x.pc) (.slice x.sa x.sn x.sc) (.slice x.wa x.wn x.wc) (.slice x.ha x.hn x.hc)):=(BoxC.new w _ _ _ _ _).below (zT _ _)
 have NO:Hid (OwnI ((w.alloc (oQ4 x.pa x.pn x.pc x.sa x.sn x.sc x.wa x.wn x.wc x.ha x.hn x.hc)).alloc (.cells #[] 3)) (w.heap.size+1) (.slice (some ⟨w.heap.size+1,0,none⟩) 0 0) []):=by
  have:=own_empty (w.alloc (oQ4 x.pa x.pn x.pc x.sa x.sn x.sc x.wa x.wn x.wc x.ha x.hn x.hc))
  simp only [World.size_alloc] at this
  exact this
 clear hC hM
 go_enter Tryz.func18,Tryz.ntmps18
 go_wp2_with fail
 generalize (w.alloc (oQ4 x.pa x.pn x.pc x.sa x.sn x.sc x.wa x.wn x.wc x.ha x.hn x.hc)).alloc (.cells #[] 3)=W2 at *
 refine (HC.out W2 BW.out).mono ?_
 rintro e w3 ⟨rfl,b3⟩
 have F3:Hid (Below w.heap.size w w3/\BoxC w3 w.heap.size (.slice x.pa x.pn x.pc) (.slice x.sa x.sn x.sc) (.slice x.wa x.wn x.wc) (.slice x.ha x.hn x.hc)/\OwnI w3 (w.heap.size+1) (.slice (some ⟨w.heap.size+1,0,none⟩) 0 0) []):=⟨BW.out.trans (b3.mono BW.out.size),NB.out.below b3,NO.out.below b3⟩
 clear b3 NB BW NO HC
 go_wp2_with fail
 go_loopw [5,13] (fun o i wr=>∃ k:Nat,k<=n/\i=.int .i64 k/\Hid (OwnI wr (w.heap.size+1) o (rdL c k))/\Hid (Below w.heap.size w wr/\BoxC wr w.heap.size (.slice x.pa x.pn x.pc) (.slice x.sa x.sn x.sc) (.slice x.wa x.wn x.wc) (.slice x.ha x.hn x.hc))) (fun _ i _=>n - (intOf i).toNat)
 case atStart=>exact ⟨0,Nat.zero_le _,rfl,F3.out.2.2,F3.out.1,F3.out.2.1⟩
 case round=>
  clear F3
  obtain ⟨k,hk,rfl,HO,FB⟩:=hrel
  have hs:=FB.out.1.size
  by_cases hlt:k<n
  ·have hlt':(k:Int)<(n:Int):=by omega
   have hvl:=rdL_le c k
   obtain ⟨m0,m1,m2,m3⟩:=FB.out.2
   go_wp2_with fail
   refine (HM.out k hlt wr FB.out.1).mono ?_
   rintro e w5 ⟨ek,eq,ev,rfl,b5⟩
   have B5:Hid (Below w.heap.size w w5/\BoxC w5 w.heap.size (.slice x.pa x.pn x.pc) (.slice x.sa x.sn x.sc) (.slice x.wa x.wn x.wc) (.slice x.ha x.hn x.hc)/\OwnI w5 (w.heap.size+1) u5 (rdL c k)):=⟨FB.out.1.trans (b5.mono hs),FB.out.2.below b5,HO.out.below b5⟩
   have hs5:w.heap.size<=w5.heap.size:=B5.out.1.size
   have hs6:w.heap.size+1<=w5.heap.size:=zJ w5 ⟨w.heap.size,0,none⟩ B5.out.2.1.1
   have HA:Hid (∀ o,Below w.heap.size w (w5.alloc o)/\BoxC (w5.alloc o) w.heap.size (.slice x.pa x.pn x.pc) (.slice x.sa x.sn x.sc) (.slice x.wa x.wn x.wc) (.slice x.ha x.hn x.hc)/\OwnI (w5.alloc o) (w.heap.size+1) u5 (rdL c k)):=fun o=>⟨B5.out.1.trans ((zT _ _).mono hs5),B5.out.2.1.below (zT _ _),B5.out.2.2.below (zT _ _)⟩
   clear b5 m0 m1 m2 m3 HO FB
   rcases zK (c k == 0) with t | t
   ·have HH:Hid (rdL c (k+1)=rdL c k ++ [(k:Int)]):=rdL_hit (by simpa using t)
    have h0:c k=0:=by simpa using t
    rw [h0]
    clear h0 t
    go_wp2_with (at_builtin;refine append_oneN _ (N:=w5.heap.size+1) (by simp) rfl _ _ rfl (w.heap.size+1) u5 (rdL c k) rfl (HA.out _).2.2 (k:Int) rfl (by omega) (by simp;omega) ?_;intro v' w6 o6 b6;have H6:Hid (OwnI w6 (w.heap.size+1) v' (rdL c (k+1))/\Below w.heap.size w w6/\BoxC w6 w.heap.size (.slice x.pa x.pn x.pc) (.slice x.sa x.sn x.sc) (.slice x.wa x.wn x.wc) (.slice x.ha x.hn x.hc)):=⟨o6.to HH.out,(HA.out _).1.trans (b6.mono (Nat.le_succ _)),box_low b6 (HA.out _).2.1⟩;clear o6 b6)
    go_roundw
    case rel=>exact ⟨k+1,by omega,by go_num,H6.out.1,H6.out.2⟩
    case measure=>simp [intOf];omega
   ·have HH:Hid (rdL c (k+1)=rdL c k):=rdL_not (by simpa using t)
    go_wp2
    go_roundw
    case rel=>exact ⟨k+1,by omega,by go_num,(HA.out _).2.2.to HH.out,(HA.out _).1,(HA.out _).2.1⟩
    case measure=>simp [intOf];omega
  ·have hkl:k=n:=by omega
   have H4:Hid (OwnI wr (w.heap.size+1) u5 (rdL c n)):=by
    have:=HO.out
    rw [hkl] at this
    exact this
   clear HO hkl
   go_wp2
   go_ret
   exact ⟨_,rfl,H4.out.mono (Nat.le_succ _),FB.out.1⟩
theorem send_peer {x:SysIn} (h:x.y.Ok) {p:Nat} (hp:p<x.pn) (hk:x.nk p=2):0<=x.nq p/\x.nq p<x.pn:=by
 unfold SysIn.nk nxK at hk
 unfold SysIn.nq nxP
 by_cases hr:rightB (x.pH p) (x.pL p) (x.sQ p).p (x.sQ p).rs (x.sQ p).os (x.sQ p).c=true
 ·rw [if_pos hr] at hk ⊢
  obtain ⟨-,h4,-⟩:=right_parts hr
  obtain ⟨-,⟨k,ek,hkl⟩,-⟩:=st_parts h4
  have e:(x.sQ p).p.toNat=k:=by omega
  rw [e] at hk ⊢
  have h5:=right_ins (h.pr p hp) hkl
  simp only [insOkB,Bool.and_eq_true] at h5
  have h6:=h5.2
  change opOkB (x.pH p k).o (x.pH p k).r (x.pH p k).a (x.pH p k).b (x.pH p k).n (x.pL p) x.pn=true at h6
  have e6:(x.pH p k).o=6:=by
   unfold evK at hk
   by_cases e6:(x.pH p k).o=6
   ·exact e6
   ·rw [if_neg e6] at hk
    split at hk
    ·cases hk
    ·split at hk <;> cases hk
  rw [evP,if_pos e6]
  simp [opOkB,e6,inB] at h6
  omega
 ·rw [if_neg hr] at hk
  cases hk
theorem prog_four {x:SysIn} (h:x.y.Ok) {p:Nat} (hp:p<x.pn):progOkB (x.pH p) (x.pL p) 4=true:=(repO_some (h.rp p hp)).1
def rdX (x:SysIn) (p:Nat):List Int:=rdL (fun j=>cmC x p j) (chN x p)
noncomputable def hltB (x:SysIn):Bool:=x.y.okB && (List.range x.pn).all fun p=>(rdX x p).isEmpty
theorem readyIn_any (x:SysIn) (p:Nat) (w:World) (hG:SysG w x) (hL:x.Len) (hO:x.y.Ok) (hp:p<x.pn):
  Calls Tryz.prog 18 #[x.v,.int .i64 p] w fun e w'=>∃ v,e=.returned v/\OwnI w' w.heap.size v (rdX x p)/\Below w.heap.size w w':=by
 obtain ⟨⟨-,h4⟩,hs,hh,hw⟩:=hO.cn
 refine readyIn_of x p (chN x p) (fun j=>cmC x p j) w ?_ (fun wx hb=>choicesIn_any x p wx (hG.below hb) hL hp hs (prog_four hO hp)) (fun j _ wx hb=>?_)
 ·unfold chN
  split
  ·exact h4
  ·omega
 ·refine (comingIn_any x p j wx (hG.below hb) hL hp h4 hs hh hw (prog_four hO hp) (send_peer hO hp)).mono ?_
  rintro e w' ⟨rfl,b⟩
  obtain ⟨k,q,v,h⟩:=cmV_ev x p j
  exact ⟨k,q,v,by rw [h],b⟩
theorem implHalted_any (x:SysIn) (w:World) (hG:SysG w x) (hL:x.Len) (hV:w.cell? ⟨0,0,none⟩=some (.iface 204 (.agg #[.pointer (some ⟨1,150,none⟩)]))):
  Calls Tryz.prog 9 #[x.v] w fun e w'=>e=.returned (.bool (hltB x))/\Below w.heap.size w w':=by
 have HG:Hid (SysG w x):=hG
 have HL:Hid x.Len:=hL
 have HS:Hid (∀ wx,Below w.heap.size w wx->Calls Tryz.prog 17 #[x.v] wx fun e w'=>e=.returned (.bool x.y.okB)/\Below wx.heap.size wx w'):=fun wx hb=>implSysOk_any x wx (HG.out.below hb) hL ((hb.cell (p:=⟨0,0,none⟩) (zJ w _ hV)).trans hV)
 have BW:Hid (Below w.heap.size w (w.alloc (oQ4 x.pa x.pn x.pc x.sa x.sn x.sc x.wa x.wn x.wc x.ha x.hn x.hc))):=zT _ _
 have NB:Hid (BoxC (w.alloc (oQ4 x.pa x.pn x.pc x.sa x.sn x.sc x.wa x.wn x.wc x.ha x.hn x.hc)) w.heap.size (.slice x.pa x.pn x.pc) (.slice x.sa x.sn x.sc) (.slice x.wa x.wn x.wc) (.slice x.ha x.hn x.hc)):=BoxC.new w _ _ _ _ _
 clear hG hL hV
 go_enter Tryz.func9,Tryz.ntmps9
 go_wp2_with fail
 generalize w.alloc (oQ4 x.pa x.pn x.pc x.sa x.sn x.sc x.wa x.wn x.wc x.ha x.hn x.hc)=W2 at *
 refine (HS.out W2 BW.out).mono ?_
 rintro e w3 ⟨rfl,b3⟩
 have F3:Hid (Below w.heap.size w w3/\BoxC w3 w.heap.size (.slice x.pa x.pn x.pc) (.slice x.sa x.sn x.sc) (.slice x.wa x.wn x.wc) (.slice x.ha x.hn x.hc)):=⟨BW.out.trans (b3.mono BW.out.size),NB.out.below b3⟩
 clear b3 NB BW HS
 rcases zK x.y.okB with t | t
 case inr=>
  have HN:Hid (hltB x=false):=by
   show hltB x=false
   rw [hltB,t,Bool.false_and]
  rw [t]
  go_wp2
  go_ret
  rw [HN.out]
  exact ⟨rfl,F3.out.1⟩
 have HO:Hid x.y.Ok:=Sy.ok_of t
 have HN:Hid (hltB x=(List.range x.pn).all fun p=>(rdX x p).isEmpty):=by
  show hltB x=_
  rw [hltB,t,Bool.true_and]
 rw [t]
 clear t
 have h4:(x.pn:Int)<=4:=by have:=HO.out.cn.1.2;change x.pn<=4 at this;omega
 obtain ⟨m0,m1,m2,m3⟩:=F3.out.2
 go_wp2_with fail
 clear m0 m1 m2 m3
 go_loopw [10] (fun i wr=>∃ k:Nat,k<=x.pn/\i=.int .i64 k/\Hid (∀ j,j<k->(rdX x j).isEmpty=true)/\Hid (Below w.heap.size w wr/\BoxC wr w.heap.size (.slice x.pa x.pn x.pc) (.slice x.sa x.sn x.sc) (.slice x.wa x.wn x.wc) (.slice x.ha x.hn x.hc))) (fun i _=>x.pn - (intOf i).toNat)
 case atStart=>exact ⟨0,Nat.zero_le _,rfl,fun j hj=>by omega,F3.out⟩
 case round=>
  clear F3
  obtain ⟨k,hk,rfl,HE,FB⟩:=hrel
  by_cases hlt:k<x.pn
  ·have hlt':(k:Int)<(x.pn:Int):=by omega
   obtain ⟨m0,m1,m2,m3⟩:=FB.out.2
   go_wp2_with fail
   refine (readyIn_any x k wr (HG.out.below FB.out.1) HL.out HO.out hlt).mono ?_
   rintro e w5 ⟨v5,rfl,o5,b5⟩
   obtain ⟨a5,c5,rfl,-⟩:=o5.form
   have F5:Hid (Below w.heap.size w w5/\BoxC w5 w.heap.size (.slice x.pa x.pn x.pc) (.slice x.sa x.sn x.sc) (.slice x.wa x.wn x.wc) (.slice x.ha x.hn x.hc)):=⟨FB.out.1.trans (b5.mono FB.out.1.size),FB.out.2.below b5⟩
   clear b5 o5 m0 m1 m2 m3 FB
   by_cases h0:(rdX x k).length=0
   ·have HE2:Hid (∀ j,j<k+1->(rdX x j).isEmpty=true):=fun j hj=>by
     by_cases e:j=k
     ·subst e
      rw [List.isEmpty_iff]
      exact List.eq_nil_of_length_eq_zero h0
     ·exact HE.out j (by omega)
    rw [h0]
    go_wp2
    go_roundw
    case rel=>exact ⟨k+1,by omega,by go_num,HE2.out,F5.out⟩
    case measure=>simp [intOf];omega
   ·have HF:Hid (hltB x=false):=by
     show hltB x=false
     rw [HN.out,List.all_eq_false]
     refine ⟨k,List.mem_range.2 hlt,?_⟩
     rw [List.isEmpty_iff]
     intro e
     rw [e] at h0
     exact h0 rfl
    have h0':(0:Int)<((rdX x k).length:Int):=by omega
    go_wp2
    go_ret
    rw [HF.out]
    exact ⟨rfl,F5.out.1⟩
  ·have HF:Hid (hltB x=true):=by
    show hltB x=true
    rw [HN.out,List.all_eq_true]
    intro j hj
    exact HE.out j (by have:=List.mem_range.1 hj;omega)
   go_wp2
   go_ret
   rw [HF.out]
   exact ⟨rfl,FB.out.1⟩
theorem choicesIn_out (x:SysIn) (p:Int) (w:World) (t1:belB p x.pn=false):
  Calls Tryz.prog 36 #[x.v,.int .i64 p] w fun e w'=>e=.returned (.int .i64 1)/\Below w.heap.size w w':=by
 have HB:Hid (∀ wx,Calls Tryz.prog 52 #[.int .i64 p,.int .i64 x.pn] wx fun e w'=>e=.returned (.bool false)/\w'=wx):=fun wx=>by
  have:=isBelow_any p x.pn wx
  rw [t1] at this
  exact this
 have BW:Hid (Below w.heap.size w (w.alloc (oQ4 x.pa x.pn x.pc x.sa x.sn x.sc x.wa x.wn x.wc x.ha x.hn x.hc))):=zT _ _
 have NB:Hid (BoxC (w.alloc (oQ4 x.pa x.pn x.pc x.sa x.sn x.sc x.wa x.wn x.wc x.ha x.hn x.hc)) w.heap.size (.slice x.pa x.pn x.pc) (.slice x.sa x.sn x.sc) (.slice x.wa x.wn x.wc) (.slice x.ha x.hn x.hc)):=BoxC.new w _ _ _ _ _
 have HT1:Hid (belB p x.pn=false):=t1
 clear t1 HB
 go_enter Tryz.func36,Tryz.ntmps36
 go_wp2_with fail
 generalize w.alloc (oQ4 x.pa x.pn x.pc x.sa x.sn x.sc x.wa x.wn x.wc x.ha x.hn x.hc)=W2 at *
 have b0':=cell_regrown NB.out.1
 refine wp_region_quiet_below (by kernel_rfl) (by kernel_rfl) ?_
 iterate 4 (quiet_step (fail))
 quiet_step (first|(go_at_call 52;exact Calls.regrown_same (isBelow_any p x.pn _)))
 rw [HT1.out]
 repeat (first | go_big_quiet_skip | quiet_step (fail))
 refine wpQuiet_nil ?_
 intro _ hw'
 obtain ⟨⟨dq,osq⟩,hw''⟩:=hw'
 subst hw''
 have B3:Hid (Below w.heap.size w (grow (redrawn W2 dq) osq)):=BW.out.trans ((below_regrown W2 dq osq).mono BW.out.size)
 generalize grow (redrawn W2 dq) osq=w3 at *
 clear b0' NB
 go_wp2
 go_ret
 exact ⟨rfl,B3.out⟩
theorem readyIn_out (x:SysIn) (p:Int) (w:World) (t1:belB p x.pn=false):
  Calls Tryz.prog 18 #[x.v,.int .i64 p] w fun e w'=>∃ v,e=.returned v/\OwnI w' w.heap.size v []/\Below w.heap.size w w':=by
 refine readyIn_of x p 1 (fun _=>2) w (by omega) (fun wx _=>choicesIn_out x p wx t1) (fun j _ wx _=>?_)
 refine (comingIn_out x p j wx t1).mono ?_
 rintro e w' ⟨rfl,b⟩
 exact ⟨0,0,0,rfl,b⟩
