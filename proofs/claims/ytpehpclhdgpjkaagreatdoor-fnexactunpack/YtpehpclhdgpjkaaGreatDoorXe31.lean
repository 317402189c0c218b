import Derived.Test.YtpehpclhdgpjkaaGreatDoorXe0
import Derived.Test.YtpehpclhdgpjkaaGreatDoorXe29
import Derived.Test.YtpehpclhdgpjkaaGreatDoorXe30
import Derived.Test.YtpehpclhdgpjkaaGreatDoorXe23
import Derived.Test.YtpehpclhdgpjkaaGreatDoorXe28
import Derived.Test.YtpehpclhdgpjkaaGreatDoorXe21
import Derived.Test.YtpehpclhdgpjkaaGreatDoorXe18
import Derived.Test.YtpehpclhdgpjkaaGreatDoorXe27
import Derived.Test.YtpehpclhdgpjkaaGreatDoorXe24
import Derived.Test.YtpehpclhdgpjkaaGreatDoorXe16
namespace Go.Proofs.YtpehpclhdgpjkaaGreatDoor
set_option maxRecDepth 100000
set_option maxHeartbeats 8000000
open Go.ChangeShapes Go.WideShapes Go.ChangeAt Go.RowKit Go.Deep
structure Sy.Sums (y:Sy):Prop where
 p:y.pn<=1048576/\sumL y.pL y.pn<=1048576
 s:y.sn<=1048576/\sumL (lenS y.sS) y.sn<=1048576
 w:y.wn<=1048576/\sumL y.wL y.wn<=1048576
 h:y.hn<=1048576/\sumL y.hL y.hn<=1048576
def mkZ2 (y:Sy) (k:Int):Int:=k+5*(sumL y.pL y.pn:Nat)
def mkZ3 (y:Sy) (k:Int):Int:=mkZ2 y k+(2*y.sn+sumL (lenS y.sS) y.sn:Nat)
def mkZ4 (y:Sy) (k:Int):Int:=mkZ3 y k+2*(sumL y.wL y.wn:Nat)
def mkZ5 (y:Sy) (k:Int):Int:=mkZ4 y k+3*(sumL y.hL y.hn:Nat)
def mkY (y:Sy) (k:Int):Sy:=⟨y.pn,y.pL,fun i=>mkI (k+5*(sumL y.pL i:Nat)),y.sn,fun i=>mkS (mkZ2 y k+(2*i+sumL (lenS y.sS) i:Nat)) (y.sS i),y.wn,y.wL,fun i=>mkT (mkZ3 y k+2*(sumL y.wL i:Nat)),y.hn,y.hL,fun i=>mkEv (mkZ4 y k+3*(sumL y.hL i:Nat))⟩
theorem mkZ_bd {y:Sy} (h:y.Sums):(0<=mkZ2 y 1/\mkZ2 y 1<=6000000)/\(0<=mkZ3 y 1/\mkZ3 y 1<=12000000)/\(0<=mkZ4 y 1/\mkZ4 y 1<=18000000)/\(0<=mkZ5 y 1/\mkZ5 y 1<=24000000):=by
 have h1:=h.p.2
 have h2:=h.s
 have h3:=h.w.2
 have h4:=h.h.2
 simp only [mkZ5,mkZ4,mkZ3,mkZ2]
 omega
theorem heldSys_own (y:Sy) (B:Nat) (v:Value) (w:World) (hS:y.Sums) (o:OwnSys true w B (mkY y 1) v):
  Calls Tryz.prog 11 #[v,.int .i64 1] w fun e w'=>e=.returned (.int .i64 (mkZ5 y 1))/\Below w.heap.size w w':=by
 obtain ⟨c,vp,vs,vw,vh,up,us,uw,uh,rfl,o⟩:=o
 obtain ⟨a1,c1,rfl⟩:=zT o.p.row
 obtain ⟨a2,c2,rfl⟩:=zT o.s.row
 obtain ⟨a3,c3,rfl⟩:=zT o.t.row
 obtain ⟨a4,c4,rfl⟩:=zT o.h.row
 have HS:Hid y.Sums:=hS
 have O:Hid (LI true w (Cl B c 1) (.slice a1 y.pn c1) y.pn up y.pL (mkY y 1).pH/\LS w (Cl B c 2) (.slice a2 y.sn c2) y.sn us (mkY y 1).sS/\LT true w (Cl B c 3) (.slice a3 y.wn c3) y.wn uw y.wL (mkY y 1).wH/\LE true w (Cl B c 4) (.slice a4 y.hn c4) y.hn uh y.hL (mkY y 1).hH):=⟨o.p,o.s,o.t,o.h⟩
 have BA:Hid (Below w.heap.size w (w.alloc (oQ4 a1 y.pn c1 a2 y.sn c2 a3 y.wn c3 a4 y.hn c4))):=zP _ _
 have NA:Hid (BoxC (w.alloc (oQ4 a1 y.pn c1 a2 y.sn c2 a3 y.wn c3 a4 y.hn c4)) w.heap.size (.slice a1 y.pn c1) (.slice a2 y.sn c2) (.slice a3 y.wn c3) (.slice a4 y.hn c4)):=BoxC.new w _ _ _ _ _
 have hz:=mkZ_bd hS
 have HZ:Hid ((0<=mkZ2 y 1/\mkZ2 y 1<=6000000)/\(0<=mkZ3 y 1/\mkZ3 y 1<=12000000)/\(0<=mkZ4 y 1/\mkZ4 y 1<=18000000)/\(0<=mkZ5 y 1/\mkZ5 y 1<=24000000)):=hz
 have z2:¬ mkZ2 y 1<0:=by omega
 have z3:¬ mkZ3 y 1<0:=by omega
 have z4:¬ mkZ4 y 1<0:=by omega
 have z5:¬ mkZ5 y 1<0:=by omega
 clear o hS hz
 change Calls Tryz.prog 11 #[sysV a1 y.pn c1 a2 y.sn c2 a3 y.wn c3 a4 y.hn c4,.int .i64 1] w _
 go_enter Tryz.func11,Tryz.ntmps11
 go_wp2_with fail
 generalize w.alloc (oQ4 a1 y.pn c1 a2 y.sn c2 a3 y.wn c3 a4 y.hn c4)=wA at *
 refine (heldInsSS_own _ _ y.pn up y.pL 1 wA HS.out.p.1 HS.out.p.2 (by omega) (by omega) (O.out.1.below BA.out)).mono ?_
 rintro e w1 ⟨rfl,b1⟩
 have F1:Hid (Below w.heap.size w w1/\BoxC w1 w.heap.size (.slice a1 y.pn c1) (.slice a2 y.sn c2) (.slice a3 y.wn c3) (.slice a4 y.hn c4)):=⟨BA.out.trans (b1.mono BA.out.size),NA.out.below b1⟩
 rw [show (1:Int)+5*(sumL y.pL y.pn:Nat)=mkZ2 y 1 from rfl]
 clear b1 BA NA
 obtain ⟨-,p0,p1,p2,p3⟩:=F1.out
 go_wp2_with fail
 clear p0 p1 p2 p3
 refine (heldStateS_own _ _ y.sn us y.sS (mkZ2 y 1) w1 HS.out.s.1 HS.out.s.2 HZ.out.1.1 (by have:=HZ.out;omega) (O.out.2.1.below F1.out.1)).mono ?_
 rintro e w2 ⟨rfl,b2⟩
 have F2:Hid (Below w.heap.size w w2/\BoxC w2 w.heap.size (.slice a1 y.pn c1) (.slice a2 y.sn c2) (.slice a3 y.wn c3) (.slice a4 y.hn c4)):=⟨F1.out.1.trans (b2.mono F1.out.1.size),F1.out.2.below b2⟩
 rw [show mkZ2 y 1+(2*y.sn+sumL (lenS y.sS) y.sn:Nat)=mkZ3 y 1 from rfl]
 clear b2 F1
 obtain ⟨-,p0,p1,p2,p3⟩:=F2.out
 go_wp2_with fail
 clear p0 p1 p2 p3
 refine (heldItemSS_own _ _ y.wn uw y.wL (mkZ3 y 1) w2 HS.out.w.1 HS.out.w.2 HZ.out.2.1.1 (by have:=HZ.out;omega) (O.out.2.2.1.below F2.out.1)).mono ?_
 rintro e w3 ⟨rfl,b3⟩
 have F3:Hid (Below w.heap.size w w3/\BoxC w3 w.heap.size (.slice a1 y.pn c1) (.slice a2 y.sn c2) (.slice a3 y.wn c3) (.slice a4 y.hn c4)):=⟨F2.out.1.trans (b3.mono F2.out.1.size),F2.out.2.below b3⟩
 rw [show mkZ3 y 1+2*(sumL y.wL y.wn:Nat)=mkZ4 y 1 from rfl]
 clear b3 F2
 obtain ⟨-,p0,p1,p2,p3⟩:=F3.out
 go_wp2_with fail
 clear p0 p1 p2 p3
 refine (heldEventSS_own _ _ y.hn uh y.hL (mkZ4 y 1) w3 HS.out.h.1 HS.out.h.2 HZ.out.2.2.1.1 (by have:=HZ.out;omega) (O.out.2.2.2.below F3.out.1)).mono ?_
 rintro e w4 ⟨rfl,b4⟩
 have F4:Hid (Below w.heap.size w w4):=F3.out.1.trans (b4.mono F3.out.1.size)
 rw [show mkZ4 y 1+3*(sumL y.hL y.hn:Nat)=mkZ5 y 1 from rfl]
 clear b4 F3
 go_wp2
 go_ret
 exact ⟨rfl,F4.out⟩
def Own0 (w:World) (B T:Nat) (y:Sy) (vp vs vw vh:Value):Prop:=∃ c up us uw uh,OwnS true w B c y vp vs vw vh up us uw uh/\∀ b,T<=b->c b=0
theorem Own0.of {w:World} {B:Nat} {y:Sy} {v:Value} (o:OwnSys true w B y v):∃ pa pc sa sc wa wc ha hc,v=sysV pa y.pn pc sa y.sn sc wa y.wn wc ha y.hn hc/\Own0 w B w.heap.size y (.slice pa y.pn pc) (.slice sa y.sn sc) (.slice wa y.wn wc) (.slice ha y.hn hc):=by
 obtain ⟨c,vp,vs,vw,vh,up,us,uw,uh,rfl,o⟩:=o
 obtain ⟨pa,pc,rfl⟩:=zT o.p.row
 obtain ⟨sa,sc,rfl⟩:=zT o.s.row
 obtain ⟨wa,wc,rfl⟩:=zT o.t.row
 obtain ⟨ha,hc,rfl⟩:=zT o.h.row
 exact ⟨pa,pc,sa,sc,wa,wc,ha,hc,rfl,_,up,us,uw,uh,o.recol 0,fun b hb=>rcol_new hb⟩
theorem Own0.below {w w':World} {B T:Nat} {y:Sy} {vp vs vw vh:Value} (o:Own0 w B T y vp vs vw vh) (hb:Below w.heap.size w w'):Own0 w' B T y vp vs vw vh:=by
 obtain ⟨c,up,us,uw,uh,o,h⟩:=o
 exact ⟨c,up,us,uw,uh,o.below hb,h⟩
theorem Own0.sys {w:World} {B T:Nat} {y:Sy} {vp vs vw vh:Value} (o:Own0 w B T y vp vs vw vh):OwnSys true w B y (.agg #[vp,vs,vw,vh]):=by
 obtain ⟨c,up,us,uw,uh,o,-⟩:=o
 exact ⟨c,vp,vs,vw,vh,up,us,uw,uh,rfl,o⟩
theorem Own0.touch {w w':World} {B T:Nat} {y:Sy} {vp vs vw vh:Value} {P:Nat->Prop} (o:Own0 w B T y vp vs vw vh) (ht:Touch P w w') (hp:∀ b,P b->T<=b\/b<B):Own0 w' B T y vp vs vw vh:=by
 obtain ⟨c,up,us,uw,uh,o,h⟩:=o
 have hk:∀ i,i≠0->∀ k,Cl B c i k->k<w.heap.size->w'.heap[k]? = w.heap[k]?:=fun i hi k hk hl=>ht.block k hl fun e=>by
  rcases hp k e with h1 | h1
  ·exact hi (hk.2.symm.trans (h k h1))
  ·have:=hk.1
   omega
 exact ⟨c,up,us,uw,uh,⟨o.p.keep (hk 1 (by decide)),o.s.keep (hk 2 (by decide)),o.t.keep (hk 3 (by decide)),o.h.keep (hk 4 (by decide))⟩,h⟩
theorem markSys_0 (y:Sy) (B T:Nat) (vp vs vw vh:Value) (w:World) (hS:y.Sums) (hB:B<=w.heap.size) (o:Own0 w B T y vp vs vw vh):
  Calls Tryz.prog 10 #[.agg #[vp,vs,vw,vh],.int .i64 1] w fun e w'=>e=.returned (.int .i64 (mkZ5 y 1))/\Own0 w' B T (mkY y 1) vp vs vw vh/\Touch (fun b=>B<=b/\b<T) w w':=by
 obtain ⟨c,up,us,uw,uh,o,hT⟩:=o
 have HT:Hid (∀ b,T<=b->rcol c w.heap.size 0 b=0):=fun b hb=>by
  unfold rcol
  split
  ·exact hT b hb
  ·rfl
 have HC : Hid (∀ i, i ≠ 0 → ∀ b, Cl B (rcol c w.heap.size 0) i b → B ≤ b ∧ b < T) := fun i hi b hb => ⟨hb.1, by
  rcases Nat.lt_or_ge b T with h | h
  ·exact h
  ·exact absurd (hb.2.symm.trans (HT.out b h)) hi⟩
 obtain ⟨a1,c1,rfl⟩:=zT o.p.row
 obtain ⟨a2,c2,rfl⟩:=zT o.s.row
 obtain ⟨a3,c3,rfl⟩:=zT o.t.row
 obtain ⟨a4,c4,rfl⟩:=zT o.h.row
 have HS:Hid y.Sums:=hS
 have HB:Hid (B<=w.heap.size):=hB
 have ba:=zP w (oQ4 a1 y.pn c1 a2 y.sn c2 a3 y.wn c3 a4 y.hn c4)
 have o0:OwnS true w B (rcol c w.heap.size 0) y (.slice a1 y.pn c1) (.slice a2 y.sn c2) (.slice a3 y.wn c3) (.slice a4 y.hn c4) up us uw uh:=⟨o.p.mono fun _ h hl=>h.old hl,o.s.mono fun _ h hl=>h.old hl,o.t.mono fun _ h hl=>h.old hl,o.h.mono fun _ h hl=>h.old hl⟩
 have OA:Hid (OwnS true (w.alloc (oQ4 a1 y.pn c1 a2 y.sn c2 a3 y.wn c3 a4 y.hn c4)) B (rcol c w.heap.size 0) y (.slice a1 y.pn c1) (.slice a2 y.sn c2) (.slice a3 y.wn c3) (.slice a4 y.hn c4) up us uw uh):=⟨o0.p.below ba,o0.s.below ba,o0.t.below ba,o0.h.below ba⟩
 have NA:Hid (BoxC (w.alloc (oQ4 a1 y.pn c1 a2 y.sn c2 a3 y.wn c3 a4 y.hn c4)) w.heap.size (.slice a1 y.pn c1) (.slice a2 y.sn c2) (.slice a3 y.wn c3) (.slice a4 y.hn c4)):=BoxC.new w _ _ _ _ _
 have BA:Hid (Touch (fun b=>B<=b/\b<T) w (w.alloc (oQ4 a1 y.pn c1 a2 y.sn c2 a3 y.wn c3 a4 y.hn c4))):=Touch.of_below ba
 have HM:Hid (∀ i k,Cl B (rcol c w.heap.size 0) i k->i≠0->k<w.heap.size):=fun i k h hi=>by
  rcases Nat.lt_or_ge k w.heap.size with h1 | h1
  ·exact h1
  ·exact absurd (h.2.symm.trans (rcol_new h1)) hi
 have hz:=mkZ_bd hS
 have HZ:Hid ((0<=mkZ2 y 1/\mkZ2 y 1<=6000000)/\(0<=mkZ3 y 1/\mkZ3 y 1<=12000000)/\(0<=mkZ4 y 1/\mkZ4 y 1<=18000000)/\(0<=mkZ5 y 1/\mkZ5 y 1<=24000000)):=hz
 clear o o0 hS hB ba hz hT
 go_enter Tryz.func10,Tryz.ntmps10
 go_wp2_with fail
 generalize w.alloc (oQ4 a1 y.pn c1 a2 y.sn c2 a3 y.wn c3 a4 y.hn c4)=wA at *
 refine (markInsSS_own _ _ y.pn up y.pL y.pH 1 wA HS.out.p.1 HS.out.p.2 (by omega) (by omega) OA.out.p).mono ?_
 rintro e w1 ⟨rfl,q1,t1⟩
 have K1:Hid (∀ i,i≠1->∀ k,Cl B (rcol c w.heap.size 0) i k->k<wA.heap.size->w1.heap[k]? = wA.heap[k]?):=fun i hi k hk hl=>t1.block k hl fun h=>hi (hk.2.symm.trans h.2)
 have F1:Hid (LI true w1 (Cl B (rcol c w.heap.size 0) 1) (.slice a1 y.pn c1) y.pn up y.pL (mkY y 1).pH/\LS w1 (Cl B (rcol c w.heap.size 0) 2) (.slice a2 y.sn c2) y.sn us y.sS/\LT true w1 (Cl B (rcol c w.heap.size 0) 3) (.slice a3 y.wn c3) y.wn uw y.wL y.wH/\LE true w1 (Cl B (rcol c w.heap.size 0) 4) (.slice a4 y.hn c4) y.hn uh y.hL y.hH):=⟨q1,OA.out.s.keep (K1.out 2 (by decide)),OA.out.t.keep (K1.out 3 (by decide)),OA.out.h.keep (K1.out 4 (by decide))⟩
 have hm1:w1.heap[w.heap.size]? = wA.heap[w.heap.size]?:=t1.block _ (zJ _ _ NA.out.1) fun h=>Nat.lt_irrefl _ (HM.out 1 _ h (by decide))
 have G1:Hid (Touch (fun b=>B<=b/\b<T) w w1/\BoxC w1 w.heap.size (.slice a1 y.pn c1) (.slice a2 y.sn c2) (.slice a3 y.wn c3) (.slice a4 y.hn c4)):=⟨BA.out.trans (t1.mono (HC.out 1 (by decide))),⟨(zH hm1).trans NA.out.1,(zH hm1).trans NA.out.2.1,(zH hm1).trans NA.out.2.2.1,(zH hm1).trans NA.out.2.2.2⟩⟩
 clear hm1
 rw [show (1:Int)+5*(sumL y.pL y.pn:Nat)=mkZ2 y 1 from rfl]
 clear t1 q1 OA NA BA K1
 obtain ⟨-,p0,p1,p2,p3⟩:=G1.out
 go_wp2_with fail
 clear p0 p1 p2 p3
 refine (markStateS_own _ _ y.sn us y.sS (mkZ2 y 1) w1 HS.out.s.1 HS.out.s.2 HZ.out.1.1 (by have:=HZ.out;omega) F1.out.2.1).mono ?_
 rintro e w2 ⟨rfl,⟨ts,q2⟩,t2⟩
 have K2:Hid (∀ i,i≠2->∀ k,Cl B (rcol c w.heap.size 0) i k->k<w1.heap.size->w2.heap[k]? = w1.heap[k]?):=fun i hi k hk hl=>t2.block k hl fun h=>hi (hk.2.symm.trans h.2)
 have F2:Hid (LI true w2 (Cl B (rcol c w.heap.size 0) 1) (.slice a1 y.pn c1) y.pn up y.pL (mkY y 1).pH/\LS w2 (Cl B (rcol c w.heap.size 0) 2) (.slice a2 y.sn c2) y.sn ts (mkY y 1).sS/\LT true w2 (Cl B (rcol c w.heap.size 0) 3) (.slice a3 y.wn c3) y.wn uw y.wL y.wH/\LE true w2 (Cl B (rcol c w.heap.size 0) 4) (.slice a4 y.hn c4) y.hn uh y.hL y.hH):=⟨F1.out.1.keep (K2.out 1 (by decide)),q2,F1.out.2.2.1.keep (K2.out 3 (by decide)),F1.out.2.2.2.keep (K2.out 4 (by decide))⟩
 have hm2:w2.heap[w.heap.size]? = w1.heap[w.heap.size]?:=t2.block _ (zJ _ _ G1.out.2.1) fun h=>Nat.lt_irrefl _ (HM.out 2 _ h (by decide))
 have G2:Hid (Touch (fun b=>B<=b/\b<T) w w2/\BoxC w2 w.heap.size (.slice a1 y.pn c1) (.slice a2 y.sn c2) (.slice a3 y.wn c3) (.slice a4 y.hn c4)):=⟨G1.out.1.trans (t2.mono (HC.out 2 (by decide))),⟨(zH hm2).trans G1.out.2.1,(zH hm2).trans G1.out.2.2.1,(zH hm2).trans G1.out.2.2.2.1,(zH hm2).trans G1.out.2.2.2.2⟩⟩
 clear hm2
 rw [show mkZ2 y 1+(2*y.sn+sumL (lenS y.sS) y.sn:Nat)=mkZ3 y 1 from rfl]
 clear t2 q2 F1 G1 K2
 obtain ⟨-,p0,p1,p2,p3⟩:=G2.out
 go_wp2_with fail
 clear p0 p1 p2 p3
 refine (markItemSS_own _ _ y.wn uw y.wL y.wH (mkZ3 y 1) w2 HS.out.w.1 HS.out.w.2 HZ.out.2.1.1 (by have:=HZ.out;omega) F2.out.2.2.1).mono ?_
 rintro e w3 ⟨rfl,q3,t3⟩
 have K3:Hid (∀ i,i≠3->∀ k,Cl B (rcol c w.heap.size 0) i k->k<w2.heap.size->w3.heap[k]? = w2.heap[k]?):=fun i hi k hk hl=>t3.block k hl fun h=>hi (hk.2.symm.trans h.2)
 have F3:Hid (LI true w3 (Cl B (rcol c w.heap.size 0) 1) (.slice a1 y.pn c1) y.pn up y.pL (mkY y 1).pH/\LS w3 (Cl B (rcol c w.heap.size 0) 2) (.slice a2 y.sn c2) y.sn ts (mkY y 1).sS/\LT true w3 (Cl B (rcol c w.heap.size 0) 3) (.slice a3 y.wn c3) y.wn uw y.wL (mkY y 1).wH/\LE true w3 (Cl B (rcol c w.heap.size 0) 4) (.slice a4 y.hn c4) y.hn uh y.hL y.hH):=⟨F2.out.1.keep (K3.out 1 (by decide)),F2.out.2.1.keep (K3.out 2 (by decide)),q3,F2.out.2.2.2.keep (K3.out 4 (by decide))⟩
 have hm3:w3.heap[w.heap.size]? = w2.heap[w.heap.size]?:=t3.block _ (zJ _ _ G2.out.2.1) fun h=>Nat.lt_irrefl _ (HM.out 3 _ h (by decide))
 have G3:Hid (Touch (fun b=>B<=b/\b<T) w w3/\BoxC w3 w.heap.size (.slice a1 y.pn c1) (.slice a2 y.sn c2) (.slice a3 y.wn c3) (.slice a4 y.hn c4)):=⟨G2.out.1.trans (t3.mono (HC.out 3 (by decide))),⟨(zH hm3).trans G2.out.2.1,(zH hm3).trans G2.out.2.2.1,(zH hm3).trans G2.out.2.2.2.1,(zH hm3).trans G2.out.2.2.2.2⟩⟩
 clear hm3
 rw [show mkZ3 y 1+2*(sumL y.wL y.wn:Nat)=mkZ4 y 1 from rfl]
 clear t3 q3 F2 G2 K3
 obtain ⟨-,p0,p1,p2,p3⟩:=G3.out
 go_wp2_with fail
 clear p0 p1 p2 p3
 refine (markEventSS_own _ _ y.hn uh y.hL y.hH (mkZ4 y 1) w3 HS.out.h.1 HS.out.h.2 HZ.out.2.2.1.1 (by have:=HZ.out;omega) F3.out.2.2.2).mono ?_
 rintro e w4 ⟨rfl,q4,t4⟩
 have K4:Hid (∀ i,i≠4->∀ k,Cl B (rcol c w.heap.size 0) i k->k<w3.heap.size->w4.heap[k]? = w3.heap[k]?):=fun i hi k hk hl=>t4.block k hl fun h=>hi (hk.2.symm.trans h.2)
 have F4:Hid (Own0 w4 B T (mkY y 1) (.slice a1 y.pn c1) (.slice a2 y.sn c2) (.slice a3 y.wn c3) (.slice a4 y.hn c4)):=⟨_,up,ts,uw,uh,⟨F3.out.1.keep (K4.out 1 (by decide)),F3.out.2.1.keep (K4.out 2 (by decide)),F3.out.2.2.1.keep (K4.out 3 (by decide)),q4⟩,HT.out⟩
 have hm4:w4.heap[w.heap.size]? = w3.heap[w.heap.size]?:=t4.block _ (zJ _ _ G3.out.2.1) fun h=>Nat.lt_irrefl _ (HM.out 4 _ h (by decide))
 have G4:Hid (Touch (fun b=>B<=b/\b<T) w w4/\BoxC w4 w.heap.size (.slice a1 y.pn c1) (.slice a2 y.sn c2) (.slice a3 y.wn c3) (.slice a4 y.hn c4)):=⟨G3.out.1.trans (t4.mono (HC.out 4 (by decide))),⟨(zH hm4).trans G3.out.2.1,(zH hm4).trans G3.out.2.2.1,(zH hm4).trans G3.out.2.2.2.1,(zH hm4).trans G3.out.2.2.2.2⟩⟩
 clear hm4
 rw [show mkZ4 y 1+3*(sumL y.hL y.hn:Nat)=mkZ5 y 1 from rfl]
 clear t4 q4 F3 G3 K4
 go_wp2
 go_ret
 exact ⟨rfl,F4.out,G4.out.1⟩
theorem sumL_bd {L:Nat->Nat} {M:Nat}:∀ {n:Nat},(∀ i,i<n->L i<=M)->sumL L n<=n*M
 | 0,_=>by simp [sumL]
 | n+1,h=>by
  have h1:=sumL_bd fun i hi=>h i (Nat.lt_succ_of_lt hi)
  have h2:=h n (Nat.lt_succ_self n)
  show sumL L n+L n<=(n+1)*M
  rw [Nat.add_mul,Nat.one_mul]
  omega
theorem Sy.Sm.sums {y:Sy} (h:y.Sm):y.Sums:=by
 obtain ⟨h1,h2,h3,h4⟩:=h.n
 have a1:=sumL_bd h.p
 have a2:=sumL_bd (L:=lenS y.sS) (M:=2000) (n:=y.sn) fun i hi=>by
  have:=h.s i hi
  simp only [lenS]
  omega
 have a3:=sumL_bd h.w
 have a4:=sumL_bd h.h
 exact ⟨⟨by omega,by omega⟩,⟨by omega,by omega⟩,⟨by omega,by omega⟩,⟨by omega,by omega⟩⟩
theorem Sy.Sm.len {y:Sy} (h:y.Sm):y.Len:=by
 obtain ⟨h1,h2,h3,h4⟩:=h.n
 exact ⟨⟨by omega,fun i hi=>by have:=h.p i hi;omega⟩,⟨by omega,fun i hi=>by have:=h.s i hi;omega⟩,⟨by omega,fun i hi=>by have:=h.w i hi;omega⟩,⟨by omega,fun i hi=>by have:=h.h i hi;omega⟩⟩
theorem BoxC.blkF {w w':World} {N:Nat} {p vr vo code:Value} (h:BoxC w N p vr vo code) (hb:w'.heap[N]? = w.heap[N]?):BoxC w' N p vr vo code:=by
 obtain ⟨h0,h1,h2,h3⟩:=h
 exact ⟨(zH hb).trans h0,(zH hb).trans h1,(zH hb).trans h2,(zH hb).trans h3⟩
theorem BoxC.ltF {w:World} {N:Nat} {p vr vo code:Value} (h:BoxC w N p vr vo code):N<w.heap.size:=zJ w _ h.1
theorem BoxC.touch {w w':World} {N:Nat} {p vr vo code:Value} {P:Nat->Prop} (h:BoxC w N p vr vo code) (t:Touch P w w') (hp:¬ P N):BoxC w' N p vr vo code:=h.blkF (t.block N h.ltF hp)
section
variable {W:World} {x:SysIn} {Y Z:Sy} {x3:SysIn} {N1 T8 lo T10 B4 T11:Nat} {a1 a2 a3 a4 g1 g2 g3 g4:Value} {w w':World}
end
structure Mc (w:World) (C W0:Nat) (a0:Option Addr) (cap:Nat) (ys:List Int) (j:Nat):Prop where
 c0:w.cell? ⟨C,0,none⟩=some (.slice a0 ys.length cap)
 c1:w.cell? ⟨C,1,none⟩=some (.int .i64 (psN (nmA ys) (min j (nmA ys).length):Nat))
 c2:w.cell? ⟨C,2,none⟩=some (.bool (decide (j<=(nmA ys).length)))
 fr:∀ i,w.frozen? ⟨C,i,none⟩=false
 ge:W0<=C
 ap:∀ b o,a0=some ⟨b,o,none⟩->b<W0
 sl:SlB w a0 ys
theorem Mc.lt {w:World} {C W0 cap j:Nat} {a0:Option Addr} {ys:List Int} (h:Mc w C W0 a0 cap ys j):C<w.heap.size:=zJ w _ h.c0
theorem Mc.below {w w':World} {C W0 cap j:Nat} {a0:Option Addr} {ys:List Int} (h:Mc w C W0 a0 cap ys j) (hb:Below w.heap.size w w'):Mc w' C W0 a0 cap ys j:=by
 have hk:=hb.block C h.lt
 exact ⟨(zH hk).trans h.c0,(zH hk).trans h.c1,(zH hk).trans h.c2,fun i=>(zI hk).trans (h.fr i),h.ge,h.ap,h.sl.below hb⟩
theorem Mc.drew {w:World} {C W0 cap j:Nat} {a0:Option Addr} {ys:List Int} (h:Mc w C W0 a0 cap ys j):Mc w.drew C W0 a0 cap ys j:=⟨h.c0,h.c1,h.c2,h.fr,h.ge,h.ap,h.sl⟩
theorem Mc.kept {w w':World} {C W0 cap j:Nat} {a0:Option Addr} {ys:List Int} {row:Option Nat} (h:Mc w C W0 a0 cap ys j) (hg:w.grownBy w' row) (hr:∀ i,row=some i->W0<=i/\i≠C):Mc w' C W0 a0 cap ys j:=by
 have hk:=hg.block C h.lt (fun e=>(hr C e.symm).2 rfl)
 refine ⟨(zH hk).trans h.c0,(zH hk).trans h.c1,(zH hk).trans h.c2,fun i=>(zI hk).trans (h.fr i),h.ge,h.ap,h.sl.kept h.ap (fun b hb=>hg.block b (by have:=h.lt;have:=h.ge;omega) (fun e=>by have:=(hr b e.symm).1;omega)) hg.size⟩
theorem zi_out {N:List Int} {k:Nat} (h:N.length<=k):zi N k=0:=by
 unfold zi
 rw [List.getD_eq_getElem?_getD,List.getElem?_eq_none h]
 rfl
theorem Mc.next {w:World} {C W0 cap j:Nat} {a0:Option Addr} {ys:List Int} (h:Mc w C W0 a0 cap ys j) (hk:j<(nmA ys).length):Mc (w.setCell ⟨C,1,none⟩ (.int .i64 ((psN (nmA ys) (j+1):Nat):Int))) C W0 a0 cap ys (j+1):=by
 have hlt:=h.lt
 obtain ⟨c0,c1,c2,fr,ge,ap,sl⟩:=h
 refine ⟨by go_cell,?_,?_,fun i=>by simpa using fr i,ge,ap,sl.kept ap (fun b hb=>zN w ⟨C,1,none⟩ _ b (fun e=>by simp at e;omega)) (by simp)⟩
 ·rw [Nat.min_eq_left hk]
  go_cell
 ·rw [decide_eq_true (by omega)] at c2
  rw [decide_eq_true (by omega)]
  go_cell
theorem Mc.stop {w:World} {C W0 cap j:Nat} {a0:Option Addr} {ys:List Int} (h:Mc w C W0 a0 cap ys j) (hk:(nmA ys).length<=j):Mc (w.setCell ⟨C,2,none⟩ (.bool false)) C W0 a0 cap ys (j+1):=by
 have hlt:=h.lt
 obtain ⟨c0,c1,c2,fr,ge,ap,sl⟩:=h
 refine ⟨by go_cell,?_,?_,fun i=>by simpa using fr i,ge,ap,sl.kept ap (fun b hb=>zN w ⟨C,2,none⟩ _ b (fun e=>by simp at e;omega)) (by simp)⟩
 ·rw [Nat.min_eq_right hk] at c1
  rw [Nat.min_eq_right (by omega)]
  go_cell
 ·rw [decide_eq_false (by omega)]
  go_cell
theorem l14Num_any (a0:Option Addr) (cap C W0 j:Nat) (ys:List Int) (w:World) (hlen:ys.length<=1048576) (hb:By ys) (h:Mc w C W0 a0 cap ys j):
  Calls Tryz.prog 12 #[.pointer (some ⟨C,0,none⟩)] w fun e w'=>e=.returned (.int .i64 (zi (nmA ys) j))/\Mc w' C W0 a0 cap ys (j+1)/\w.grownBy w' (some C):=by
 have HR:Hid (Mc w C W0 a0 cap ys j):=h
 by_cases hk:j<(nmA ys).length
 ·skip
  have HG:Hid (∀ wx,SlB wx a0 ys->Calls Tryz.prog 31 #[.slice a0 ys.length cap,.int .i64 (psN (nmA ys) (min j (nmA ys).length):Nat)] wx fun e w'=>e=.returned (.tuple #[.int .i64 (zi (nmA ys) j),.int .i64 ((psN (nmA ys) (j+1):Nat):Int),.bool true])/\Below wx.heap.size wx w'):=fun wx hx=>by
   have h1:=specGetNum_any a0 cap ys (psN (nmA ys) (min j (nmA ys).length):Nat) wx hlen hx hb
   rw [Nat.min_eq_left (Nat.le_of_lt hk),nm_at hb (Nat.le_of_lt hk),if_pos hk] at h1
   rw [Nat.min_eq_left (Nat.le_of_lt hk)]
   exact h1
  have HZ:Hid (∀ wx,Mc wx C W0 a0 cap ys j->Mc (wx.setCell ⟨C,1,none⟩ (.int .i64 ((psN (nmA ys) (j+1):Nat):Int))) C W0 a0 cap ys (j+1)):=fun wx hx=>hx.next hk
  have HC2:Hid (decide (j<=(nmA ys).length)=true):=decide_eq_true (Nat.le_of_lt hk)
  clear hk hb hlen h
  go_enter Tryz.func12,Tryz.ntmps12
  go_upto_region 1 with fail
  refine wp_region_G (fun w':World=>w'.cell? ⟨C,0,none⟩=some (.slice a0 ys.length cap)/\w'.cell? ⟨C,1,none⟩=some (.int .i64 (psN (nmA ys) (min j (nmA ys).length):Nat))) (fun _=>false) (by kernel_rfl) ?_
  have R0:Hid (Mc w.drew C W0 a0 cap ys j/\w.grownBy w.drew (some C)):=⟨HR.out.drew,⟨rfl,rfl,rfl,Nat.le_refl _,fun _ _ _=>rfl⟩⟩
  have hHeld:(fun w':World=>w'.cell? ⟨C,0,none⟩=some (.slice a0 ys.length cap)/\w'.cell? ⟨C,1,none⟩=some (.int .i64 (psN (nmA ys) (min j (nmA ys).length):Nat))) w.drew:=⟨R0.out.1.c0,R0.out.1.c1⟩
  clear HR
  generalize w.drew=w0 at *
  refine wpG_k 0 rfl hHeld ?_
  refine wpG_k 1 rfl hHeld ?_
  refine wpG_k 2 rfl hHeld ?_
  refine wpG_k 3 rfl hHeld ?_
  refine wpG_k 4 rfl hHeld ?_
  refine wpG_k 5 rfl hHeld ?_
  refine wpG_k 6 rfl hHeld ?_
  refine wpG_k 7 rfl hHeld ?_
  clear hHeld
  refine wpG_one 8 rfl (by kernel_rfl) (fun K hK=>?_)
  refine stepR_callD rfl 31 _ _ rfl #[.slice a0 ys.length cap,.int .i64 (psN (nmA ys) (min j (nmA ys).length):Nat)] (by simp [Act.eval]) (zZ Tryz.func31 (by kernel_rfl) rfl) (HG.out w0 R0.out.1.sl) ?_
  rintro e w1 ⟨rfl,b1⟩
  have R1:Hid (Mc w1 C W0 a0 cap ys j/\w.grownBy w1 (some C)):=⟨R0.out.1.below b1,R0.out.2.andThen (zY b1) (fun j hj=>by cases hj)⟩
  refine ⟨_,rfl,?_⟩
  refine hK.out _ _ (fun _=>⟨R1.out.1.c0,R1.out.1.c1⟩) ?_
  clear hK K b1 HG R0
  (try simp only [Act.put,zD,zE,zF])
  have hHeld:(fun w':World=>w'.cell? ⟨C,0,none⟩=some (.slice a0 ys.length cap)/\w'.cell? ⟨C,1,none⟩=some (.int .i64 (psN (nmA ys) (min j (nmA ys).length):Nat))) w1:=⟨R1.out.1.c0,R1.out.1.c1⟩
  refine wpG_k 9 rfl hHeld ?_
  refine wpG_k 10 rfl hHeld ?_
  refine wpG_k 11 rfl hHeld ?_
  refine wpG_k 12 rfl hHeld ?_
  refine wpG_k 13 rfl hHeld ?_
  refine wpG_k 14 rfl hHeld ?_
  refine wpG_k 15 rfl hHeld ?_
  refine wpG_done (by kernel_rfl) ?_ _
  clear hHeld
  have c1:=R1.out.1.c1
  have c2:=R1.out.1.c2
  have fr:=R1.out.1.fr
  rw [HC2.out] at c2
  go_wp2
  go_ret
  exact ⟨rfl,HZ.out w1 R1.out.1,zU R1.out.2 (.inl rfl) _⟩
 ·skip
  have HG:Hid (∀ wx,SlB wx a0 ys->Calls Tryz.prog 31 #[.slice a0 ys.length cap,.int .i64 (psN (nmA ys) (min j (nmA ys).length):Nat)] wx fun e w'=>e=.returned (.tuple #[.int .i64 0,.int .i64 0,.bool false])/\Below wx.heap.size wx w'):=fun wx hx=>by
   have h1:=specGetNum_any a0 cap ys (psN (nmA ys) (min j (nmA ys).length):Nat) wx hlen hx hb
   rw [Nat.min_eq_right (Nat.le_of_not_lt hk),nm_at hb (Nat.le_refl _),if_neg (Nat.lt_irrefl _)] at h1
   rw [Nat.min_eq_right (Nat.le_of_not_lt hk)]
   exact h1
  have HZ:Hid (∀ wx,Mc wx C W0 a0 cap ys j->Mc (wx.setCell ⟨C,2,none⟩ (.bool false)) C W0 a0 cap ys (j+1)):=fun wx hx=>hx.stop (Nat.le_of_not_lt hk)
  have HV:Hid (zi (nmA ys) j=0):=zi_out (Nat.le_of_not_lt hk)
  clear hk hb hlen h
  go_enter Tryz.func12,Tryz.ntmps12
  go_upto_region 1 with fail
  refine wp_region_G (fun w':World=>w'.cell? ⟨C,0,none⟩=some (.slice a0 ys.length cap)/\w'.cell? ⟨C,1,none⟩=some (.int .i64 (psN (nmA ys) (min j (nmA ys).length):Nat))) (fun _=>false) (by kernel_rfl) ?_
  have R0:Hid (Mc w.drew C W0 a0 cap ys j/\w.grownBy w.drew (some C)):=⟨HR.out.drew,⟨rfl,rfl,rfl,Nat.le_refl _,fun _ _ _=>rfl⟩⟩
  have hHeld:(fun w':World=>w'.cell? ⟨C,0,none⟩=some (.slice a0 ys.length cap)/\w'.cell? ⟨C,1,none⟩=some (.int .i64 (psN (nmA ys) (min j (nmA ys).length):Nat))) w.drew:=⟨R0.out.1.c0,R0.out.1.c1⟩
  clear HR
  generalize w.drew=w0 at *
  refine wpG_k 0 rfl hHeld ?_
  refine wpG_k 1 rfl hHeld ?_
  refine wpG_k 2 rfl hHeld ?_
  refine wpG_k 3 rfl hHeld ?_
  refine wpG_k 4 rfl hHeld ?_
  refine wpG_k 5 rfl hHeld ?_
  refine wpG_k 6 rfl hHeld ?_
  refine wpG_k 7 rfl hHeld ?_
  clear hHeld
  refine wpG_one 8 rfl (by kernel_rfl) (fun K hK=>?_)
  refine stepR_callD rfl 31 _ _ rfl #[.slice a0 ys.length cap,.int .i64 (psN (nmA ys) (min j (nmA ys).length):Nat)] (by simp [Act.eval]) (zZ Tryz.func31 (by kernel_rfl) rfl) (HG.out w0 R0.out.1.sl) ?_
  rintro e w1 ⟨rfl,b1⟩
  have R1:Hid (Mc w1 C W0 a0 cap ys j/\w.grownBy w1 (some C)):=⟨R0.out.1.below b1,R0.out.2.andThen (zY b1) (fun j hj=>by cases hj)⟩
  refine ⟨_,rfl,?_⟩
  refine hK.out _ _ (fun _=>⟨R1.out.1.c0,R1.out.1.c1⟩) ?_
  clear hK K b1 HG R0
  (try simp only [Act.put,zD,zE,zF])
  have hHeld:(fun w':World=>w'.cell? ⟨C,0,none⟩=some (.slice a0 ys.length cap)/\w'.cell? ⟨C,1,none⟩=some (.int .i64 (psN (nmA ys) (min j (nmA ys).length):Nat))) w1:=⟨R1.out.1.c0,R1.out.1.c1⟩
  refine wpG_k 9 rfl hHeld ?_
  refine wpG_k 10 rfl hHeld ?_
  refine wpG_k 11 rfl hHeld ?_
  refine wpG_k 12 rfl hHeld ?_
  refine wpG_k 13 rfl hHeld ?_
  refine wpG_k 14 rfl hHeld ?_
  refine wpG_k 15 rfl hHeld ?_
  refine wpG_done (by kernel_rfl) ?_ _
  clear hHeld
  have c1:=R1.out.1.c1
  have c2:=R1.out.1.c2
  have fr:=R1.out.1.fr
  go_wp2
  go_ret
  exact ⟨by rw [HV.out];rfl,HZ.out w1 R1.out.1,zU R1.out.2 (.inl rfl) _⟩
structure MlI (wr wx:World) (C W0:Nat) (a0:Option Addr) (cap:Nat) (ys:List Int) (v:Value) (j q r:Nat):Prop where
 ow:wx.ownsRow wr.heap.size 43 5 v q (fI (itN (nmA ys) j) q)
 nn:v≠.slice none 0 0
 mc:Mc wx C W0 a0 cap ys r
 gr:wr.grownBy wx (some C)
theorem MlI.call {wr wx w':World} {C W0 cap j q r:Nat} {a0:Option Addr} {ys:List Int} {v:Value} (h:MlI wr wx C W0 a0 cap ys v j q r) (hC:C<wr.heap.size) (hm:Mc w' C W0 a0 cap ys (r+1)) (hg:wx.grownBy w' (some C)):MlI wr w' C W0 a0 cap ys v j q (r+1):=
 ⟨h.ow.kept hg (by
  cases hk:v.ownBlock with
  | none=>exact .inl rfl
  | some k=>
   refine .inr fun e=>?_
   have:=(h.ow.lt k hk).1
   cases e
   omega),h.nn,hm,h.gr.trans hg⟩
theorem MlI.alloc {wr wx:World} {C W0 cap j q r:Nat} {a0:Option Addr} {ys:List Int} {v:Value} (h:MlI wr wx C W0 a0 cap ys v j q r) (o:Obj):MlI wr (wx.alloc o) C W0 a0 cap ys v j q r:=
 ⟨h.ow.alloc o,h.nn,h.mc.below (zS _ _),h.gr.andThen (zY (zS _ _)) (fun j hj=>by cases hj)⟩
theorem MlI.set {wr wx:World} {C W0 cap j q r X i:Nat} {a0:Option Addr} {ys:List Int} {v:Value} (h:MlI wr wx C W0 a0 cap ys v j q r) (hC:C<wr.heap.size) (hX:wr.heap.size<=X) (hv:∀ k,v.ownBlock=some k->k<X) (y:Value):MlI wr (wx.setCell ⟨X,i,none⟩ y) C W0 a0 cap ys v j q r:=by
 have g:wx.grownBy (wx.setCell ⟨X,i,none⟩ y) (some X):=zU (World.grownBy.refl _ _) (.inl rfl) _
 refine ⟨h.ow.kept g (by
  cases hk:v.ownBlock with
  | none=>exact .inl rfl
  | some k=>
   refine .inr fun e=>?_
   have:=hv k hk
   cases e
   omega),h.nn,h.mc.kept g (fun b e=>by cases e;have:=h.mc.ge;omega),h.gr.andThen g (fun b e=>by cases e;exact .inl hX)⟩
theorem MlI.app {wr wx w':World} {C W0 cap j q r:Nat} {a0:Option Addr} {ys:List Int} {v v':Value} (h:MlI wr wx C W0 a0 cap ys v j q r) (hC:C<wr.heap.size) (ho:w'.ownsRow wr.heap.size 43 5 v' (q+1) (fI (itN (nmA ys) j) (q+1))) (hg:wx.grownBy w' v.ownBlock) (hn:v'≠.slice none 0 0):MlI wr w' C W0 a0 cap ys v' j (q+1) r:=
 ⟨ho,hn,h.mc.kept hg (fun b e=>by have:=(h.ow.lt b e).1;have:=h.mc.ge;omega),h.gr.andThen hg (fun b e=>.inl (h.ow.lt b e).1)⟩
theorem MlI.new {wr wx:World} {C W0 cap j r:Nat} {a0:Option Addr} {ys:List Int} (hm:Mc wx C W0 a0 cap ys r) (hg:wr.grownBy wx (some C)):MlI wr (wx.alloc (.cells #[] 43)) C W0 a0 cap ys (.slice (some ⟨wx.heap.size,0,none⟩) 0 0) j 0 r:=
 ⟨World.ownsRow_made (base:=wr.heap.size) (e:=43) (size:=5) wx #[] 0 hg.size (by unfold maxLen;omega) (by simp),by simp,hm.below (zS _ _),hg.andThen (zY (zS _ _)) (fun j hj=>by cases hj)⟩
structure MlE (wr wx:World) (C W0:Nat) (a0:Option Addr) (cap:Nat) (ys:List Int) (v:Value) (j q r:Nat):Prop where
 ow:wx.ownsRow wr.heap.size 46 3 v q (fE (evN (nmA ys) j) q)
 nn:v≠.slice none 0 0
 mc:Mc wx C W0 a0 cap ys r
 gr:wr.grownBy wx (some C)
theorem MlE.call {wr wx w':World} {C W0 cap j q r:Nat} {a0:Option Addr} {ys:List Int} {v:Value} (h:MlE wr wx C W0 a0 cap ys v j q r) (hC:C<wr.heap.size) (hm:Mc w' C W0 a0 cap ys (r+1)) (hg:wx.grownBy w' (some C)):MlE wr w' C W0 a0 cap ys v j q (r+1):=
 ⟨h.ow.kept hg (by
  cases hk:v.ownBlock with
  | none=>exact .inl rfl
  | some k=>
   refine .inr fun e=>?_
   have:=(h.ow.lt k hk).1
   cases e
   omega),h.nn,hm,h.gr.trans hg⟩
theorem MlE.alloc {wr wx:World} {C W0 cap j q r:Nat} {a0:Option Addr} {ys:List Int} {v:Value} (h:MlE wr wx C W0 a0 cap ys v j q r) (o:Obj):MlE wr (wx.alloc o) C W0 a0 cap ys v j q r:=
 ⟨h.ow.alloc o,h.nn,h.mc.below (zS _ _),h.gr.andThen (zY (zS _ _)) (fun j hj=>by cases hj)⟩
theorem MlE.set {wr wx:World} {C W0 cap j q r X i:Nat} {a0:Option Addr} {ys:List Int} {v:Value} (h:MlE wr wx C W0 a0 cap ys v j q r) (hC:C<wr.heap.size) (hX:wr.heap.size<=X) (hv:∀ k,v.ownBlock=some k->k<X) (y:Value):MlE wr (wx.setCell ⟨X,i,none⟩ y) C W0 a0 cap ys v j q r:=by
 have g:wx.grownBy (wx.setCell ⟨X,i,none⟩ y) (some X):=zU (World.grownBy.refl _ _) (.inl rfl) _
 refine ⟨h.ow.kept g (by
  cases hk:v.ownBlock with
  | none=>exact .inl rfl
  | some k=>
   refine .inr fun e=>?_
   have:=hv k hk
   cases e
   omega),h.nn,h.mc.kept g (fun b e=>by cases e;have:=h.mc.ge;omega),h.gr.andThen g (fun b e=>by cases e;exact .inl hX)⟩
theorem MlE.app {wr wx w':World} {C W0 cap j q r:Nat} {a0:Option Addr} {ys:List Int} {v v':Value} (h:MlE wr wx C W0 a0 cap ys v j q r) (hC:C<wr.heap.size) (ho:w'.ownsRow wr.heap.size 46 3 v' (q+1) (fE (evN (nmA ys) j) (q+1))) (hg:wx.grownBy w' v.ownBlock) (hn:v'≠.slice none 0 0):MlE wr w' C W0 a0 cap ys v' j (q+1) r:=
 ⟨ho,hn,h.mc.kept hg (fun b e=>by have:=(h.ow.lt b e).1;have:=h.mc.ge;omega),h.gr.andThen hg (fun b e=>.inl (h.ow.lt b e).1)⟩
theorem MlE.new {wr wx:World} {C W0 cap j r:Nat} {a0:Option Addr} {ys:List Int} (hm:Mc wx C W0 a0 cap ys r) (hg:wr.grownBy wx (some C)):MlE wr (wx.alloc (.cells #[] 46)) C W0 a0 cap ys (.slice (some ⟨wx.heap.size,0,none⟩) 0 0) j 0 r:=
 ⟨World.ownsRow_made (base:=wr.heap.size) (e:=46) (size:=3) wx #[] 0 hg.size (by unfold maxLen;omega) (by simp),by simp,hm.below (zS _ _),hg.andThen (zY (zS _ _)) (fun j hj=>by cases hj)⟩
def B5 (w:World) (X:Nat) (a b c d e:Int):Prop:=(w.cell? ⟨X,0,none⟩=some (.int .i64 a)/\w.cell? ⟨X,1,none⟩=some (.int .i64 b)/\w.cell? ⟨X,2,none⟩=some (.int .i64 c)/\w.cell? ⟨X,3,none⟩=some (.int .i64 d)/\w.cell? ⟨X,4,none⟩=some (.int .i64 e))/\∀ j,w.frozen? ⟨X,j,none⟩=false
theorem B5.kept {w w':World} {X:Nat} {a b c d e:Int} {row:Option Nat} (h:B5 w X a b c d e) (g:w.grownBy w' row) (hr:some X≠row):B5 w' X a b c d e:=by
 have hk:=g.block X (zJ w _ h.1.1) hr
 obtain ⟨⟨h0,h1,h2,h3,h4⟩,f⟩:=h
 exact ⟨⟨(zH hk).trans h0,(zH hk).trans h1,(zH hk).trans h2,(zH hk).trans h3,(zH hk).trans h4⟩,fun j=>(zI hk).trans (f j)⟩
theorem B5.lt {w:World} {X:Nat} {a b c d e:Int} (h:B5 w X a b c d e):X<w.heap.size:=zJ w _ h.1.1
theorem B5.new (w:World) (T:TypeId) (a b c d e:Int):B5 (w.alloc (.cells #[.int .i64 a,.int .i64 b,.int .i64 c,.int .i64 d,.int .i64 e] T)) w.heap.size a b c d e:=
 ⟨⟨zV _ _ _ 0 rfl,zV _ _ _ 1 rfl,zV _ _ _ 2 rfl,zV _ _ _ 3 rfl,zV _ _ _ 4 rfl⟩,fun _=>yA _ _ _ _ rfl⟩
theorem B5.set1 {w:World} {X:Nat} {a b c d e:Int} (h:B5 w X a b c d e) (y:Int):B5 (w.setCell ⟨X,1,none⟩ (.int .i64 y)) X a y c d e:=by
 have hlt:=h.lt
 obtain ⟨⟨h0,h1,h2,h3,h4⟩,f⟩:=h
 exact ⟨⟨by go_cell,by go_cell,by go_cell,by go_cell,by go_cell⟩,fun j=>by rw [World.frozen?_setCell];exact f j⟩
theorem B5.set2 {w:World} {X:Nat} {a b c d e:Int} (h:B5 w X a b c d e) (y:Int):B5 (w.setCell ⟨X,2,none⟩ (.int .i64 y)) X a b y d e:=by
 have hlt:=h.lt
 obtain ⟨⟨h0,h1,h2,h3,h4⟩,f⟩:=h
 exact ⟨⟨by go_cell,by go_cell,by go_cell,by go_cell,by go_cell⟩,fun j=>by rw [World.frozen?_setCell];exact f j⟩
theorem B5.set3 {w:World} {X:Nat} {a b c d e:Int} (h:B5 w X a b c d e) (y:Int):B5 (w.setCell ⟨X,3,none⟩ (.int .i64 y)) X a b c y e:=by
 have hlt:=h.lt
 obtain ⟨⟨h0,h1,h2,h3,h4⟩,f⟩:=h
 exact ⟨⟨by go_cell,by go_cell,by go_cell,by go_cell,by go_cell⟩,fun j=>by rw [World.frozen?_setCell];exact f j⟩
theorem B5.set4 {w:World} {X:Nat} {a b c d e:Int} (h:B5 w X a b c d e) (y:Int):B5 (w.setCell ⟨X,4,none⟩ (.int .i64 y)) X a b c d y:=by
 have hlt:=h.lt
 obtain ⟨⟨h0,h1,h2,h3,h4⟩,f⟩:=h
 exact ⟨⟨by go_cell,by go_cell,by go_cell,by go_cell,by go_cell⟩,fun j=>by rw [World.frozen?_setCell];exact f j⟩
def B3x (w:World) (X:Nat) (a b c:Int):Prop:=(w.cell? ⟨X,0,none⟩=some (.int .i64 a)/\w.cell? ⟨X,1,none⟩=some (.int .i64 b)/\w.cell? ⟨X,2,none⟩=some (.int .i64 c))/\∀ j,w.frozen? ⟨X,j,none⟩=false
theorem B3x.kept {w w':World} {X:Nat} {a b c:Int} {row:Option Nat} (h:B3x w X a b c) (g:w.grownBy w' row) (hr:some X≠row):B3x w' X a b c:=by
 have hk:=g.block X (zJ w _ h.1.1) hr
 obtain ⟨⟨h0,h1,h2⟩,f⟩:=h
 exact ⟨⟨(zH hk).trans h0,(zH hk).trans h1,(zH hk).trans h2⟩,fun j=>(zI hk).trans (f j)⟩
theorem B3x.lt {w:World} {X:Nat} {a b c:Int} (h:B3x w X a b c):X<w.heap.size:=zJ w _ h.1.1
theorem B3x.new (w:World) (T:TypeId) (a b c:Int):B3x (w.alloc (.cells #[.int .i64 a,.int .i64 b,.int .i64 c] T)) w.heap.size a b c:=
 ⟨⟨zV _ _ _ 0 rfl,zV _ _ _ 1 rfl,zV _ _ _ 2 rfl⟩,fun _=>yA _ _ _ _ rfl⟩
theorem B3x.set1 {w:World} {X:Nat} {a b c:Int} (h:B3x w X a b c) (y:Int):B3x (w.setCell ⟨X,1,none⟩ (.int .i64 y)) X a y c:=by
 have hlt:=h.lt
 obtain ⟨⟨h0,h1,h2⟩,f⟩:=h
 exact ⟨⟨by go_cell,by go_cell,by go_cell⟩,fun j=>by rw [World.frozen?_setCell];exact f j⟩
theorem B3x.set2 {w:World} {X:Nat} {a b c:Int} (h:B3x w X a b c) (y:Int):B3x (w.setCell ⟨X,2,none⟩ (.int .i64 y)) X a b y:=by
 have hlt:=h.lt
 obtain ⟨⟨h0,h1,h2⟩,f⟩:=h
 exact ⟨⟨by go_cell,by go_cell,by go_cell⟩,fun j=>by rw [World.frozen?_setCell];exact f j⟩
theorem LL.pushX {z:Bool} {e:TypeId} {sz:Nat} {E:TypeId} {w:World} {P:Nat->Prop} {v:Value} {n:Nat} {u:Nat->Value} {L:Nat->Nat} {c:Nat->List Value} (o:LL z e sz E w P v n u L c) {w1 w2:World} {u' v':Value} (hsz:w.heap.size<=w1.heap.size) (hb:∀ k,P k->k<w.heap.size->w1.heap[k]? = w.heap[k]?) (hu:w1.ownsRow w.heap.size e sz u' (L n) (c n)) (hne:Nz z e->u'≠.slice none 0 0) (hv:w2.ownsRow 0 E 1 v' (n+1) ((List.range n).map u ++ [u'])) (g:w1.grownBy w2 v.ownBlock)
  (hv':∀ j,v'.ownBlock=some j->v.ownBlock=some j\/w1.heap.size<=j) {P':Nat->Prop} (hP:∀ k,P k->k<w.heap.size->P' k) (hPu:∀ k,u'.ownBlock=some k->P' k) (hPv:∀ k,v'.ownBlock=some k->w1.heap.size<=k->P' k):LL z e sz E w2 P' v' (n+1) (fun j=>if j=n then u' else u j) L c:=by
 have h:=o.pushG (P':=fun _=>True) hsz hb hu hne hv g hv' (fun _ _ _=>trivial) (fun _ _ _=>trivial)
 refine ⟨h.row,h.own,fun k hk=>?_,fun i hi k hk=>?_,h.ra,h.oa,h.nn⟩
 ·rcases hv' k hk with h9 | h9
  ·exact hP k (o.rb k h9) (o.row.lt k h9).2
  ·exact hPv k hk h9
 ·by_cases ei:i=n
  ·simp only [if_pos ei] at hk
   exact hPu k hk
  ·simp only [if_neg ei] at hk
   exact hP k (o.ob i (by omega) k hk) ((o.own i (by omega)).lt k hk).2
structure MoJ (w wx:World) (a0:Option Addr) (cap:Nat) (ys:List Int) (c:Nat->Nat) (p k:Nat) (vp vh:Value) (up uh:Nat->Value):Prop where
 mc:Mc wx (w.heap.size+1) w.heap.size a0 cap ys k
 lp:LI true wx (Cl w.heap.size c 1) vp p up (mdY ys p).pL (mdY ys p).pH
 lh:LE true wx (Cl w.heap.size c 4) vh p uh (mdY ys p).hL (mdY ys p).hH
 ro:BoxC wx w.heap.size (.slice none 0 0) (.slice none 0 0) (.slice none 0 0) (.slice none 0 0)
 rf:∀ j,wx.frozen? ⟨w.heap.size,j,none⟩=false
 cc:c w.heap.size=0/\c (w.heap.size+1)=0
 bl:Below w.heap.size w wx
theorem MoJ.lt {w wx:World} {cap p k:Nat} {a0:Option Addr} {ys:List Int} {c:Nat->Nat} {vp vh:Value} {up uh:Nat->Value} (J:MoJ w wx a0 cap ys c p k vp vh up uh):w.heap.size+1<wx.heap.size:=J.mc.lt
theorem MoJ.put {w wr wm w1 w2 w3:World} {cap p k k' r:Nat} {a0:Option Addr} {ys:List Int} {c:Nat->Nat} {vp vh v u vp' vh':Value} {up uh:Nat->Value} (J:MoJ w wr a0 cap ys c p k vp vh up uh)
  (A:MlI wr wm (w.heap.size+1) w.heap.size a0 cap ys v (mP (nmA ys) p+1) ((mdY ys p).pL p) r) (E:MlE wm w1 (w.heap.size+1) w.heap.size a0 cap ys u (mH (nmA ys) p+1) ((mdY ys p).hL p) k')
  (ho1:w2.ownsRow 0 41 1 vp' (p+1) ((List.range p).map up ++ [v])) (g1:w1.grownBy w2 vp.ownBlock) (q1:∀ j,vp'.ownBlock=some j->vp.ownBlock=some j\/w1.heap.size<=j)
  (ho2:w3.ownsRow 0 44 1 vh' (p+1) ((List.range p).map uh ++ [u])) (g2:w2.grownBy w3 vh.ownBlock) (q2:∀ j,vh'.ownBlock=some j->vh.ownBlock=some j\/w2.heap.size<=j):
  ∃ c' up' uh',MoJ w w3 a0 cap ys c' (p+1) k' vp' vh' up' uh':=by
 have hlt:=J.lt
 have s1:=A.gr.size
 have s2:=E.gr.size
 have s3:=g1.size
 have s4:=g2.size
 have pb:∀ b,vp.ownBlock=some b->w.heap.size<=b/\c b=1/\b<wr.heap.size:=fun b e=>⟨(J.lp.rb b e).1,(J.lp.rb b e).2,(J.lp.row.lt b e).2⟩
 have hbk:∀ b,vh.ownBlock=some b->w.heap.size<=b/\c b=4/\b<wr.heap.size:=fun b e=>⟨(J.lh.rb b e).1,(J.lh.rb b e).2,(J.lh.row.lt b e).2⟩
 have gE:wr.grownBy w1 (some (w.heap.size+1)):=A.gr.trans E.gr
 have k1:∀ b,b<wr.heap.size->c b≠0->w1.heap[b]? = wr.heap[b]?:=fun b h1 h2=>gE.block b h1 (fun e=>by cases e;exact h2 J.cc.2)
 have k2:∀ b,b<wr.heap.size->c b≠0->c b≠1->w2.heap[b]? = wr.heap[b]?:=fun b h1 h2 h3=>(g1.block b (by omega) (fun e=>h3 (pb b e.symm).2.1)).trans (k1 b h1 h2)
 have kz:∀ b,b<wr.heap.size->c b=0->b≠w.heap.size+1->w3.heap[b]? = wr.heap[b]?:=fun b h1 h2 h3=>(g2.block b (by omega) (fun e=>by have:=(hbk b e.symm).2.1;omega)).trans ((g1.block b (by omega) (fun e=>by have:=(pb b e.symm).2.1;omega)).trans (gE.block b h1 (fun e=>by cases e;exact h3 rfl)))
 have c'd:∃ c':Nat->Nat,(∀ b,b<wr.heap.size->c' b=c b)/\(∀ b,wr.heap.size<=b->b<wm.heap.size->c' b=1)/\(∀ b,wm.heap.size<=b->b<w1.heap.size->c' b=4)/\(∀ b,w1.heap.size<=b->b<w2.heap.size->c' b=1)/\∀ b,w2.heap.size<=b->c' b=4:=by
  refine ⟨fun b=>if b<wr.heap.size then c b else if b<wm.heap.size then 1 else if b<w1.heap.size then 4 else if b<w2.heap.size then 1 else 4,fun b h1=>?_,fun b h1 h2=>?_,fun b h1 h2=>?_,fun b h1 h2=>?_,fun b h1=>?_⟩
  ·exact if_pos h1
  ·show (if b<wr.heap.size then c b else if b<wm.heap.size then 1 else if b<w1.heap.size then 4 else if b<w2.heap.size then 1 else 4)=1
   rw [if_neg (by omega),if_pos h2]
  ·show (if b<wr.heap.size then c b else if b<wm.heap.size then 1 else if b<w1.heap.size then 4 else if b<w2.heap.size then 1 else 4)=4
   rw [if_neg (by omega),if_neg (by omega),if_pos h2]
  ·show (if b<wr.heap.size then c b else if b<wm.heap.size then 1 else if b<w1.heap.size then 4 else if b<w2.heap.size then 1 else 4)=1
   rw [if_neg (by omega),if_neg (by omega),if_neg (by omega),if_pos h2]
  ·show (if b<wr.heap.size then c b else if b<wm.heap.size then 1 else if b<w1.heap.size then 4 else if b<w2.heap.size then 1 else 4)=4
   rw [if_neg (by omega),if_neg (by omega),if_neg (by omega),if_neg (by omega)]
 obtain ⟨c',d0,d1,d2,d3,d4⟩:=c'd
 have hA : w1.ownsRow wr.heap.size 43 5 v ((mdY ys p).pL p) (fI ((mdY ys p).pH p) ((mdY ys p).pL p)) := A.ow.kept E.gr (by
  cases hk:v.ownBlock with
  | none=>exact .inl rfl
  | some b=>
   refine .inr fun e=>?_
   have:=(A.ow.lt b hk).1
   cases e
   omega)
 have hvb:∀ b,v.ownBlock=some b->wr.heap.size<=b/\b<wm.heap.size:=fun b e=>A.ow.lt b e
 have hub:∀ b,u.ownBlock=some b->wm.heap.size<=b/\b<w1.heap.size:=fun b e=>E.ow.lt b e
 have p2:=J.lp.pushX (w1:=w1) (w2:=w2) (u':=v) (v':=vp') (P':=Cl w.heap.size c' 1) (by omega) (fun b hb hl=>k1 b hl (by rw [hb.2];decide)) hA (fun _=>A.nn) ho1 g1 q1 (fun b hb hl=>⟨hb.1,(d0 b hl).trans hb.2⟩) (fun b e=>⟨by have:=hvb b e;omega,d1 b (hvb b e).1 (hvb b e).2⟩) (fun b e h9=>⟨by omega,d3 b h9 (ho1.lt b e).2⟩)
 have hE2 : w2.ownsRow wm.heap.size 46 3 u ((mdY ys p).hL p) (fE ((mdY ys p).hH p) ((mdY ys p).hL p)) := E.ow.kept g1 (by
  cases hk:u.ownBlock with
  | none=>exact .inl rfl
  | some b=>
   refine .inr fun e=>?_
   have:=(hub b hk).1
   have:=(pb b e.symm).2.2
   omega)
 have h3:=J.lh.pushX (w1:=w2) (w2:=w3) (u':=u) (v':=vh') (P':=Cl w.heap.size c' 4) (by omega) (fun b hb hl=>k2 b hl (by rw [hb.2];decide) (by rw [hb.2];decide)) (hE2.mono s1) (fun _=>E.nn) ho2 g2 q2 (fun b hb hl=>⟨hb.1,(d0 b hl).trans hb.2⟩) (fun b e=>⟨by have:=hub b e;omega,d2 b (hub b e).1 (hub b e).2⟩) (fun b e h9=>⟨by omega,d4 b h9⟩)
 have p3 := p2.keep (w' := w3) fun b hb hl => g2.block b hl (fun e => by
  have h9:=hbk b e.symm
  have h8:=hb.2
  rw [d0 b h9.2.2,h9.2.1] at h8
  cases h8)
 have kr:=kz w.heap.size (by omega) J.cc.1 (by omega)
 refine ⟨c',_,_,(E.mc.kept g1 (fun b e=>?_)).kept g2 (fun b e=>?_),p3,h3,J.ro.blkR kr,fun i=>(zI kr).trans (J.rf i),⟨(d0 _ (by omega)).trans J.cc.1,(d0 _ hlt).trans J.cc.2⟩,?_⟩
 ·have h9:=pb b e
  refine ⟨by omega,fun e9=>?_⟩
  rw [e9,J.cc.2] at h9
  omega
 ·have h9:=hbk b e
  refine ⟨by omega,fun e9=>?_⟩
  rw [e9,J.cc.2] at h9
  omega
 ·exact Below.grown (Below.grown (Below.grown J.bl gE J.bl.size (fun b e=>by cases e;omega)) g1 (by omega) (fun b e=>(pb b e).1)) g2 (by omega) (fun b e=>(hbk b e).1)
noncomputable def nwN (n:Nat) (L:Nat->Nat) (H:Nat->Nat->I5):Nat:=if snB n L H=true then n else 0
def NwR (w:World) (n:Nat) (L:Nat->Nat) (H:Nat->Nat->I5) (e:Ending) (w':World):Prop:=∃ pa pc sa sc wa wc ha hc,e=.returned (.tuple #[sysV pa (nwN n L H) pc sa (nwN n L H) sc wa (nwN n L H*nwN n L H) wc ha (nwN n L H) hc,.bool (snB n L H)])/\Own1 w' w.heap.size w'.heap.size (nwN n L H) L H (.slice pa (nwN n L H) pc) (.slice sa (nwN n L H) sc) (.slice wa (nwN n L H*nwN n L H) wc) (.slice ha (nwN n L H) hc)/\Below w.heap.size w w'
theorem NwR.yes {w w':World} {n:Nat} {L:Nat->Nat} {H:Nat->Nat->I5} {pa sa wa ha:Option Addr} {pc sc wc hc:Nat} (h:snB n L H=true) (o:Own1 w' w.heap.size w'.heap.size n L H (.slice pa n pc) (.slice sa n sc) (.slice wa (n*n) wc) (.slice ha n hc)) (b:Below w.heap.size w w'):NwR w n L H (.returned (.tuple #[sysV pa n pc sa n sc wa (n*n) wc ha n hc,.bool true])) w':=by
 have e:nwN n L H=n:=if_pos h
 refine ⟨pa,pc,sa,sc,wa,wc,ha,hc,?_,?_,b⟩
 ·rw [e,h]
 ·rw [e]
  exact o
theorem NwR.no {w w':World} {n:Nat} {L:Nat->Nat} {H:Nat->Nat->I5} (h:snB n L H=false) (b:Below w.heap.size w w'):NwR w n L H (.returned (.tuple #[sysV none 0 0 none 0 0 none 0 0 none 0 0,.bool false])) w':=by
 have e:nwN n L H=0:=if_neg (by rw [h];decide)
 refine ⟨none,0,none,0,none,0,none,0,?_,?_,b⟩
 ·rw [e,h]
 ·rw [e]
  exact Own1.zero _ _ _ _ _
theorem specSysNew_any (pa:Option Addr) (n pc:Nat) (A:Nat->Option Addr) (L C:Nat->Nat) (H:Nat->Nat->I5) (w:World) (hn:n<=1048576) (hL:∀ i,i<n->L i<=1048576) (hr:RowS w pa n fun i=>.slice (A i) (L i) (C i)) (hI:∀ i,i<n->Src w (A i) (fI (H i) (L i))):
  Calls Tryz.prog 13 #[.slice pa n pc] w (NwR w n L H):=by
 have hn':(n:Int)<=1048576:=by omega
 have HP:Hid (∀ wx,Below w.heap.size w wx->Calls Tryz.prog 32 #[.slice pa n pc] wx fun e w'=>∃ v u,e=.returned v/\LI true w' (fun k=>wx.heap.size<=k/\k<w'.heap.size) v n u L H/\Below wx.heap.size wx w'):=fun wx hb=>l4Ins_any pa n pc A L C H wx hn hL (hr.below hb) fun i hi=>(hI i hi).below hb
 have HL:Hid (∀ i,i<n->L i<=1048576):=hL
 have BW:Hid (Below w.heap.size w (w.alloc (zQ3))):=zP _ _
 have RB:Hid (BoxC (w.alloc (zQ3)) w.heap.size (.slice none 0 0) (.slice none 0 0) (.slice none 0 0) (.slice none 0 0)/\∀ j,(w.alloc (zQ3)).frozen? ⟨w.heap.size,j,none⟩=false):=⟨BoxC.new w _ _ _ _ _,fun j=>yA _ _ _ _ rfl⟩
 have hM:w.heap.size<=w.heap.size:=Nat.le_refl _
 clear hL hr hI
 by_cases h4:n<=4
 case neg=>
  have h4':(4:Int)<(n:Int):=by omega
  have HV:Hid (snB n L H=false):=by
   show snB n L H=false
   rw [snB,decide_eq_false h4]
   rfl
  go_enter Tryz.func13,Tryz.ntmps13
  go_upto_region 1 with fail
  generalize w.alloc (zQ3)=W1 at *
  obtain ⟨⟨r0,r1,r2,r3⟩,rf⟩:=RB.out
  go_wp2
  exact bodyPost_ret (v:=.tuple #[sysV none 0 0 none 0 0 none 0 0 none 0 0,.bool false]) (by simp [results,Tryz.results13,go_sem,r0,r1,r2,r3]) rfl (NwR.no HV.out ((((BW.out.setCell hM _).setCell hM _).setCell hM _).setCell hM _))
 have h4':¬ (4:Int)<(n:Int):=by omega
 obtain ⟨NN,hNN⟩:∃ NN,NN=n*n:=⟨_,rfl⟩
 have HNN:Hid (NN=n*n):=hNN
 have hm0:(n:Int)*(n:Int)=(NN:Int):=by rw [hNN];simp
 have h16:NN<=16:=by rw [hNN];exact zO (Nat.mul_le_mul h4 h4) (by omega)
 have h16':(NN:Int)<=16:=by omega
 have hn4:(n:Int)<=4:=by omega
 clear hNN
 go_enter Tryz.func13,Tryz.ntmps13
 go_upto_region 4 with fail
 have z1:w.heap.size<(w.alloc (zQ3)).heap.size:=by simp
 generalize w.alloc (zQ3)=W1 at *
 have F0:Hid (NwF W1 n L H false false false false undef undef undef undef W1.drew):=⟨(Below.refl _ _).drew,fun _=>0,(fun e=>by cases e),(fun e=>by cases e),(fun e=>by cases e),(fun e=>by cases e)⟩
 refine wp_region_G (fun _=>True) (fun _=>false) (by kernel_rfl) ?_
 refine wpGT_of [0,2,3] ?_
 iterate 3 (refine wpGT_k rfl trivial ?_)
 refine wpGT_nil ?_
 refine wpG_take 4 rfl trivial ⟨.int .i64 (NN:Int),fun wq _=>?_,?_⟩
 ·go_simp
  rw [IntKind.wrap_i64]
  omega
 (try simp only [Act.put,zD,zE,zF])
 refine wpG_k 6 rfl trivial ?_
 refine wpG_cast 6 #[true,false,true,true,true,false,true,false,false,false,false] (by kernel_rfl) (by kernel_rfl) ?_
 refine wpG_four (fun a b c d e=>#[true,a,true,true,true,b,true,c,e,d,false]) 1 5 7 9 8 (fun a b c d x wq=>∃ v1 v2 v3 v4,x=⟨#[.slice pa n pc,undef,.pointer (some ⟨w.heap.size,0,none⟩),.bool false,.int .i64 n,v4,undef,.slice pa n pc,.int .i64 n,.int .i64 n,.bool false,undef,.slice pa n pc,v1,.int .i64 n,.int .i64 n,.int .i64 NN,v2,.int .i64 n,v3,undef,undef,undef,undef,undef,undef,undef,undef,undef,undef,undef,undef,undef,undef,undef,undef,undef],[]⟩/\NwF W1 n L H a b c d v1 v2 v3 v4 wq) (fun d x wq=>∃ a1 c1 a2 c2 a3 c3 v4,x=⟨#[.slice pa n pc,undef,.pointer (some ⟨w.heap.size,0,none⟩),.bool false,.int .i64 n,v4,undef,.slice pa n pc,.int .i64 n,.int .i64 n,.bool false,undef,.slice pa n pc,.slice a1 n c1,.int .i64 n,.int .i64 n,.int .i64 NN,.slice a2 (n*n) c2,.int .i64 n,.slice a3 n c3,.agg #[.slice a1 n c1,.slice none 0 0,.slice a2 (n*n) c2,.slice a3 n c3],undef,undef,undef,undef,undef,undef,undef,undef,undef,undef,undef,undef,undef,undef,undef,undef],[]⟩/\NwF W1 n L H true true true d (.slice a1 n c1) (.slice a2 (n*n) c2) (.slice a3 n c3) v4 wq) (f0:=1) ?_ (fun _ _ _=>rfl) (fun _ _ _=>rfl) (fun _ _ _=>rfl) (fun _ _ _ _=>rfl) (fun _=>rfl) rfl (by kernel_rfl) (fun d=>by cases d <;> kernel_rfl) (fun d=>by cases d <;> kernel_rfl) (by kernel_rfl) (fun _ _ _ _ h=>h) ?_ ?_ ?_ ?_ ?_ ?_ ?_ 4 false false false false _ _ rfl ⟨_,_,_,_,rfl,F0.out⟩
 ·intro a b c d h
  cases a <;> cases b <;> cases c <;> cases d <;> first | exact absurd h (by decide) | kernel_rfl
 ·rintro b c d x wq ⟨v1,v2,v3,v4,rfl,F⟩
  refine wpOp_step rfl fun K hK=>?_
  refine stepR_call rfl 32 _ _ rfl #[.slice pa n pc] (by simp [Act.eval]) (zZ Tryz.func32 (by kernel_rfl) rfl) (HP.out wq (BW.out.trans (F.be.mono BW.out.size))) ?_
  rintro e w5 ⟨v5,u5,rfl,o5,d5⟩
  exact ⟨_,rfl,hK _ _ ⟨fun _ _=>trivial,v5,v2,v3,v4,rfl,F.one o5 d5⟩⟩
 ·rintro a c d x wq ⟨v1,v2,v3,v4,rfl,F⟩
  have hmk:=run_make_nils kndTT nilItem NN (by omega) wq
  refine wpOp_step rfl fun K hK=>?_
  go_simp
  refine hK _ _ ⟨fun _ _=>trivial,v1,.slice (some ⟨wq.heap.size,0,none⟩) NN NN,v3,v4,rfl,?_⟩
  rw [HNN.out]
  exact F.two (by rw [<- HNN.out];omega)
 ·rintro a b d x wq ⟨v1,v2,v3,v4,rfl,F⟩
  have hmk:=run_make_nils kndEE nilEvent n (by omega) wq
  refine wpOp_step rfl fun K hK=>?_
  go_simp
  exact hK _ _ ⟨fun _ _=>trivial,v1,v2,.slice (some ⟨wq.heap.size,0,none⟩) n n,v4,rfl,F.three (by omega)⟩
 ·rintro a b c x wq ⟨v1,v2,v3,v4,rfl,F⟩
  refine wpOp_step rfl fun K hK=>?_
  go_simp
  exact hK _ _ ⟨fun _ _=>trivial,v1,v2,v3,.pointer (some ⟨wq.heap.size,0,none⟩),rfl,F.four⟩
 ·rintro d x wq ⟨v1,v2,v3,v4,rfl,F⟩
  obtain ⟨k,h1,h2,h3,-⟩:=F.ow
  obtain ⟨u,o1⟩:=h1 rfl
  obtain ⟨a1,c1,rfl⟩:=zT o1.row
  obtain ⟨a2,c2,rfl⟩:=zT (h2 rfl).row
  obtain ⟨a3,c3,rfl⟩:=zT (h3 rfl).row
  refine ⟨rfl,.agg #[.slice a1 n c1,.slice none 0 0,.slice a2 (n*n) c2,.slice a3 n c3],fun wz=>?_,a1,c1,a2,c2,a3,c3,v4,rfl,F⟩
  go_simp
 ·rintro x wq ⟨a1,c1,a2,c2,a3,c3,v4,rfl,F⟩
  refine wpOp_step rfl fun K hK=>?_
  go_simp
  exact hK _ _ ⟨fun _ _=>trivial,a1,c1,a2,c2,a3,c3,.pointer (some ⟨wq.heap.size,0,none⟩),rfl,F.four⟩
 rintro x w4 ⟨a1,c1,a2,c2,a3,c3,v4,rfl,F⟩
 clear F0
 obtain ⟨N,c,up,us,rfl,nl,⟨g0,g1,g2,g3⟩,gf,ns⟩:=NwS.start F rfl (.inr trivial)
 refine wpG_one 10 rfl (by kernel_rfl) (fun K hK=>?_)
 go_simp
 refine hK.out _ _ (fun _=>trivial) ?_
 clear hK K
 (try simp only [zD,zE,zF])
 refine wpG_done (by kernel_rfl) ?_ _
 have NS0:Hid (NwS W1 N n L H true 0 ((((w4.setCell ⟨N,0,none⟩ (.slice a1 n c1)).setCell ⟨N,1,none⟩ (.slice none 0 0)).setCell ⟨N,2,none⟩ (.slice a2 (n*n) c2)).setCell ⟨N,3,none⟩ (.slice a3 n c3)) (.slice a1 n c1) (.slice none 0 0) (.slice a2 (n*n) c2) (.slice a3 n c3) c up us):=ns
 clear ns g0 g1 g2 g3 gf nl F
 go_upto_region 5 with fail
 generalize ((((w4.setCell ⟨N,0,none⟩ (.slice a1 n c1)).setCell ⟨N,1,none⟩ (.slice none 0 0)).setCell ⟨N,2,none⟩ (.slice a2 (n*n) c2)).setCell ⟨N,3,none⟩ (.slice a3 n c3))=W5 at *
 go_wp2_with fail
 go_loopw [6] (fun i wr=>∃ k:Nat,k<=n/\i=.int .i64 k/\Hid (∃ vs c up us,NwS W1 N n L H true k wr (.slice a1 n c1) vs (.slice a2 (n*n) c2) (.slice a3 n c3) c up us)) (fun i _=>n - (intOf i).toNat)
 case atStart=>exact ⟨0,Nat.zero_le _,rfl,_,_,_,_,NS0.out⟩
 case round=>
  clear NS0 c up us
  obtain ⟨k,hk,rfl,HK⟩:=hrel
  obtain ⟨vs,c,up,us,ns⟩:=HK.out
  have NS:Hid (NwS W1 N n L H true k wr (.slice a1 n c1) vs (.slice a2 (n*n) c2) (.slice a3 n c3) c up us):=ns
  clear ns HK
  by_cases hlt:k<n
  ·have hlt':(k:Int)<(n:Int):=by omega
   go_wp2_with fail
   obtain ⟨x0,x1,x2,x3⟩:=NS.out.bx
   have xf:=NS.out.fr
   obtain ⟨sa,sc,rfl⟩:=zT NS.out.s.row
   have nl:=NS.out.lt
   refine wp_region_G (fun w'=>w'.cell? ⟨N,1,none⟩=some (.slice sa k sc)) (fun i=>i == 6) (by kernel_rfl) ?_
   have hHeld:(fun w':World=>w'.cell? ⟨N,1,none⟩=some (.slice sa k sc)) wr.drew:=x1
   refine wpG_k 0 rfl hHeld ?_
   refine wpG_k 1 rfl hHeld ?_
   refine wpG_one 2 rfl (by kernel_rfl) (fun K hK=>?_)
   refine stepR_call rfl 33 _ _ rfl #[] (by simp) (zZ Tryz.func33 (by kernel_rfl) rfl) (specStateNew_any wr.drew) ?_
   rintro e w5 ⟨u5,rfl,o5,d5⟩
   refine ⟨_,rfl,?_⟩
   obtain ⟨ra5,rc5,oa5,oc5,rfl,-,-⟩:=o5.read
   have q5:Below wr.heap.size wr w5:=(Below.refl wr.heap.size wr).drew.trans d5
   have hc5:=(bcell q5).1
   refine hK.out _ _ (fun _=>(hc5 _ _ nl).trans x1) ?_
   clear hK K
   (try simp only [Act.put,zD,zE,zF])
   refine wpG_one 3 rfl (by kernel_rfl) (fun K hK=>?_)
   go_simp
   have ba:=zP w5 (oQ1 0 ra5 4 rc5 oa5 0 oc5 0)
   refine hK.out _ _ (fun _=>((ba.cell (p:=⟨N,1,none⟩) (zL nl q5.size)).trans ((hc5 _ _ nl).trans x1))) ?_
   clear ba
   clear hK K
   (try simp only [Act.put,zD,zE,zF])
   refine wpG_one 4 rfl (by kernel_rfl) (fun K hK=>?_)
   refine stepR_append_val kndS w5 rfl rfl _ _ rfl 0 (.slice sa k sc) k _ rfl (NS.out.s.below q5).row #[.int .i64 0,.slice ra5 4 rc5,.slice oa5 0 oc5,.int .i64 0] rfl rfl (by intro u hu;simp at hu;rcases hu with rfl | rfl | rfl | rfl <;> rfl) (by omega) (Nat.zero_le _) ?_
   intro v6 w6 o6 g6 q6 n6
   obtain ⟨a6,c6,rfl⟩:=zT o6
   have gN : w6.heap[N]? = wr.heap[N]? := (g6.block N (Nat.lt_of_lt_of_le nl q5.size) fun e => by
    have:=(NS.out.s.rb N e.symm).2
    rw [NS.out.cN] at this
    cases this).trans (q5.block N nl)
   have y1:=(zH gN).trans x1
   have yf:∀ j,w6.frozen? ⟨N,j,none⟩=false:=fun j=>(zI gN).trans (xf j)
   have NS6:Hid (NwS W1 N n L H true (k+1) (w6.setCell ⟨N,1,none⟩ (.slice a6 (k+1) c6)) (.slice a1 n c1) (.slice a6 (k+1) c6) (.slice a2 (n*n) c2) (.slice a3 n c3) (rcol c wr.heap.size 2) up (fun j=>if j=k then stV 0 ra5 4 rc5 oa5 0 oc5 0 else us j)):=NS.out.push q5 (o5.mono (by simp)) o6 g6 q6
   refine hK.out _ _ (fun _=>y1) ?_
   clear hHeld
   have hHeld:(fun w':World=>w'.cell? ⟨N,1,none⟩=some (.slice sa k sc)) w6:=y1
   clear o6 g6 q6 n6 gN
   clear hK K
   (try simp only [Act.put,zD,zE,zF])
   refine wpG_k 5 rfl hHeld ?_
   refine wpG_one 6 rfl (by kernel_rfl) (fun K hK=>?_)
   have y2:=yf 1
   go_simp
   refine hK.out _ _ (fun h=>?_) ?_
   ·exact absurd h (by decide)
   clear hK K
   (try simp only [Act.put,zD,zE,zF])
   refine wpG_done (by kernel_rfl) ?_ _
   clear x0 x1 x2 x3 xf y1 y2 yf hHeld o5 d5 q5 hc5
   go_wp2
   go_roundw
   case rel=>exact ⟨k+1,by omega,by go_num,_,_,_,_,NS6.out⟩
   case measure=>simp [intOf];omega
  ·have hkn:k=n:=by omega
   have NS':=NS.out
   rw [hkn] at NS'
   obtain ⟨sa,sc,rfl⟩:=zT NS'.s.row
   have NE:Hid (NwS W1 N n L H true n wr (.slice a1 n c1) (.slice sa n sc) (.slice a2 (n*n) c2) (.slice a3 n c3) c up us):=NS'
   clear NS NS' hkn
   have HG:Hid (∀ wx,Below wr.heap.size wr wx->Calls Tryz.prog 34 #[sysV a1 n c1 sa n sc a2 (n*n) c2 a3 n c3] wx fun e w'=>e=.returned (.bool (nwY n L H).okB)/\Below wx.heap.size wx w'):=fun wx hb=>by
    have h:=NE.out.below hb
    have hp:=h.p rfl
    exact specSysOk_any (nwX a1 n c1 (fun i => adOf (up i)) L (fun i => cpOf (up i)) H (.slice sa n sc) (.slice a2 (n * n) c2) (.slice a3 n c3) us) wx (h.g (rowS_of hp) fun i hi => by
     obtain ⟨b,cap,eu,hb',hI,-⟩:=atI (hp.own i hi) (hp.nn nzI i hi)
     exact ⟨b,by rw [eu];rfl,hb',hI⟩) (nwX_len h4 HL.out) (fun i _=>Nat.le_refl _)
   obtain ⟨x0,x1,x2,x3⟩:=NE.out.bx
   go_wp2_with fail
   refine (HG.out wr (Below.refl _ _)).mono ?_
   rintro e w6 ⟨rfl,q6⟩
   have NF:Hid (NwS W1 N n L H true n w6 (.slice a1 n c1) (.slice sa n sc) (.slice a2 (n*n) c2) (.slice a3 n c3) c up us):=NE.out.below q6
   have hbe:=NF.out.be
   have R6:Hid (BoxC w6 w.heap.size (.slice none 0 0) (.slice none 0 0) (.slice none 0 0) (.slice none 0 0)/\∀ j,w6.frozen? ⟨w.heap.size,j,none⟩=false):=⟨RB.out.1.below hbe,fun j=>((bcell hbe).2 _ j z1).trans (RB.out.2 j)⟩
   have B6:Hid (Below w.heap.size w w6):=BW.out.trans (hbe.mono BW.out.size)
   clear q6 NE HG x0 x1 x2 x3 hbe
   obtain ⟨⟨r0,r1,r2,r3⟩,rf⟩:=R6.out
   rcases zK (nwY n L H).okB with t | t
   case inr=>
    have HV:Hid (snB n L H=false):=by
     show snB n L H=false
     rw [snB,t,Bool.and_false]
    rw [t]
    clear t
    go_wp2
    exact bodyPost_ret (v:=.tuple #[sysV none 0 0 none 0 0 none 0 0 none 0 0,.bool false]) (by simp [results,Tryz.results13,go_sem,r0,r1,r2,r3]) rfl (NwR.no HV.out ((((B6.out.setCell hM _).setCell hM _).setCell hM _).setCell hM _))
   have HV:Hid (snB n L H=true):=by
    show snB n L H=true
    rw [snB,t,decide_eq_true h4]
    rfl
   rw [t]
   clear t
   obtain ⟨x0,x1,x2,x3⟩:=NF.out.bx
   go_wp2
   exact bodyPost_ret (v:=.tuple #[sysV a1 n c1 sa n sc a2 (n*n) c2 a3 n c3,.bool true]) (by simp [results,Tryz.results13,go_sem,r0,r1,r2,r3]) rfl (NwR.yes HV.out (((NF.out.own1 rfl).out4 z1 _ _ _ _).base (Nat.le_of_lt z1) (by simp)) ((((B6.out.setCell hM _).setCell hM _).setCell hM _).setCell hM _))
