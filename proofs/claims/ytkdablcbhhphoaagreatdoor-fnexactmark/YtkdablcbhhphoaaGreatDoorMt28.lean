import Derived.Test.YtkdablcbhhphoaaGreatDoorMt26
import Derived.Test.YtkdablcbhhphoaaGreatDoorMt27
namespace Go.Proofs.YtkdablcbhhphoaaGreatDoor
open Go.Proofs.Tryz
set_option maxRecDepth 100000
set_option maxHeartbeats 2000000
open Go.ChangeShapes Go.WideShapes Go.ChangeAt Go.RowKit Go.Deep
theorem BoxC.blkO {w w':World} {N:Nat} {p vr vo code:Value} (h:BoxC w N p vr vo code) (hb:w'.heap[N]? = w.heap[N]?):BoxC w' N p vr vo code:=by
 obtain ⟨h0,h1,h2,h3⟩:=h;exact ⟨(zH hb).trans h0,(zH hb).trans h1,(zH hb).trans h2,(zH hb).trans h3⟩
theorem OwnS.recolO {z:Bool} {w:World} {B:Nat} {c:Nat->Nat} {y:Sy} {vp vs vw vh:Value} {up us uw uh:Nat->Value} (o:OwnS z w B c y vp vs vw vh up us uw uh) (q:Nat):OwnS z w B (rcol c w.heap.size q) y vp vs vw vh up us uw uh:=
 ⟨o.p.mono fun _ h hl=>h.old hl,o.s.mono fun _ h hl=>h.old hl,o.t.mono fun _ h hl=>h.old hl,o.h.mono fun _ h hl=>h.old hl⟩
def TCl (B:Nat) (c:Nat->Nat) (m:Nat) (b:Nat):Prop:=B<=b/\1<=c b/\c b<=m
structure qcp (w:World) (B:Nat) (c:Nat->Nat) (q:Sh) (vc vo vk:Value) (uk:Nat->Value):Prop where
 ic:w.ownsRow 0 3 1 vc q.cn (fZ q.cH q.cn)
 io:OwnQ w 0 vo q.ol q.oH
 ik:LN false w (Cl B c 7) vk q.kn uk q.kL q.kH
 cb:∀ k,vc.ownBlock=some k->Cl B c 5 k
 ob:∀ k,vo.ownBlock=some k->Cl B c 6 k
theorem qcp.keep {w w':World} {B:Nat} {c:Nat->Nat} {q:Sh} {vc vo vk:Value} {uk:Nat->Value} (o:qcp w B c q vc vo vk uk) (hb:∀ k,B<=k->5<=c k->c k<=7->k<w.heap.size->w'.heap[k]? = w.heap[k]?):qcp w' B c q vc vo vk uk:=
 ⟨qab o.ic fun k hk=>hb k (o.cb k hk).1 (by rw [(o.cb k hk).2];decide) (by rw [(o.cb k hk).2];decide) (o.ic.lt k hk).2,qab o.io fun k hk=>hb k (o.ob k hk).1 (by rw [(o.ob k hk).2];decide) (by rw [(o.ob k hk).2];decide) (o.io.lt k hk).2,o.ik.keep fun k hk hl=>hb k hk.1 (by rw [hk.2];decide) (by rw [hk.2];decide) hl,o.cb,o.ob⟩
theorem qcp.bw {w w':World} {B:Nat} {c:Nat->Nat} {q:Sh} {vc vo vk:Value} {uk:Nat->Value} (o:qcp w B c q vc vo vk uk) (hb:Below w.heap.size w w'):qcp w' B c q vc vo vk uk:=o.keep fun k _ _ _ hl=>hb.block k hl
theorem qcp.recol {w:World} {B:Nat} {c:Nat->Nat} {q:Sh} {vc vo vk:Value} {uk:Nat->Value} (o:qcp w B c q vc vo vk uk):qcp w B (rcol c w.heap.size 0) q vc vo vk uk:=
 ⟨o.ic,o.io,o.ik.mono fun _ h hl=>h.old hl,fun k hk=>(o.cb k hk).old (o.ic.lt k hk).2,fun k hk=>(o.ob k hk).old (o.io.lt k hk).2⟩
def mkSh (q:Sh) (k:Int):Sh:={ q with cH:=mkN k,oH:=mkBo (k+q.cn),kH:=fun i=>mkN (k+q.cn+q.ol+(sumL q.kL i:Nat)) }
def shZ (q:Sh) (k:Int):Int:=k+q.cn+q.ol+(sumL q.kL q.kn:Nat)
structure Sh.Sums (q:Sh):Prop where
 c:q.cn<=1048576
 o:q.ol<=1048576
 k:q.kn<=1048576
 l:sumL q.kL q.kn<=1048576
theorem qvc (y:Sy) (B:Nat) (c:Nat->Nat) (vp vs vw vh:Value) (up us uw uh:Nat->Value) (w:World) (hS:y.Sums) (o:OwnS false w B c y vp vs vw vh up us uw uh):
  Calls prog 34 #[.agg #[vp,vs,vw,vh],.int .i64 1] w fun e w'=>e=.returned (.int .i64 (mkZ5 y 1))/\(∃ ts,OwnS false w' B (rcol c w.heap.size 0) (mkY y 1) vp vs vw vh up ts uw uh)/\qaa (TCl B (rcol c w.heap.size 0) 4) w w':=by
 have HC:Hid (∀ i,(1<=i/\i<=4)->∀ b,Cl B (rcol c w.heap.size 0) i b->TCl B (rcol c w.heap.size 0) 4 b):=fun i hi b hb=>⟨hb.1,by rw [hb.2];exact hi⟩
 obtain ⟨a1,c1,rfl⟩:=zT o.p.row;obtain ⟨a2,c2,rfl⟩:=zT o.s.row;obtain ⟨a3,c3,rfl⟩:=zT o.t.row;obtain ⟨a4,c4,rfl⟩:=zT o.h.row;have HS:Hid y.Sums:=hS;have ba:=zP w (oQ4 a1 y.pn c1 a2 y.sn c2 a3 y.wn c3 a4 y.hn c4);have o0:OwnS false w B (rcol c w.heap.size 0) y (.slice a1 y.pn c1) (.slice a2 y.sn c2) (.slice a3 y.wn c3) (.slice a4 y.hn c4) up us uw uh:=⟨o.p.mono fun _ h hl=>h.old hl,o.s.mono fun _ h hl=>h.old hl,o.t.mono fun _ h hl=>h.old hl,o.h.mono fun _ h hl=>h.old hl⟩
 have OA:Hid (OwnS false (w.alloc (oQ4 a1 y.pn c1 a2 y.sn c2 a3 y.wn c3 a4 y.hn c4)) B (rcol c w.heap.size 0) y (.slice a1 y.pn c1) (.slice a2 y.sn c2) (.slice a3 y.wn c3) (.slice a4 y.hn c4) up us uw uh):=⟨o0.p.bw ba,o0.s.bw ba,o0.t.bw ba,o0.h.bw ba⟩
 have NA:Hid (BoxC (w.alloc (oQ4 a1 y.pn c1 a2 y.sn c2 a3 y.wn c3 a4 y.hn c4)) w.heap.size (.slice a1 y.pn c1) (.slice a2 y.sn c2) (.slice a3 y.wn c3) (.slice a4 y.hn c4)):=BoxC.new w _ _ _ _ _;have BA:Hid (qaa (TCl B (rcol c w.heap.size 0) 4) w (w.alloc (oQ4 a1 y.pn c1 a2 y.sn c2 a3 y.wn c3 a4 y.hn c4))):=qaa.of_below ba
 have HM:Hid (∀ i k,Cl B (rcol c w.heap.size 0) i k->i≠0->k<w.heap.size):=fun i k h hi=>by
  rcases Nat.lt_or_ge k w.heap.size with h1 | h1
  ·exact h1
  ·exact absurd (h.2.symm.trans (qeo h1)) hi
 have hz:=qn2 hS;have HZ:Hid ((0<=mkZ2 y 1/\mkZ2 y 1<=6000000)/\(0<=mkZ3 y 1/\mkZ3 y 1<=12000000)/\(0<=mkZ4 y 1/\mkZ4 y 1<=18000000)/\(0<=mkZ5 y 1/\mkZ5 y 1<=24000000)):=hz;clear o o0 hS ba hz
 go_enter func34,ntmps34
 go_wp2_with fail
 generalize w.alloc (oQ4 a1 y.pn c1 a2 y.sn c2 a3 y.wn c3 a4 y.hn c4)=wA at *;refine (qlk _ _ y.pn up y.pL y.pH 1 wA HS.p.1 HS.p.2 (by omega) (by omega) (LI.strong OA.p)).mono ?_;rintro e w1 ⟨rfl,q1,t1⟩;have K1:Hid (∀ i,i≠1->∀ k,Cl B (rcol c w.heap.size 0) i k->k<wA.heap.size->w1.heap[k]? = wA.heap[k]?):=fun i hi k hk hl=>t1.block k hl fun h=>hi (hk.2.symm.trans h.2);have F1:Hid (LI false w1 (Cl B (rcol c w.heap.size 0) 1) (.slice a1 y.pn c1) y.pn up y.pL (mkY y 1).pH/\LS w1 (Cl B (rcol c w.heap.size 0) 2) (.slice a2 y.sn c2) y.sn us y.sS/\LT false w1 (Cl B (rcol c w.heap.size 0) 3) (.slice a3 y.wn c3) y.wn uw y.wL y.wH/\LE false w1 (Cl B (rcol c w.heap.size 0) 4) (.slice a4 y.hn c4) y.hn uh y.hL y.hH):=⟨LI.weak q1,OA.s.keep (K1.out 2 (by decide)),OA.t.keep (K1.out 3 (by decide)),OA.h.keep (K1.out 4 (by decide))⟩
 have hm1:w1.heap[w.heap.size]? = wA.heap[w.heap.size]?:=t1.block _ (zJ _ _ NA.1) fun h=>Nat.lt_irrefl _ (HM.out 1 _ h (by decide));have G1:Hid (qaa (TCl B (rcol c w.heap.size 0) 4) w w1/\BoxC w1 w.heap.size (.slice a1 y.pn c1) (.slice a2 y.sn c2) (.slice a3 y.wn c3) (.slice a4 y.hn c4)):=⟨BA.trans (t1.mono (HC.out 1 (by decide))),⟨(zH hm1).trans NA.1,(zH hm1).trans NA.2.1,(zH hm1).trans NA.2.2.1,(zH hm1).trans NA.2.2.2⟩⟩
 clear hm1;rw [show (1:Int)+5*(sumL y.pL y.pn:Nat)=mkZ2 y 1 from rfl];clear t1 q1 OA NA BA K1;obtain ⟨-,p0,p1,p2,p3⟩:=G1.out;go_wp2_with fail
 clear p0 p1 p2 p3;refine (qjs _ _ y.sn us y.sS (mkZ2 y 1) w1 HS.s.1 HS.s.2 HZ.1.1 (by have:=HZ.out;omega) F1.2.1).mono ?_;rintro e w2 ⟨rfl,⟨ts,q2⟩,t2⟩;have K2:Hid (∀ i,i≠2->∀ k,Cl B (rcol c w.heap.size 0) i k->k<w1.heap.size->w2.heap[k]? = w1.heap[k]?):=fun i hi k hk hl=>t2.block k hl fun h=>hi (hk.2.symm.trans h.2);have F2:Hid (LI false w2 (Cl B (rcol c w.heap.size 0) 1) (.slice a1 y.pn c1) y.pn up y.pL (mkY y 1).pH/\LS w2 (Cl B (rcol c w.heap.size 0) 2) (.slice a2 y.sn c2) y.sn ts (mkY y 1).sS/\LT false w2 (Cl B (rcol c w.heap.size 0) 3) (.slice a3 y.wn c3) y.wn uw y.wL y.wH/\LE false w2 (Cl B (rcol c w.heap.size 0) 4) (.slice a4 y.hn c4) y.hn uh y.hL y.hH):=⟨F1.1.keep (K2.out 1 (by decide)),q2,F1.2.2.1.keep (K2.out 3 (by decide)),F1.2.2.2.keep (K2.out 4 (by decide))⟩
 have hm2:w2.heap[w.heap.size]? = w1.heap[w.heap.size]?:=t2.block _ (zJ _ _ G1.2.1) fun h=>Nat.lt_irrefl _ (HM.out 2 _ h (by decide));have G2:Hid (qaa (TCl B (rcol c w.heap.size 0) 4) w w2/\BoxC w2 w.heap.size (.slice a1 y.pn c1) (.slice a2 y.sn c2) (.slice a3 y.wn c3) (.slice a4 y.hn c4)):=⟨G1.1.trans (t2.mono (HC.out 2 (by decide))),⟨(zH hm2).trans G1.2.1,(zH hm2).trans G1.2.2.1,(zH hm2).trans G1.2.2.2.1,(zH hm2).trans G1.2.2.2.2⟩⟩
 clear hm2;rw [show mkZ2 y 1+(2*y.sn+sumL (lenS y.sS) y.sn:Nat)=mkZ3 y 1 from rfl];clear t2 q2 F1 G1 K2;obtain ⟨-,p0,p1,p2,p3⟩:=G2.out;go_wp2_with fail
 clear p0 p1 p2 p3;refine (qnz _ _ y.wn uw y.wL y.wH (mkZ3 y 1) w2 HS.w.1 HS.w.2 HZ.2.1.1 (by have:=HZ.out;omega) F2.2.2.1).mono ?_;rintro e w3 ⟨rfl,q3,t3⟩;have K3:Hid (∀ i,i≠3->∀ k,Cl B (rcol c w.heap.size 0) i k->k<w2.heap.size->w3.heap[k]? = w2.heap[k]?):=fun i hi k hk hl=>t3.block k hl fun h=>hi (hk.2.symm.trans h.2);have F3:Hid (LI false w3 (Cl B (rcol c w.heap.size 0) 1) (.slice a1 y.pn c1) y.pn up y.pL (mkY y 1).pH/\LS w3 (Cl B (rcol c w.heap.size 0) 2) (.slice a2 y.sn c2) y.sn ts (mkY y 1).sS/\LT false w3 (Cl B (rcol c w.heap.size 0) 3) (.slice a3 y.wn c3) y.wn uw y.wL (mkY y 1).wH/\LE false w3 (Cl B (rcol c w.heap.size 0) 4) (.slice a4 y.hn c4) y.hn uh y.hL y.hH):=⟨F2.1.keep (K3.out 1 (by decide)),F2.2.1.keep (K3.out 2 (by decide)),q3,F2.2.2.2.keep (K3.out 4 (by decide))⟩
 have hm3:w3.heap[w.heap.size]? = w2.heap[w.heap.size]?:=t3.block _ (zJ _ _ G2.2.1) fun h=>Nat.lt_irrefl _ (HM.out 3 _ h (by decide));have G3:Hid (qaa (TCl B (rcol c w.heap.size 0) 4) w w3/\BoxC w3 w.heap.size (.slice a1 y.pn c1) (.slice a2 y.sn c2) (.slice a3 y.wn c3) (.slice a4 y.hn c4)):=⟨G2.1.trans (t3.mono (HC.out 3 (by decide))),⟨(zH hm3).trans G2.2.1,(zH hm3).trans G2.2.2.1,(zH hm3).trans G2.2.2.2.1,(zH hm3).trans G2.2.2.2.2⟩⟩
 clear hm3;rw [show mkZ3 y 1+2*(sumL y.wL y.wn:Nat)=mkZ4 y 1 from rfl];clear t3 q3 F2 G2 K3;obtain ⟨-,p0,p1,p2,p3⟩:=G3.out;go_wp2_with fail
 clear p0 p1 p2 p3;refine (qli _ _ y.hn uh y.hL y.hH (mkZ4 y 1) w3 HS.h.1 HS.h.2 HZ.2.2.1.1 (by have:=HZ.out;omega) F3.2.2.2).mono ?_;rintro e w4 ⟨rfl,q4,t4⟩;have K4:Hid (∀ i,i≠4->∀ k,Cl B (rcol c w.heap.size 0) i k->k<w3.heap.size->w4.heap[k]? = w3.heap[k]?):=fun i hi k hk hl=>t4.block k hl fun h=>hi (hk.2.symm.trans h.2);have F4:Hid (∃ ts,OwnS false w4 B (rcol c w.heap.size 0) (mkY y 1) (.slice a1 y.pn c1) (.slice a2 y.sn c2) (.slice a3 y.wn c3) (.slice a4 y.hn c4) up ts uw uh):=⟨ts,⟨F3.1.keep (K4.out 1 (by decide)),F3.2.1.keep (K4.out 2 (by decide)),F3.2.2.1.keep (K4.out 3 (by decide)),q4⟩⟩
 have hm4:w4.heap[w.heap.size]? = w3.heap[w.heap.size]?:=t4.block _ (zJ _ _ G3.2.1) fun h=>Nat.lt_irrefl _ (HM.out 4 _ h (by decide));have G4:Hid (qaa (TCl B (rcol c w.heap.size 0) 4) w w4/\BoxC w4 w.heap.size (.slice a1 y.pn c1) (.slice a2 y.sn c2) (.slice a3 y.wn c3) (.slice a4 y.hn c4)):=⟨G3.1.trans (t4.mono (HC.out 4 (by decide))),⟨(zH hm4).trans G3.2.1,(zH hm4).trans G3.2.2.1,(zH hm4).trans G3.2.2.2.1,(zH hm4).trans G3.2.2.2.2⟩⟩
 clear hm4;rw [show mkZ4 y 1+3*(sumL y.hL y.hn:Nat)=mkZ5 y 1 from rfl];clear t4 q4 F3 G3 K4;go_wp2;go_ret;exact ⟨rfl,F4.out,G4.1⟩
theorem qwk {q:Sh} {B1 B2:Nat} {e1 e2:Nat->Nat} {vc vo vk wc wo wk:Value} {uk xk:Nat->Value} {w:World} (hs:q.Sums) (o1:qcp w B1 e1 q vc vo vk uk) (o2:qcp w B2 e2 q wc wo wk xk):
  Calls prog 33 #[.agg #[.bool q.on,vc,vo,vk],.agg #[.bool q.on,wc,wo,wk]] w (rB w (.bool true)):=by
 obtain ⟨a1,m1,rfl⟩:=zT o1.ic;obtain ⟨a2,m2,rfl⟩:=zT o1.io;obtain ⟨a3,m3,rfl⟩:=zT o1.ik.row;obtain ⟨b1,n1,rfl⟩:=zT o2.ic;obtain ⟨b2,n2,rfl⟩:=zT o2.io;obtain ⟨b3,n3,rfl⟩:=zT o2.ik.row;have HS:Hid q.Sums:=hs;have P:Hid (qcp w B1 e1 q (.slice a1 q.cn m1) (.slice a2 q.ol m2) (.slice a3 q.kn m3) uk):=o1;have Q:Hid (qcp w B2 e2 q (.slice b1 q.cn n1) (.slice b2 q.ol n2) (.slice b3 q.kn n3) xk):=o2;have hon:(q.on != q.on)=false:=by simp
 clear o1 o2 hs
 go_enter func33,ntmps33
 have X0:Hid (B44 w ((w.alloc (oQ6 q.on a1 q.cn m1 a2 q.ol m2 a3 q.kn m3)).alloc (oQ6 q.on b1 q.cn n1 b2 q.ol n2 b3 q.kn n3)) (.bool q.on) (.slice a1 q.cn m1) (.slice a2 q.ol m2) (.slice a3 q.kn m3) (.bool q.on) (.slice b1 q.cn n1) (.slice b2 q.ol n2) (.slice b3 q.kn n3)):=B44.new _ _ _ _ _ _ _ _ _ _;obtain ⟨⟨p0,p1,p2,p3⟩,⟨q0,q1,q2,q3⟩,-,le⟩:=X0.out;go_wp2_with fail
 clear p0 p1 p2 p3 q0 q1 q2 q3 le;generalize (w.alloc (oQ6 q.on a1 q.cn m1 a2 q.ol m2 a3 q.kn m3)).alloc (oQ6 q.on b1 q.cn n1 b2 q.ol n2 b3 q.kn n3)=wA at *;refine (qrm HS.c (P.bw X0.be).ic (Q.bw X0.be).ic).mono ?_;rintro e w1 ⟨rfl,b1'⟩;have X1:Hid (B44 w w1 (.bool q.on) (.slice a1 q.cn m1) (.slice a2 q.ol m2) (.slice a3 q.kn m3) (.bool q.on) (.slice b1 q.cn n1) (.slice b2 q.ol n2) (.slice b3 q.kn n3)):=X0.bw b1';clear b1' X0;obtain ⟨⟨p0,p1,p2,p3⟩,⟨q0,q1,q2,q3⟩,-,le⟩:=X1.out;go_wp2_with fail
 clear p0 p1 p2 p3 q0 q1 q2 q3 le;refine (qul HS.o (P.bw X1.be).io (Q.bw X1.be).io).mono ?_;rintro e w2 ⟨rfl,b2'⟩;have X2:Hid (B44 w w2 (.bool q.on) (.slice a1 q.cn m1) (.slice a2 q.ol m2) (.slice a3 q.kn m3) (.bool q.on) (.slice b1 q.cn n1) (.slice b2 q.ol n2) (.slice b3 q.kn n3)):=X1.bw b2';clear b2' X1;obtain ⟨⟨p0,p1,p2,p3⟩,⟨q0,q1,q2,q3⟩,-,le⟩:=X2.out;go_wp2_with fail
 clear p0 p1 p2 p3 q0 q1 q2 q3 le;refine (qum _ _ _ _ q.kn uk xk q.kL q.kH w2 HS.k (qc7 HS.l) (P.bw X2.be).ik (Q.bw X2.be).ik).mono ?_;rintro e w3 ⟨rfl,b3'⟩;have BE:Hid (Below w.heap.size w w3):=(X2.bw b3').be;clear X2 b3';go_wp2;go_ret;exact ⟨rfl,BE.out⟩
theorem qtl {q:Sh} {B:Nat} {c:Nat->Nat} {vc vo vk:Value} {uk:Nat->Value} {w:World} (k:Int) (hs:q.Sums) (k0:0<=k) (k1:k<=30000000) (o:qcp w B c q vc vo vk uk):
  Calls prog 35 #[.agg #[.bool q.on,vc,vo,vk],.int .i64 k] w fun e w'=>e=.returned (.int .i64 (shZ q k))/\qcp w' B (rcol c w.heap.size 0) (mkSh q k) vc vo vk uk/\qaa (fun b=>B<=b/\5<=rcol c w.heap.size 0 b) w w':=by
 obtain ⟨a1,m1,rfl⟩:=zT o.ic;obtain ⟨a2,m2,rfl⟩:=zT o.io;obtain ⟨a3,m3,rfl⟩:=zT o.ik.row;have HS:Hid q.Sums:=hs;obtain ⟨C,hC⟩:∃ C,rcol c w.heap.size 0=C:=⟨_,rfl⟩
 have o':=o.recol;have hm0:rcol c w.heap.size 0 w.heap.size=0:=qeo (nA _);rw [hC] at o' hm0 ⊢;have OA:Hid (qcp (w.alloc (oQ6 q.on a1 q.cn m1 a2 q.ol m2 a3 q.kn m3)) B C q (.slice a1 q.cn m1) (.slice a2 q.ol m2) (.slice a3 q.kn m3) uk):=o'.bw (qad _ _);have HM:Hid (C w.heap.size=0):=hm0;have X0:Hid (qaa (fun b=>B<=b/\5<=C b) w (w.alloc (oQ6 q.on a1 q.cn m1 a2 q.ol m2 a3 q.kn m3))/\BoxC (w.alloc (oQ6 q.on a1 q.cn m1 a2 q.ol m2 a3 q.kn m3)) w.heap.size (.bool q.on) (.slice a1 q.cn m1) (.slice a2 q.ol m2) (.slice a3 q.kn m3)):=⟨qaa.of_below (qad _ _),BoxC.new w _ _ _ _ _⟩
 clear o hs o' hm0 hC
 go_enter func35,ntmps35
 go_wp2_with fail
 generalize w.alloc (oQ6 q.on a1 q.cn m1 a2 q.ol m2 a3 q.kn m3)=wA at *;refine (qj5 _ q.cn 0 q.cH k wA HS.c k0 (by omega) OA.ic).mono ?_;rintro e w1 ⟨rfl,g1,o1⟩;have t1:qaa (fun b=>C b=5/\B<=b) wA w1:=qaa.of_grown g1 fun b e=>⟨(OA.cb b e).2,(OA.cb b e).1⟩
 have hm1:w1.heap[w.heap.size]? = wA.heap[w.heap.size]?:=t1.block _ (zJ _ _ X0.2.1) fun h=>by have:=HM.out;omega
 have X1:Hid (qaa (fun b=>B<=b/\5<=C b) w w1/\BoxC w1 w.heap.size (.bool q.on) (.slice a1 q.cn m1) (.slice a2 q.ol m2) (.slice a3 q.kn m3)):=⟨X0.1.trans (t1.mono fun b hb=>⟨hb.2,by omega⟩),X0.2.blkO hm1⟩
 have O1:Hid (w1.ownsRow 0 3 1 (.slice a1 q.cn m1) q.cn (fZ (mkN k) q.cn)/\OwnQ w1 0 (.slice a2 q.ol m2) q.ol q.oH/\LN false w1 (Cl B C 7) (.slice a3 q.kn m3) q.kn uk q.kL q.kH/\(∀ k,(Value.slice a1 q.cn m1).ownBlock=some k->Cl B C 5 k)/\∀ k,(Value.slice a2 q.ol m2).ownBlock=some k->Cl B C 6 k):=⟨o1,qab OA.io fun k hk=>t1.block k (OA.io.lt k hk).2 (fun h=>by have:=(OA.ob k hk).2;omega),OA.ik.keep fun k hk hl=>t1.block k hl (fun h=>by have:=hk.2;omega),OA.cb,OA.ob⟩
 clear t1 g1 o1 hm1 X0 OA;have hK1:0<=k+(q.cn:Int)/\k+(q.cn:Int)<=40000000:=by have:=HS.c;omega
 have HK1:Hid (0<=k+(q.cn:Int)/\k+(q.cn:Int)<=40000000):=hK1;clear hK1;obtain ⟨-,p0,p1,p2,p3⟩:=X1.out;go_wp2_with fail
 clear p0 p1 p2 p3;refine (qqh _ q.ol 0 q.oH (k+q.cn) w1 HS.o HK1.1 (by have:=HK1.out;omega) O1.2.1).mono ?_;rintro e w2 ⟨rfl,g2,o2⟩;have t2:qaa (fun b=>C b=6/\B<=b) w1 w2:=qaa.of_grown g2 fun b e=>⟨(O1.2.2.2.2 b e).2,(O1.2.2.2.2 b e).1⟩
 have hm2:w2.heap[w.heap.size]? = w1.heap[w.heap.size]?:=t2.block _ (zJ _ _ X1.2.1) fun h=>by have:=HM.out;omega
 have X2:Hid (qaa (fun b=>B<=b/\5<=C b) w w2/\BoxC w2 w.heap.size (.bool q.on) (.slice a1 q.cn m1) (.slice a2 q.ol m2) (.slice a3 q.kn m3)):=⟨X1.1.trans (t2.mono fun b hb=>⟨hb.2,by omega⟩),X1.2.blkO hm2⟩
 have O2:Hid (w2.ownsRow 0 3 1 (.slice a1 q.cn m1) q.cn (fZ (mkN k) q.cn)/\OwnQ w2 0 (.slice a2 q.ol m2) q.ol (mkBo (k+q.cn))/\LN false w2 (Cl B C 7) (.slice a3 q.kn m3) q.kn uk q.kL q.kH/\(∀ k,(Value.slice a1 q.cn m1).ownBlock=some k->Cl B C 5 k)/\∀ k,(Value.slice a2 q.ol m2).ownBlock=some k->Cl B C 6 k):=⟨qab O1.1 fun k hk=>t2.block k (O1.1.lt k hk).2 (fun h=>by have:=(O1.2.2.2.1 k hk).2;omega),o2,O1.2.2.1.keep fun k hk hl=>t2.block k hl (fun h=>by have:=hk.2;omega),O1.2.2.2⟩
 clear t2 g2 o2 hm2 X1 O1;have hK2:0<=k+(q.cn:Int)+(q.ol:Int)/\k+(q.cn:Int)+(q.ol:Int)<=45000000:=by have:=HS.o;have:=HK1.out;omega
 have HK2:Hid (0<=k+(q.cn:Int)+(q.ol:Int)/\k+(q.cn:Int)+(q.ol:Int)<=45000000):=hK2;clear hK2 HK1;obtain ⟨-,p0,p1,p2,p3⟩:=X2.out;go_wp2_with fail
 clear p0 p1 p2 p3;refine (qqi _ _ q.kn uk q.kL q.kH (k+q.cn+q.ol) w2 HS.k HS.l HK2.1 (by have:=HK2.out;omega) O2.2.2.1).mono ?_;rintro e w3 ⟨rfl,o3,t3⟩;have X3:Hid (qaa (fun b=>B<=b/\5<=C b) w w3):=X2.1.trans (t3.mono fun b hb=>⟨hb.1,by have:=hb.2;omega⟩);have O3:Hid (qcp w3 B C (mkSh q k) (.slice a1 q.cn m1) (.slice a2 q.ol m2) (.slice a3 q.kn m3) uk):=⟨qab O2.1 fun k hk=>t3.block k (O2.1.lt k hk).2 (fun h=>by have:=(O2.2.2.2.1 k hk).2;have:=h.2;omega),qab O2.2.1 fun k hk=>t3.block k (O2.2.1.lt k hk).2 (fun h=>by have:=(O2.2.2.2.2 k hk).2;have:=h.2;omega),o3,O2.2.2.2.1,O2.2.2.2.2⟩
 rw [show k+(q.cn:Int)+(q.ol:Int)+(sumL q.kL q.kn:Nat)=shZ q k from rfl];clear t3 o3 X2 O2 HK2;go_wp2;go_ret;exact ⟨rfl,O3.out,X3.out⟩
theorem qs7 {q:Sh} {B:Nat} {c:Nat->Nat} {vc vo vk:Value} {uk:Nat->Value} {w:World} (k:Int) (hs:q.Sums) (k0:0<=k) (k1:k<=30000000) (o:qcp w B c (mkSh q k) vc vo vk uk):
  Calls prog 37 #[.agg #[.bool q.on,vc,vo,vk],.int .i64 k] w (rB w (.int .i64 (shZ q k))):=by
 obtain ⟨a1,m1,e1⟩:=zT o.ic;obtain ⟨a2,m2,e2⟩:=zT o.io;obtain ⟨a3,m3,e3⟩:=zT o.ik.row;have e1:vc=.slice a1 q.cn m1:=e1;have e2:vo=.slice a2 q.ol m2:=e2;have e3:vk=.slice a3 q.kn m3:=e3;subst e1 e2 e3;have HS:Hid q.Sums:=hs;have OC:Hid (w.ownsRow 0 3 1 (.slice a1 q.cn m1) q.cn (fZ (mkN k) q.cn)):=o.ic;have OO:Hid (OwnQ w 0 (.slice a2 q.ol m2) q.ol (mkBo (k+q.cn))):=o.io;have OK:Hid (LN false w (Cl B c 7) (.slice a3 q.kn m3) q.kn uk q.kL (fun i=>mkN (k+q.cn+q.ol+(sumL q.kL i:Nat)))):=o.ik;have X0:Hid (Below w.heap.size w (w.alloc (oQ6 q.on a1 q.cn m1 a2 q.ol m2 a3 q.kn m3))/\BoxC (w.alloc (oQ6 q.on a1 q.cn m1 a2 q.ol m2 a3 q.kn m3)) w.heap.size (.bool q.on) (.slice a1 q.cn m1) (.slice a2 q.ol m2) (.slice a3 q.kn m3)):=⟨qad _ _,BoxC.new w _ _ _ _ _⟩
 have hK1:(0<=k+(q.cn:Int)/\k+(q.cn:Int)<=40000000)/\(0<=k+(q.cn:Int)+(q.ol:Int)/\k+(q.cn:Int)+(q.ol:Int)<=45000000)/\0<=shZ q k:=by
  have:=hs.c;have:=hs.o;unfold shZ;omega
 have HK1:Hid ((0<=k+(q.cn:Int)/\k+(q.cn:Int)<=40000000)/\(0<=k+(q.cn:Int)+(q.ol:Int)/\k+(q.cn:Int)+(q.ol:Int)<=45000000)/\0<=shZ q k):=hK1;have hz1:¬ k+(q.cn:Int)<0:=by omega
 have hz2:¬ k+(q.cn:Int)+(q.ol:Int)<0:=by omega
 have hz3:¬ shZ q k<0:=by omega
 clear hK1 o hs
 go_enter func37,ntmps37
 go_wp2_with fail
 generalize w.alloc (oQ6 q.on a1 q.cn m1 a2 q.ol m2 a3 q.kn m3)=wA at *;refine (qj2 _ q.cn 0 k wA HS.c k0 (by omega) (qab OC.out fun b hb=>X0.1.block b (OC.lt b hb).2)).mono ?_;rintro e w1 ⟨rfl,b1⟩;have X1:Hid (Below w.heap.size w w1/\BoxC w1 w.heap.size (.bool q.on) (.slice a1 q.cn m1) (.slice a2 q.ol m2) (.slice a3 q.kn m3)):=⟨X0.1.trans (b1.mono X0.1.size),X0.2.bw b1⟩
 clear b1 X0;obtain ⟨-,p0,p1,p2,p3⟩:=X1.out;go_wp2_with fail
 clear p0 p1 p2 p3;refine (qp5 _ q.ol 0 (k+q.cn) w1 HS.o HK1.1.1 (by have:=HK1.1;omega) (qab OO.out fun b hb=>X1.1.block b (OO.lt b hb).2)).mono ?_;rintro e w2 ⟨rfl,b2⟩;have X2:Hid (Below w.heap.size w w2/\BoxC w2 w.heap.size (.bool q.on) (.slice a1 q.cn m1) (.slice a2 q.ol m2) (.slice a3 q.kn m3)):=⟨X1.1.trans (b2.mono X1.1.size),X1.2.bw b2⟩
 clear b2 X1;obtain ⟨-,p0,p1,p2,p3⟩:=X2.out;go_wp2_with fail
 clear p0 p1 p2 p3;refine (qp6 _ _ q.kn uk q.kL (k+q.cn+q.ol) w2 HS.k HS.l HK1.2.1.1 (by have:=HK1.2.1;omega) (OK.bw X2.1)).mono ?_;rintro e w3 ⟨rfl,b3⟩;have X3:Hid (Below w.heap.size w w3):=X2.1.trans (b3.mono X2.1.size);rw [show k+(q.cn:Int)+(q.ol:Int)+(sumL q.kL q.kn:Nat)=shZ q k from rfl];clear b3 X2;go_wp2;go_ret;exact ⟨rfl,X3.out⟩
theorem qtz (c:Nat->Nat) {n m:Nat} (h:n<=m):rcol (rcol c n 0) m 0=rcol c n 0:=funext fun b=>by
 unfold rcol;by_cases h1:b<m
 ·rw [nC h1]
 ·rw [nB h1,nB (by omega)]
def qba (w:World) (B:Nat) (y:Sy) (q:Sh) (v:Value):Prop:=∃ c vp vs vw vh up us uw uh vc vo vk uk,v=.agg #[vp,vs,vw,vh,.bool q.on,vc,vo,vk]/\OwnS false w B c y vp vs vw vh up us uw uh/\qcp w B c q vc vo vk uk
theorem qba.bw {w w':World} {B:Nat} {y:Sy} {q:Sh} {v:Value} (o:qba w B y q v) (hb:Below w.heap.size w w'):qba w' B y q v:=by
 obtain ⟨c,vp,vs,vw,vh,up,us,uw,uh,vc,vo,vk,uk,e,o,s⟩:=o;exact ⟨c,vp,vs,vw,vh,up,us,uw,uh,vc,vo,vk,uk,e,o.bw hb,s.bw hb⟩
def qbm (w:World) (B T:Nat) (y:Sy) (q:Sh) (vp vs vw vh vc vo vk:Value):Prop:=∃ c up us uw uh uk,OwnS false w B c y vp vs vw vh up us uw uh/\qcp w B c q vc vo vk uk/\∀ b,T<=b->c b=0
theorem qbm.lv {w:World} {B T:Nat} {y:Sy} {q:Sh} {vp vs vw vh vc vo vk:Value} (o:qbm w B T y q vp vs vw vh vc vo vk):qba w B y q (.agg #[vp,vs,vw,vh,.bool q.on,vc,vo,vk]):=by
 obtain ⟨c,up,us,uw,uh,uk,o,s,-⟩:=o;exact ⟨c,vp,vs,vw,vh,up,us,uw,uh,vc,vo,vk,uk,rfl,o,s⟩
theorem qbm.of {w:World} {B:Nat} {y:Sy} {q:Sh} {v:Value} (o:qba w B y q v):∃ a1 m1 a2 m2 a3 m3 a4 m4 a5 m5 a6 m6 a7 m7,v=.agg #[.slice a1 y.pn m1,.slice a2 y.sn m2,.slice a3 y.wn m3,.slice a4 y.hn m4,.bool q.on,.slice a5 q.cn m5,.slice a6 q.ol m6,.slice a7 q.kn m7]/\qbm w B w.heap.size y q (.slice a1 y.pn m1) (.slice a2 y.sn m2) (.slice a3 y.wn m3) (.slice a4 y.hn m4) (.slice a5 q.cn m5) (.slice a6 q.ol m6) (.slice a7 q.kn m7):=by
 obtain ⟨c,vp,vs,vw,vh,up,us,uw,uh,vc,vo,vk,uk,rfl,o,s⟩:=o;obtain ⟨a1,m1,rfl⟩:=zT o.p.row;obtain ⟨a2,m2,rfl⟩:=zT o.s.row;obtain ⟨a3,m3,rfl⟩:=zT o.t.row;obtain ⟨a4,m4,rfl⟩:=zT o.h.row;obtain ⟨a5,m5,rfl⟩:=zT s.ic;obtain ⟨a6,m6,rfl⟩:=zT s.io;obtain ⟨a7,m7,rfl⟩:=zT s.ik.row;exact ⟨a1,m1,a2,m2,a3,m3,a4,m4,a5,m5,a6,m6,a7,m7,rfl,_,up,us,uw,uh,uk,o.recolO 0,s.recol,fun b hb=>qeo hb⟩
theorem qbm.bw {w w':World} {B T:Nat} {y:Sy} {q:Sh} {vp vs vw vh vc vo vk:Value} (o:qbm w B T y q vp vs vw vh vc vo vk) (hb:Below w.heap.size w w'):qbm w' B T y q vp vs vw vh vc vo vk:=by
 obtain ⟨c,up,us,uw,uh,uk,o,s,h⟩:=o;exact ⟨c,up,us,uw,uh,uk,o.bw hb,s.bw hb,h⟩
theorem qbm.touch {w w':World} {B T:Nat} {y:Sy} {q:Sh} {vp vs vw vh vc vo vk:Value} {P:Nat->Prop} (o:qbm w B T y q vp vs vw vh vc vo vk) (ht:qaa P w w') (hp:∀ b,P b->T<=b\/b<B):qbm w' B T y q vp vs vw vh vc vo vk:=by
 obtain ⟨c,up,us,uw,uh,uk,o,s,h⟩:=o
 have hk:∀ k,B<=k->1<=c k->k<w.heap.size->w'.heap[k]? = w.heap[k]?:=fun k hB h1 hl=>ht.block k hl fun e=>by
  rcases hp k e with h2 | h2
  ·have:=h k h2
   omega
  ·omega
 have hi:∀ i,1<=i->∀ k,Cl B c i k->k<w.heap.size->w'.heap[k]? = w.heap[k]?:=fun i hi k hk' hl=>hk k hk'.1 (by rw [hk'.2];exact hi) hl;exact ⟨c,up,us,uw,uh,uk,⟨o.p.keep (hi 1 (by decide)),o.s.keep (hi 2 (by decide)),o.t.keep (hi 3 (by decide)),o.h.keep (hi 4 (by decide))⟩,s.keep fun k h1 h2 _ hl=>hk k h1 (by omega) hl,h⟩
theorem qkv (y:Sy) (q:Sh) (B1 B2:Nat) (v1 v2:Value) (w:World) (hl:y.Len) (hs:q.Sums) (o1:qba w B1 y q v1) (o2:qba w B2 y q v2):
  Calls prog 10 #[v1,v2] w (rB w (.bool true)):=by
 obtain ⟨a1,m1,a2,m2,a3,m3,a4,m4,a5,m5,a6,m6,a7,m7,rfl,z1⟩:=qbm.of o1;obtain ⟨b1,n1,b2,n2,b3,n3,b4,n4,b5,n5,b6,n6,b7,n7,rfl,z2⟩:=qbm.of o2;have HL:Hid (y.Len/\q.Sums):=⟨hl,hs⟩
 obtain ⟨c,up,us,uw,uh,uk,s1,h1,-⟩:=z1;obtain ⟨d,xp,xs,xw,xh,xk,s2,h2,-⟩:=z2;have S1:Hid (qbj false w B1 y (.agg #[.slice a1 y.pn m1,.slice a2 y.sn m2,.slice a3 y.wn m3,.slice a4 y.hn m4])/\qcp w B1 c q (.slice a5 q.cn m5) (.slice a6 q.ol m6) (.slice a7 q.kn m7) uk):=⟨⟨_,_,_,_,_,_,_,_,_,rfl,s1⟩,h1⟩
 have S2:Hid (qbj false w B2 y (.agg #[.slice b1 y.pn n1,.slice b2 y.sn n2,.slice b3 y.wn n3,.slice b4 y.hn n4])/\qcp w B2 d q (.slice b5 q.cn n5) (.slice b6 q.ol n6) (.slice b7 q.kn n7) xk):=⟨⟨_,_,_,_,_,_,_,_,_,rfl,s2⟩,h2⟩
 clear s1 s2 h1 h2 o1 o2 hl hs
 go_enter func10,ntmps10
 have X0:Hid (B88 w ((w.alloc (oQ7 a1 y.pn m1 a2 y.sn m2 a3 y.wn m3 a4 y.hn m4 q.on a5 q.cn m5 a6 q.ol m6 a7 q.kn m7)).alloc (oQ7 b1 y.pn n1 b2 y.sn n2 b3 y.wn n3 b4 y.hn n4 q.on b5 q.cn n5 b6 q.ol n6 b7 q.kn n7)) (v8 (.slice a1 y.pn m1) (.slice a2 y.sn m2) (.slice a3 y.wn m3) (.slice a4 y.hn m4) (.bool q.on) (.slice a5 q.cn m5) (.slice a6 q.ol m6) (.slice a7 q.kn m7)) (v8 (.slice b1 y.pn n1) (.slice b2 y.sn n2) (.slice b3 y.wn n3) (.slice b4 y.hn n4) (.bool q.on) (.slice b5 q.cn n5) (.slice b6 q.ol n6) (.slice b7 q.kn n7))):=B88.new _ _ _ _ _ _ _ _ _ _ _ _ _ _ _ _ _ _;have p0:=X0.p 0 (by omega);have p1:=X0.p 1 (by omega);have p2:=X0.p 2 (by omega);have p3:=X0.p 3 (by omega);have q0:=X0.q 0 (by omega);have q1:=X0.q 1 (by omega);have q2:=X0.q 2 (by omega);have q3:=X0.q 3 (by omega);simp only [v8] at p0 p1 p2 p3 q0 q1 q2 q3;go_wp2_with fail
 clear p0 p1 p2 p3 q0 q1 q2 q3;generalize (w.alloc (oQ7 a1 y.pn m1 a2 y.sn m2 a3 y.wn m3 a4 y.hn m4 q.on a5 q.cn m5 a6 q.ol m6 a7 q.kn m7)).alloc (oQ7 b1 y.pn n1 b2 y.sn n2 b3 y.wn n3 b4 y.hn n4 q.on b5 q.cn n5 b6 q.ol n6 b7 q.kn n7)=wA at *;refine (qyc y B1 B2 _ _ wA HL.1 (S1.1.bw X0.be) (S2.1.bw X0.be)).mono ?_;rintro e w1 ⟨rfl,c1⟩;have X1:Hid (B88 w w1 (v8 (.slice a1 y.pn m1) (.slice a2 y.sn m2) (.slice a3 y.wn m3) (.slice a4 y.hn m4) (.bool q.on) (.slice a5 q.cn m5) (.slice a6 q.ol m6) (.slice a7 q.kn m7)) (v8 (.slice b1 y.pn n1) (.slice b2 y.sn n2) (.slice b3 y.wn n3) (.slice b4 y.hn n4) (.bool q.on) (.slice b5 q.cn n5) (.slice b6 q.ol n6) (.slice b7 q.kn n7))):=X0.bw c1;clear c1 X0;have p4:=X1.p 4 (by omega);have p5:=X1.p 5 (by omega);have p6:=X1.p 6 (by omega);have p7:=X1.p 7 (by omega);have q4:=X1.q 4 (by omega);have q5:=X1.q 5 (by omega);have q6:=X1.q 6 (by omega);have q7:=X1.q 7 (by omega);simp only [v8] at p4 p5 p6 p7 q4 q5 q6 q7;go_wp2_with fail
 clear p4 p5 p6 p7 q4 q5 q6 q7;refine (qwk HL.2 (S1.2.bw X1.be) (S2.2.bw X1.be)).mono ?_;rintro e w2 ⟨rfl,c2⟩;have BE:Hid (Below w.heap.size w w2):=X1.be.trans (c2.mono X1.be.size);clear c2 X1;go_wp2;go_ret;exact ⟨rfl,BE.out⟩
theorem qtk (y:Sy) (q:Sh) (B T:Nat) (vp vs vw vh vc vo vk:Value) (w:World) (hS:y.Sums) (hs:q.Sums) (o:qbm w B T y q vp vs vw vh vc vo vk):
  Calls prog 11 #[.agg #[vp,vs,vw,vh,.bool q.on,vc,vo,vk],.int .i64 1] w fun e w'=>e=.returned (.int .i64 (shZ q (mkZ5 y 1)))/\qbm w' B T (mkY y 1) (mkSh q (mkZ5 y 1)) vp vs vw vh vc vo vk/\qaa (fun b=>B<=b/\b<T) w w':=by
 obtain ⟨c,up,us,uw,uh,uk,o,s,hT⟩:=o;obtain ⟨a1,m1,rfl⟩:=zT o.p.row;obtain ⟨a2,m2,rfl⟩:=zT o.s.row;obtain ⟨a3,m3,rfl⟩:=zT o.t.row;obtain ⟨a4,m4,rfl⟩:=zT o.h.row;obtain ⟨a5,m5,rfl⟩:=zT s.ic;obtain ⟨a6,m6,rfl⟩:=zT s.io;obtain ⟨a7,m7,rfl⟩:=zT s.ik.row;have ba:=qad w (oQ7 a1 y.pn m1 a2 y.sn m2 a3 y.wn m3 a4 y.hn m4 q.on a5 q.cn m5 a6 q.ol m6 a7 q.kn m7);obtain ⟨C,hC⟩:∃ C,rcol c w.heap.size 0=C:=⟨_,rfl⟩
 have HC:Hid ((∀ b,T<=b->C b=0)/\(∀ b,w.heap.size<=b->C b=0)/\∀ n,w.heap.size<=n->rcol C n 0=C):=by
  refine ⟨fun b hb=>?_,fun b hb=>?_,fun n hn=>?_⟩
  ·rw [<- hC]
   unfold rcol
   split
   ·exact hT b hb
   ·rfl
  ·rw [<- hC]
   exact qeo hb
  ·rw [<- hC]
   exact qtz c hn
 have HS:Hid (y.Sums/\q.Sums):=⟨hS,hs⟩
 have HZ:Hid (0<=mkZ5 y 1/\mkZ5 y 1<=24000000):=(qn2 hS).2.2.2;have s0:=s.recol;have o0:=o.recolO 0;rw [hC] at s0 o0;have X0:Hid (Below w.heap.size w (w.alloc (oQ7 a1 y.pn m1 a2 y.sn m2 a3 y.wn m3 a4 y.hn m4 q.on a5 q.cn m5 a6 q.ol m6 a7 q.kn m7))/\BoxH (w.alloc (oQ7 a1 y.pn m1 a2 y.sn m2 a3 y.wn m3 a4 y.hn m4 q.on a5 q.cn m5 a6 q.ol m6 a7 q.kn m7)) w.heap.size (.slice a1 y.pn m1) (.slice a2 y.sn m2) (.slice a3 y.wn m3) (.slice a4 y.hn m4) (.bool q.on) (.slice a5 q.cn m5) (.slice a6 q.ol m6) (.slice a7 q.kn m7)/\OwnS false (w.alloc (oQ7 a1 y.pn m1 a2 y.sn m2 a3 y.wn m3 a4 y.hn m4 q.on a5 q.cn m5 a6 q.ol m6 a7 q.kn m7)) B C y (.slice a1 y.pn m1) (.slice a2 y.sn m2) (.slice a3 y.wn m3) (.slice a4 y.hn m4) up us uw uh/\qcp (w.alloc (oQ7 a1 y.pn m1 a2 y.sn m2 a3 y.wn m3 a4 y.hn m4 q.on a5 q.cn m5 a6 q.ol m6 a7 q.kn m7)) B C q (.slice a5 q.cn m5) (.slice a6 q.ol m6) (.slice a7 q.kn m7) uk):=⟨ba,BoxH.new _ _ _ _ _ _ _ _ _ _,o0.bw ba,s0.bw ba⟩
 clear o s hT ba hC s0 o0 hS hs;obtain ⟨p0,p1,p2,p3,-⟩:=X0.2.1
 go_enter func11,ntmps11
 go_wp2_with fail
 clear p0 p1 p2 p3;generalize w.alloc (oQ7 a1 y.pn m1 a2 y.sn m2 a3 y.wn m3 a4 y.hn m4 q.on a5 q.cn m5 a6 q.ol m6 a7 q.kn m7)=wA at *;refine (qvc y B C _ _ _ _ up us uw uh wA HS.1 X0.2.2.1).mono ?_;rintro e w1 ⟨rfl,⟨ts,o1⟩,t1⟩;rw [HC.2.2 _ X0.1.size] at o1 t1;have hm1:w1.heap[w.heap.size]? = wA.heap[w.heap.size]?:=t1.block _ X0.2.1.lt fun h=>by have:=HC.2.1 w.heap.size (nA _);have:=h.2;omega
 have X1 : Hid (qaa (fun b => B ≤ b ∧ b < T) w w1 ∧ BoxH w1 w.heap.size (.slice a1 y.pn m1) (.slice a2 y.sn m2) (.slice a3 y.wn m3) (.slice a4 y.hn m4) (.bool q.on) (.slice a5 q.cn m5) (.slice a6 q.ol m6) (.slice a7 q.kn m7) ∧ OwnS false w1 B C (mkY y 1) (.slice a1 y.pn m1) (.slice a2 y.sn m2) (.slice a3 y.wn m3) (.slice a4 y.hn m4) up ts uw uh ∧ qcp w1 B C q (.slice a5 q.cn m5) (.slice a6 q.ol m6) (.slice a7 q.kn m7) uk ∧ w.heap.size ≤ w1.heap.size) := ⟨(qaa.of_below X0.1).trans (t1.mono fun b hb => ⟨hb.1, by
  apply Classical.byContradiction;intro hn;have:=HC.1 b (by omega);have:=hb.2
  omega⟩),X0.2.1.blk hm1,o1,X0.2.2.2.keep fun k _ h5 _ hl=>t1.block k hl fun h=>by have:=h.2;omega,zO X0.1.size t1.size⟩
 clear t1 o1 hm1 X0;obtain ⟨-,-,-,-,p4,p5,p6,p7⟩:=X1.2.1;go_wp2_with fail
 clear p4 p5 p6 p7;refine (qtl (mkZ5 y 1) HS.2 HZ.1 (by have:=HZ.out;omega) X1.2.2.2.1).mono ?_;rintro e w2 ⟨rfl,o2,t2⟩;rw [HC.2.2 _ X1.2.2.2.2] at o2 t2;have ke:∀ i,i<=4->∀ k,Cl B C i k->k<w1.heap.size->w2.heap[k]? = w1.heap[k]?:=fun i hi k hk hl=>t2.block k hl fun h=>by have:=h.2;have:=hk.2;omega
 have X2 : Hid (qaa (fun b => B ≤ b ∧ b < T) w w2 ∧ qbm w2 B T (mkY y 1) (mkSh q (mkZ5 y 1)) (.slice a1 y.pn m1) (.slice a2 y.sn m2) (.slice a3 y.wn m3) (.slice a4 y.hn m4) (.slice a5 q.cn m5) (.slice a6 q.ol m6) (.slice a7 q.kn m7)) := ⟨X1.1.trans (t2.mono fun b hb => ⟨hb.1, by
  apply Classical.byContradiction;intro hn;have:=HC.1 b (by omega);have:=hb.2
  omega⟩),C,up,ts,uw,uh,uk,⟨X1.2.2.1.p.keep (ke 1 (by decide)),X1.2.2.1.s.keep (ke 2 (by decide)),X1.2.2.1.t.keep (ke 3 (by decide)),X1.2.2.1.h.keep (ke 4 (by decide))⟩,o2,HC.1⟩
 clear t2 o2 ke X1;go_wp2;go_ret;exact ⟨rfl,X2.2,X2.1⟩
theorem qj3 (y:Sy) (q:Sh) (B T:Nat) (vp vs vw vh vc vo vk:Value) (w:World) (hS:y.Sums) (hs:q.Sums) (o:qbm w B T (mkY y 1) (mkSh q (mkZ5 y 1)) vp vs vw vh vc vo vk):
  Calls prog 12 #[.agg #[vp,vs,vw,vh,.bool q.on,vc,vo,vk],.int .i64 1] w (rB w (.int .i64 (shZ q (mkZ5 y 1)))):=by
 obtain ⟨c,up,us,uw,uh,uk,o,s,-⟩:=o;obtain ⟨a1,m1,e1⟩:=zT o.p.row;obtain ⟨a2,m2,e2⟩:=zT o.s.row;obtain ⟨a3,m3,e3⟩:=zT o.t.row;obtain ⟨a4,m4,e4⟩:=zT o.h.row;obtain ⟨a5,m5,e5⟩:=zT s.ic;obtain ⟨a6,m6,e6⟩:=zT s.io;obtain ⟨a7,m7,e7⟩:=zT s.ik.row;have e1:vp=.slice a1 y.pn m1:=e1;have e2:vs=.slice a2 y.sn m2:=e2;have e3:vw=.slice a3 y.wn m3:=e3;have e4:vh=.slice a4 y.hn m4:=e4;have e5:vc=.slice a5 q.cn m5:=e5;have e6:vo=.slice a6 q.ol m6:=e6;have e7:vk=.slice a7 q.kn m7:=e7;subst e1 e2 e3 e4 e5 e6 e7;have HS:Hid (y.Sums/\q.Sums):=⟨hS,hs⟩
 have hz:=(qn2 hS).2.2.2;have HZ:Hid (0<=mkZ5 y 1/\mkZ5 y 1<=24000000):=hz;have hz5:¬ mkZ5 y 1<0:=by omega
 have hz6:¬ shZ q (mkZ5 y 1)<0:=by unfold shZ;omega
 have ba:=qad w (oQ7 a1 y.pn m1 a2 y.sn m2 a3 y.wn m3 a4 y.hn m4 q.on a5 q.cn m5 a6 q.ol m6 a7 q.kn m7);have X0:Hid (Below w.heap.size w (w.alloc (oQ7 a1 y.pn m1 a2 y.sn m2 a3 y.wn m3 a4 y.hn m4 q.on a5 q.cn m5 a6 q.ol m6 a7 q.kn m7))/\BoxH (w.alloc (oQ7 a1 y.pn m1 a2 y.sn m2 a3 y.wn m3 a4 y.hn m4 q.on a5 q.cn m5 a6 q.ol m6 a7 q.kn m7)) w.heap.size (.slice a1 y.pn m1) (.slice a2 y.sn m2) (.slice a3 y.wn m3) (.slice a4 y.hn m4) (.bool q.on) (.slice a5 q.cn m5) (.slice a6 q.ol m6) (.slice a7 q.kn m7)/\qbj false (w.alloc (oQ7 a1 y.pn m1 a2 y.sn m2 a3 y.wn m3 a4 y.hn m4 q.on a5 q.cn m5 a6 q.ol m6 a7 q.kn m7)) B (mkY y 1) (.agg #[.slice a1 y.pn m1,.slice a2 y.sn m2,.slice a3 y.wn m3,.slice a4 y.hn m4])/\qcp (w.alloc (oQ7 a1 y.pn m1 a2 y.sn m2 a3 y.wn m3 a4 y.hn m4 q.on a5 q.cn m5 a6 q.ol m6 a7 q.kn m7)) B c (mkSh q (mkZ5 y 1)) (.slice a5 q.cn m5) (.slice a6 q.ol m6) (.slice a7 q.kn m7) uk):=⟨ba,BoxH.new _ _ _ _ _ _ _ _ _ _,qbj.bw ⟨_,_,_,_,_,_,_,_,_,rfl,o⟩ ba,s.bw ba⟩
 clear o s ba hz hS hs;obtain ⟨p0,p1,p2,p3,-⟩:=X0.2.1
 go_enter func12,ntmps12
 go_wp2_with fail
 clear p0 p1 p2 p3;generalize w.alloc (oQ7 a1 y.pn m1 a2 y.sn m2 a3 y.wn m3 a4 y.hn m4 q.on a5 q.cn m5 a6 q.ol m6 a7 q.kn m7)=wA at *;refine (qux y B _ wA HS.1 X0.2.2.1).mono ?_;rintro e w1 ⟨rfl,c1⟩;have X1:Hid (Below w.heap.size w w1/\BoxH w1 w.heap.size (.slice a1 y.pn m1) (.slice a2 y.sn m2) (.slice a3 y.wn m3) (.slice a4 y.hn m4) (.bool q.on) (.slice a5 q.cn m5) (.slice a6 q.ol m6) (.slice a7 q.kn m7)/\qcp w1 B c (mkSh q (mkZ5 y 1)) (.slice a5 q.cn m5) (.slice a6 q.ol m6) (.slice a7 q.kn m7) uk):=⟨X0.1.trans (c1.mono X0.1.size),X0.2.1.bw c1,X0.2.2.2.bw c1⟩
 clear c1 X0;obtain ⟨-,-,-,-,p4,p5,p6,p7⟩:=X1.2.1;go_wp2_with fail
 clear p4 p5 p6 p7;refine (qs7 (mkZ5 y 1) HS.2 HZ.1 (by have:=HZ.out;omega) X1.2.2).mono ?_;rintro e w2 ⟨rfl,c2⟩;have X2:Hid (Below w.heap.size w w2):=X1.1.trans (c2.mono X1.1.size);clear c2 X1;go_wp2;go_ret;exact ⟨rfl,X2.out⟩
def mixC (c:Nat->Nat) (n:Nat) (d:Nat->Nat):Nat->Nat:=fun b=>if b<n then c b else d b
theorem Cl.mixL {B n i k:Nat} {c d:Nat->Nat} (h:Cl B c i k) (hl:k<n):Cl B (mixC c n d) i k:=⟨h.1,(nC hl).trans h.2⟩
theorem Cl.mixR {B n i k:Nat} {c d:Nat->Nat} (h:Cl n d i k) (hB:B<=n):Cl B (mixC c n d) i k:=⟨zO hB h.1,(nB (Nat.not_lt.2 h.1)).trans h.2⟩
structure PrL (W1:World) (B:Nat) (y:Sy) (q:Sh) (fs fc fo fk:Bool) (vs vc vo vk:Value) (X:Nat->Prop) (w:World):Prop where
 be:Below W1.heap.size W1 w
 hB:B<=W1.heap.size
 ow:∃ c:Nat->Nat,(fs=true->∃ vp v2 vw vh up us uw uh,vs=.agg #[vp,v2,vw,vh]/\OwnS false w B c y vp v2 vw vh up us uw uh)/\(fc=true->w.ownsRow 0 3 1 vc q.cn (fZ q.cH q.cn)/\∀ k,vc.ownBlock=some k->Cl B c 5 k)/\(fo=true->OwnQ w 0 vo q.ol q.oH/\∀ k,vo.ownBlock=some k->Cl B c 6 k)/\(fk=true->∃ uk,LN false w (Cl B c 7) vk q.kn uk q.kL q.kH)/\∀ k,X k->k<w.heap.size/\c k=0
section
variable {W1:World} {B:Nat} {y:Sy} {q:Sh} {fs fc fo fk:Bool} {vs vc vo vk v:Value} {X:Nat->Prop} {w w':World}
theorem PrL.start (hB:B<=W1.heap.size) (h:Below W1.heap.size W1 w):PrL W1 B y q false false false false vs vc vo vk (fun _=>False) w:=
 ⟨h,hB,fun _=>0,(fun e=>by cases e),(fun e=>by cases e),(fun e=>by cases e),(fun e=>by cases e),fun _ h=>h.elim⟩
theorem PrL.mix (h:PrL W1 B y q fs fc fo fk vs vc vo vk X w) (hb:Below w.heap.size w w') (d:Nat->Nat):∃ c:Nat->Nat,(fs=true->∃ vp v2 vw vh up us uw uh,vs=.agg #[vp,v2,vw,vh]/\OwnS false w' B (mixC c w.heap.size d) y vp v2 vw vh up us uw uh)/\(fc=true->w'.ownsRow 0 3 1 vc q.cn (fZ q.cH q.cn)/\∀ k,vc.ownBlock=some k->Cl B (mixC c w.heap.size d) 5 k)/\(fo=true->OwnQ w' 0 vo q.ol q.oH/\∀ k,vo.ownBlock=some k->Cl B (mixC c w.heap.size d) 6 k)/\(fk=true->∃ uk,LN false w' (Cl B (mixC c w.heap.size d) 7) vk q.kn uk q.kL q.kH)/\∀ k,X k->k<w'.heap.size/\mixC c w.heap.size d k=0:=by
 obtain ⟨c,h1,h2,h3,h4,h5⟩:=h.ow;refine ⟨c,fun e=>?_,fun e=>?_,fun e=>?_,fun e=>?_,fun k hk=>⟨zL (h5 k hk).1 hb.size,(nC (h5 k hk).1).trans (h5 k hk).2⟩⟩
 ·obtain ⟨vp,v2,vw,vh,up,us,uw,uh,ev,o⟩:=h1 e
  exact ⟨vp,v2,vw,vh,up,us,uw,uh,ev,OwnS.bw ⟨o.p.mono fun _ h hl=>h.mixL hl,o.s.mono fun _ h hl=>h.mixL hl,o.t.mono fun _ h hl=>h.mixL hl,o.h.mono fun _ h hl=>h.mixL hl⟩ hb⟩
 ·obtain ⟨o,hc⟩:=h2 e
  exact ⟨qab o fun k hk=>hb.block k (o.lt k hk).2,fun k hk=>(hc k hk).mixL (o.lt k hk).2⟩
 ·obtain ⟨o,hc⟩:=h3 e
  exact ⟨o.bw hb,fun k hk=>(hc k hk).mixL (World.ownsRow.lt o k hk).2⟩
 ·obtain ⟨uk,o⟩:=h4 e
  exact ⟨uk,(o.mono fun _ h hl=>h.mixL hl).bw hb⟩
theorem PrL.bw (h:PrL W1 B y q fs fc fo fk vs vc vo vk X w) (hb:Below w.heap.size w w'):PrL W1 B y q fs fc fo fk vs vc vo vk X w':=by
 obtain ⟨c,hh⟩:=h.mix hb fun _=>0;exact ⟨h.be.trans (hb.mono h.be.size),h.hB,_,hh⟩
theorem PrL.sys (h:PrL W1 B y q fs fc fo fk vs vc vo vk X w) (hb:Below w.heap.size w w') (o:qbj false w' w.heap.size y v):PrL W1 B y q true fc fo fk v vc vo vk X w':=by
 obtain ⟨d,vp,v2,vw,vh,up,us,uw,uh,ev,o⟩:=o;obtain ⟨c,-,h2,h3,h4,h5⟩:=h.mix hb d;have hB:=zO h.hB h.be.size;exact ⟨h.be.trans (hb.mono h.be.size),h.hB,_,fun _=>⟨vp,v2,vw,vh,up,us,uw,uh,ev,o.p.mono fun _ h _=>h.mixR hB,o.s.mono fun _ h _=>h.mixR hB,o.t.mono fun _ h _=>h.mixR hB,o.h.mono fun _ h _=>h.mixR hB⟩,h2,h3,h4,h5⟩
theorem PrL.cut (h:PrL W1 B y q fs fc fo fk vs vc vo vk X w) (hb:Below w.heap.size w w') (o:w'.ownsRow w.heap.size 3 1 v q.cn (fZ q.cH q.cn)):PrL W1 B y q fs true fo fk vs v vo vk X w':=by
 obtain ⟨c,h1,-,h3,h4,h5⟩:=h.mix hb fun _=>5;exact ⟨h.be.trans (hb.mono h.be.size),h.hB,_,h1,fun _=>⟨o.mono (nD _),fun k hk=>Cl.mixR ⟨(o.lt k hk).1,rfl⟩ (zO h.hB h.be.size)⟩,h3,h4,h5⟩
theorem PrL.open' (h:PrL W1 B y q fs fc fo fk vs vc vo vk X w) (hb:Below w.heap.size w w') (o:OwnQ w' w.heap.size v q.ol q.oH):PrL W1 B y q fs fc true fk vs vc v vk X w':=by
 obtain ⟨c,h1,h2,-,h4,h5⟩:=h.mix hb fun _=>6;exact ⟨h.be.trans (hb.mono h.be.size),h.hB,_,h1,h2,fun _=>⟨World.ownsRow.mono o (nD _),fun k hk=>Cl.mixR ⟨(World.ownsRow.lt o k hk).1,rfl⟩ (zO h.hB h.be.size)⟩,h4,h5⟩
theorem PrL.kept (h:PrL W1 B y q fs fc fo fk vs vc vo vk X w) (hb:Below w.heap.size w w') {u:Nat->Value} (o:LN false w' (fun k=>w.heap.size<=k) v q.kn u q.kL q.kH):PrL W1 B y q fs fc fo true vs vc vo v X w':=by
 obtain ⟨c,h1,h2,h3,-,h5⟩:=h.mix hb fun _=>7;exact ⟨h.be.trans (hb.mono h.be.size),h.hB,_,h1,h2,h3,fun _=>⟨u,o.mono fun k h' _=>Cl.mixR ⟨h',rfl⟩ (zO h.hB h.be.size)⟩,h5⟩
theorem PrL.box (h:PrL W1 B y q fs fc fo fk vs vc vo vk X w) (o:Obj) (X':Nat->Prop) (hX:∀ k,X' k->X k\/k=w.heap.size):PrL W1 B y q fs fc fo fk vs vc vo vk X' (w.alloc o):=by
 have hb:=zP w o;obtain ⟨c,h1,h2,h3,h4,h5⟩:=h.mix hb fun _=>0;refine ⟨h.be.trans (hb.mono h.be.size),h.hB,_,h1,h2,h3,h4,fun k hk=>?_⟩
 rcases hX k hk with h6 | rfl
 ·exact h5 k h6
 ·exact ⟨by simp,nB (Nat.lt_irrefl _)⟩
theorem PrL.put (h:PrL W1 B y q fs fc fo fk vs vc vo vk X w) {N:Nat} (hX:X N) (hN:W1.heap.size<=N) (j:Nat) (u:Value):PrL W1 B y q fs fc fo fk vs vc vo vk X (w.setCell ⟨N,j,none⟩ u):=by
 obtain ⟨c,h1,h2,h3,h4,h5⟩:=h.ow
 have hk : ∀ k i, c k = i → i ≠ 0 → (w.setCell ⟨N, j, none⟩ u).heap[k]? = w.heap[k]? := fun k i hc hi => Below.heap_setCell _ _ _ _ fun e => hi (by
  have e2:k=N:=e;rw [<- hc,e2]
  exact (h5 N hX).2)
 refine ⟨h.be.setCell hN _,h.hB,c,fun e=>?_,fun e=>?_,fun e=>?_,fun e=>?_,fun k hX'=>⟨by simpa using (h5 k hX').1,(h5 k hX').2⟩⟩
 ·obtain ⟨vp,v2,vw,vh,up,us,uw,uh,ev,o⟩:=h1 e
  exact ⟨vp,v2,vw,vh,up,us,uw,uh,ev,o.p.keep fun k h _=>hk k 1 h.2 (by decide),o.s.keep fun k h _=>hk k 2 h.2 (by decide),o.t.keep fun k h _=>hk k 3 h.2 (by decide),o.h.keep fun k h _=>hk k 4 h.2 (by decide)⟩
 ·obtain ⟨o,hc⟩:=h2 e
  exact ⟨qab o fun k h=>hk k 5 (hc k h).2 (by decide),hc⟩
 ·obtain ⟨o,hc⟩:=h3 e
  exact ⟨qab o fun k h=>hk k 6 (hc k h).2 (by decide),hc⟩
 ·obtain ⟨uk,o⟩:=h4 e
  exact ⟨uk,o.keep fun k h _=>hk k 7 h.2 (by decide)⟩
theorem PrL.drew (h:PrL W1 B y q fs fc fo fk vs vc vo vk X w):PrL W1 B y q fs fc fo fk vs vc vo vk X w.drew:=h.bw (nE _ _).drew
theorem PrL.live (h:PrL W1 B y q true true true true vs vc vo vk X w):∃ vp v2 vw vh,vs=.agg #[vp,v2,vw,vh]/\qba w B y q (.agg #[vp,v2,vw,vh,.bool q.on,vc,vo,vk]):=by
 obtain ⟨c,h1,h2,h3,h4,-⟩:=h.ow;obtain ⟨vp,v2,vw,vh,up,us,uw,uh,ev,o⟩:=h1 rfl;obtain ⟨uk,ik⟩:=h4 rfl;exact ⟨vp,v2,vw,vh,ev,c,vp,v2,vw,vh,up,us,uw,uh,vc,vo,vk,uk,rfl,o,(h2 rfl).1,(h3 rfl).1,ik,(h2 rfl).2,(h3 rfl).2⟩
end
def sh0 (n m:Nat):Sh:=⟨false,n,fun _=>-1,m,fun _=>false,m,fun _=>0,fun _ _=>0⟩
theorem qba.zero (w:World) (B:Nat) (y:Sy):qba w B { y with pn:=0,sn:=0,wn:=0,hn:=0 } (sh0 0 0) (.agg #[nS,nS,nS,nS,.bool false,nS,nS,nS]):=by
 obtain ⟨c,vp,vs,vw,vh,up,us,uw,uh,e,o⟩:=qbj.zero (z:=false) w B y;simp only [sysV,Value.agg.injEq,Array.mk.injEq,List.cons.injEq,and_true] at e;obtain ⟨rfl,rfl,rfl,rfl⟩:=e;exact ⟨c,_,_,_,_,up,us,uw,uh,_,_,_,fun _=>.slice none 0 0,rfl,o,World.ownsRow_nil _ _ _ _,World.ownsRow_nil _ _ _ _,LL.nil _ _ _ _ _ _ _ _,(fun k hk=>by cases hk),(fun k hk=>by cases hk)⟩
variable {z:Bool}
theorem qu6:Kind 28 3 1 8:=by
 refine ⟨Tryz.underlying28,?_,by omega,by omega⟩;have hinfo:(prog.info? 3).map (fun i=>(i.zero,i.size,i.bytes))=some (some (.int .i64 0),1,8):=by kernel_rfl
 cases hi:prog.info? 3 with
 | none=>rw [hi] at hinfo;cases hinfo
 | some i=>
  rw [hi] at hinfo;simp only [Option.map_some,nG,Prod.mk.injEq] at hinfo;exact ⟨i,_,rfl,hinfo.1,hinfo.2.1,hinfo.2.2,rfl⟩
theorem qry:Kind 30 28 1 24:=by
 refine ⟨Tryz.underlying30,?_,by omega,by omega⟩;have hinfo:(prog.info? 28).map (fun i=>(i.zero,i.size,i.bytes))=some (some nS,1,24):=by kernel_rfl
 cases hi:prog.info? 28 with
 | none=>rw [hi] at hinfo;cases hinfo
 | some i=>
  rw [hi] at hinfo;simp only [Option.map_some,nG,Prod.mk.injEq] at hinfo;exact ⟨i,_,rfl,hinfo.1,hinfo.2.1,hinfo.2.2,rfl⟩
theorem qyk:Kind 29 4 1 1:=by
 refine ⟨Tryz.underlying29,?_,by omega,by omega⟩;have hinfo:(prog.info? 4).map (fun i=>(i.zero,i.size,i.bytes))=some (some (.bool false),1,1):=by kernel_rfl
 cases hi:prog.info? 4 with
 | none=>rw [hi] at hinfo;cases hinfo
 | some i=>
  rw [hi] at hinfo;simp only [Option.map_some,nG,Prod.mk.injEq] at hinfo;exact ⟨i,_,rfl,hinfo.1,hinfo.2.1,hinfo.2.2,rfl⟩
theorem qet (h:Nat->Int) (n:Nat):(fZ h n).length=n*1:=by simp [fZ,qe7]
theorem qrr (h:Nat->Int) (n:Nat):∀ u ∈ fZ h n,u.oneCell'=true:=fun u hu=>by
 unfold fZ at hu;obtain ⟨x,-,rfl⟩:=List.mem_map.1 hu;rfl
theorem qk0 (h:Nat->Bool) (n:Nat):(fBo h n).length=n*1:=by simp [fBo]
theorem qup (h:Nat->Bool) (n:Nat):∀ u ∈ fBo h n,u.oneCell'=true:=fun u hu=>by
 unfold fBo at hu;obtain ⟨x,-,rfl⟩:=List.mem_map.1 hu;rfl
theorem qs1 {h:Nat->Int} {n i:Nat} (hi:i<n):(fZ h n)[i]? = some (.int .i64 (h i)):=by
 unfold fZ ofZ;rw [List.map_map,List.getElem?_map,List.getElem?_range hi];rfl
theorem srcZ {w:World} {a:Option Addr} {n:Nat} {h:Nat->Int} (o:ZiL w a n h):Src w a (fZ h n):=by
 rcases o with rfl | ⟨b,off,e,hb,hc⟩
 ·exact .inl rfl
 ·refine .inr ⟨b,off,e,hb,fun j u hj=>?_⟩
  by_cases hl:j<n
  ·rw [qs1 hl] at hj
   cases hj;exact hc j hl
  ·rw [List.getElem?_eq_none (by rw [qet];omega)] at hj
   cases hj
theorem qzk {w:World} {a:Option Addr} {n:Nat} {h:Nat->Bool} (o:BiL w a n h):Src w a (fBo h n):=by
 rcases o with rfl | ⟨b,off,e,hb,hc⟩
 ·exact .inl rfl
 ·refine .inr ⟨b,off,e,hb,fun j u hj=>?_⟩
  by_cases hl:j<n
  ·rw [qes hl] at hj
   cases hj;exact hc j hl
  ·rw [List.getElem?_eq_none (by rw [qdy];omega)] at hj
   cases hj
theorem qm3 (b off n cap:Nat) (H:Nat->Int) (w:World) (hn:n<=1048576) (hI:Src w (some ⟨b,off,none⟩) (fZ H n)):
  Calls prog 138 #[.slice (some ⟨b,off,none⟩) n cap] w fun e w'=>∃ a c,e=.returned (.slice a n c)/\w'.ownsRow w.heap.size 3 1 (.slice a n c) n (fZ H n)/\Value.slice a n c≠nS/\Below w.heap.size w w':=by
 have HI:Hid (Src w (some ⟨b,off,none⟩) (fZ H n)):=hI;have he:∀ wx:World,(binOp .eql 28 (.slice (some ⟨b,off,none⟩) n cap) nS).run prog wx=.ok (.bool false) wx:=fun wx=>by kernel_rfl
 clear hI
 go_enter func138,ntmps138
 go_wp2_with (at_builtin;refine qbc qu6 w rfl rfl _ _ rfl (some ⟨b,off,none⟩) n cap (fZ H n) rfl rfl (qet _ _) HI.out (qrr _ _) (by omega) ?_;intro v4 w4 o4 b4 n4;obtain ⟨a4,c4,rfl⟩:=zT o4;have F4:Hid (w4.ownsRow w.heap.size 3 1 (.slice a4 n c4) n (fZ H n)/\Value.slice a4 n c4≠nS/\Below w.heap.size w w4):=⟨o4,n4,b4⟩;clear o4 b4 n4)
 go_ret;exact ⟨_,_,rfl,F4.out⟩
theorem qkn (w:World):
  Calls prog 138 #[nS] w (rB w nS):=by
 have he:∀ wx:World,(binOp .eql 28 nS nS).run prog wx=.ok (.bool true) wx:=fun wx=>by kernel_rfl
 go_enter func138,ntmps138
 go_wp2;go_ret;exact ⟨rfl,nE _ _⟩
theorem qhm (a0:Option Addr) (n cap:Nat) (A:Nat->Option Addr) (L C:Nat->Nat) (H:Nat->Nat->Int) (w:World) (hn:n<=1048576) (hL:∀ i,i<n->L i<=1048576) (hr:RowS w a0 n fun i=>.slice (A i) (L i) (C i)) (hI:∀ i,i<n->(∃ b off,A i=some ⟨b,off,none⟩/\Src w (A i) (fZ (H i) (L i)))\/(z=false/\A i=none/\L i=0/\C i=0)):
  Calls prog 72 #[.slice a0 n cap] w fun e w'=>∃ v u,e=.returned v/\LN z w' (fun k=>w.heap.size<=k/\k<w'.heap.size) v n u L H/\Below w.heap.size w w':=by
 have hn':(n:Int)<=1048576:=by omega
 obtain ⟨cs,hcs,hmk⟩:=qcx qry n hn;have HCS:Hid (cs.size=n):=hcs;have HR:Hid (RowS w a0 n fun i=>.slice (A i) (L i) (C i)):=hr;have HI:Hid (∀ i,i<n->(∃ b off,A i=some ⟨b,off,none⟩/\Src w (A i) (fZ (H i) (L i)))\/(z=false/\A i=none/\L i=0/\C i=0)):=hI;have HL:Hid (∀ i,i<n->L i<=1048576):=hL;clear hr hI hL hcs
 go_enter func72,ntmps72
 go_wp2_with fail
 clear hmk
 go_loopw [3,11] (fun v i wr=>∃ k:Nat,k<=n/\i=.int .i64 k/\Hid ((∃ u,LN z wr (fun b=>w.heap.size<=b/\b<wr.heap.size) v k u L H)/\Below w.heap.size w wr)) (fun _ i _=>n - (intOf i).toNat)
 case atStart=>exact ⟨0,nD _,rfl,⟨fun _=>.slice none 0 0,LL.made _ _ _ w _ n hn HCS.out _ (by simp) _ _ _⟩,zP _ _⟩
 case round=>
  obtain ⟨k,hk,rfl,HZ⟩:=hrel;by_cases hlt:k<n
  ·have hlt':(k:Int)<(n:Int):=by omega
   obtain ⟨b,off,rfl,ck⟩:=(HR.bw HZ.2).at hlt;have hbl:b<wr.heap.size:=zJ wr _ ck
   rcases HI.out k hlt with ⟨b2,o2,ea,hsr⟩ | ⟨hz,ea,eL,eC⟩
   ·rw [ea] at hsr ck
    have HS:Hid (Src wr (some ⟨b2,o2,none⟩) (fZ (H k) (L k))):=hsr.bw HZ.2;have HLk:Hid (L k<=1048576):=HL.out k hlt;have hk2:Hid (k<=2000000):=by show k<=2000000;omega
    obtain ⟨⟨u,oz⟩,bz⟩:=HZ.out;have OZ:Hid (LN z wr (fun b=>w.heap.size<=b/\b<wr.heap.size) u3 k u L H):=oz;have BZ:Hid (Below w.heap.size w wr):=bz;clear oz bz HZ hsr ea;go_wp2_with fail
    refine (qm3 b2 o2 (L k) (C k) (H k) wr HLk.out HS.out).mono ?_;rintro e w4 ⟨a4,c4,rfl,o4,n4,b4⟩;have F4:Hid (w4.ownsRow wr.heap.size 3 1 (.slice a4 (L k) c4) (L k) (fZ (H k) (L k))/\Below wr.heap.size wr w4/\Value.slice a4 (L k) c4≠nS):=⟨o4,b4,n4⟩
    clear o4 b4 n4 ck hbl;go_wp2_with (at_builtin;refine qau qry w4 rfl rfl _ _ rfl 0 u3 k _ rfl (OZ.bw F4.2.1).row #[.slice a4 (L k) c4] rfl rfl (by intro u hu;simp at hu;subst hu;rfl) hk2.out (nD _) ?_;intro v5 w5 o5 g5 q5 n5;have F5:Hid (LN z w5 (fun b=>w.heap.size<=b/\b<w5.heap.size) v5 (k+1) (fun j=>if j=k then .slice a4 (L k) c4 else u j) L H/\Below w.heap.size w w5):=⟨OZ.push F4.2.1 F4.1 (fun _=>F4.2.2) o5 g5 q5 (fun j hj _=>⟨hj.1,zL hj.2 (zO F4.2.1.size g5.size)⟩) (fun j hj hj'=>⟨zO BZ.size hj,hj'⟩),Below.grown (BZ.trans (F4.2.1.mono BZ.size)) g5 (zO BZ.size F4.2.1.size) (fun j hj=>(OZ.rb j hj).1)⟩;clear o5 g5 q5 n5)
    go_roundw
    case rel=>exact ⟨k+1,by omega,by go_num,⟨_,F5.1⟩,F5.2⟩
    case measure=>simp [intOf];omega
   ·rw [ea,eL,eC] at ck
    have HNz:Hid (¬ Nz z 3):=fun h=>by
     rcases h with h | h
     ·rw [hz] at h
      cases h
     ·exact absurd h (by decide)
    have hk2:Hid (k<=2000000):=by show k<=2000000;omega
    obtain ⟨⟨u,oz⟩,bz⟩:=HZ.out;have OZ:Hid (LN z wr (fun b=>w.heap.size<=b/\b<wr.heap.size) u3 k u L H):=oz;have BZ:Hid (Below w.heap.size w wr):=bz;have HE:Hid (L k=0):=eL;clear oz bz HZ ea eL eC hz;go_wp2_with fail
    refine (qkn wr).mono ?_;rintro e w4 ⟨rfl,b4⟩;have F4:Hid (w4.ownsRow wr.heap.size 3 1 nS (L k) (fZ (H k) (L k))/\Below wr.heap.size wr w4):=⟨by rw [HE.out];exact World.ownsRow_nil _ _ _ _,b4⟩
    clear b4 ck hbl;go_wp2_with (at_builtin;refine qau qry w4 rfl rfl _ _ rfl 0 u3 k _ rfl (OZ.bw F4.2).row #[nS] rfl rfl (by intro u hu;simp at hu;subst hu;rfl) hk2.out (nD _) ?_;intro v5 w5 o5 g5 q5 n5;have F5:Hid (LN z w5 (fun b=>w.heap.size<=b/\b<w5.heap.size) v5 (k+1) (fun j=>if j=k then nS else u j) L H/\Below w.heap.size w w5):=⟨OZ.push F4.2 F4.1 (fun h=>absurd h HNz.out) o5 g5 q5 (fun j hj _=>⟨hj.1,zL hj.2 (zO F4.2.size g5.size)⟩) (fun j hj hj'=>⟨zO BZ.size hj,hj'⟩),Below.grown (BZ.trans (F4.2.mono BZ.size)) g5 (zO BZ.size F4.2.size) (fun j hj=>(OZ.rb j hj).1)⟩;clear o5 g5 q5 n5)
    go_roundw
    case rel=>exact ⟨k+1,by omega,by go_num,⟨_,F5.1⟩,F5.2⟩
    case measure=>simp [intOf];omega
  ·have hkn:k=n:=by omega
   subst hkn;go_wp2;go_ret;obtain ⟨⟨u,oz⟩,bz⟩:=HZ.out;exact ⟨_,u,rfl,oz,bz⟩
theorem qkq (ea:Option Addr) (n cap:Nat) (H:Nat->Int) (w:World) (hn:n<=1048576) (hS:Src w ea (fZ H n)):
  Calls prog 70 #[.slice ea n cap] w fun e w'=>∃ a1 c1,e=.returned (.slice a1 n c1)/\w'.ownsRow w.heap.size 3 1 (.slice a1 n c1) n (fZ H n)/\Value.slice a1 n c1≠nS/\Below w.heap.size w w':=by
 have hn':(n:Int)<=1048576:=by omega
 obtain ⟨cs,hcs,hmk⟩:=qf3 qu6 n hn;have hcp:=qhf qu6 w 3 ea n cap (fZ H n) (qet _ _) hS (qrr _ _) cs hcs
 have HO:Hid ((w.alloc (.cells (fZ H n).toArray 3)).ownsRow w.heap.size 3 1 (sG w.heap.size n n) n (fZ H n)/\Below w.heap.size w (w.alloc (.cells (fZ H n).toArray 3))):=by
  refine ⟨?_,zP _ _⟩;have:=World.ownsRow_lit (base:=w.heap.size) (e:=3) (size:=1) w (fZ H n).toArray n (nA _) (by unfold maxLen;omega) (by simp [qet]);exact this
 clear hS hcs
 go_enter func70,ntmps70
 go_wp2;go_ret;exact ⟨_,_,rfl,HO.1,by simp,HO.2⟩
theorem qja (ea:Option Addr) (n cap:Nat) (H:Nat->Bool) (w:World) (hn:n<=1048576) (hS:Src w ea (fBo H n)):
  Calls prog 71 #[.slice ea n cap] w fun e w'=>∃ a1 c1,e=.returned (.slice a1 n c1)/\w'.ownsRow w.heap.size 4 1 (.slice a1 n c1) n (fBo H n)/\Value.slice a1 n c1≠nS/\Below w.heap.size w w':=by
 have hn':(n:Int)<=1048576:=by omega
 obtain ⟨cs,hcs,hmk⟩:=qf3 qyk n hn;have hcp:=qhf qyk w 3 ea n cap (fBo H n) (qk0 _ _) hS (qup _ _) cs hcs
 have HO:Hid ((w.alloc (.cells (fBo H n).toArray 4)).ownsRow w.heap.size 4 1 (sG w.heap.size n n) n (fBo H n)/\Below w.heap.size w (w.alloc (.cells (fBo H n).toArray 4))):=by
  refine ⟨?_,zP _ _⟩;have:=World.ownsRow_lit (base:=w.heap.size) (e:=4) (size:=1) w (fBo H n).toArray n (nA _) (by unfold maxLen;omega) (by simp [qk0]);exact this
 clear hS hcs
 go_enter func71,ntmps71
 go_wp2;go_ret;exact ⟨_,_,rfl,HO.1,by simp,HO.2⟩
theorem qba.keepB {w w':World} {B:Nat} {y:Sy} {q:Sh} {v:Value} (o:qba w B y q v) (hb:∀ k,B<=k->k<w.heap.size->w'.heap[k]? = w.heap[k]?):qba w' B y q v:=by
 obtain ⟨c,vp,vs,vw,vh,up,us,uw,uh,vc,vo,vk,uk,e,o,s⟩:=o;exact ⟨c,vp,vs,vw,vh,up,us,uw,uh,vc,vo,vk,uk,e,⟨o.p.keep fun k hk hl=>hb k hk.1 hl,o.s.keep fun k hk hl=>hb k hk.1 hl,o.t.keep fun k hk hl=>hb k hk.1 hl,o.h.keep fun k hk hl=>hb k hk.1 hl⟩,s.keep fun k h1 _ _ hl=>hb k h1 hl⟩
theorem qba.set1 {w:World} {B N:Nat} {y:Sy} {q:Sh} {v:Value} (o:qba w B y q v) (hN:N<B) (j:Nat) (u:Value):qba (w.setCell ⟨N,j,none⟩ u) B y q v:=o.keepB fun k hk _=>zN _ _ _ _ fun e=>by
 have e2:k=N:=e;omega
theorem qba.base {w:World} {B B':Nat} {y:Sy} {q:Sh} {v:Value} (o:qba w B y q v) (h:B'<=B):qba w B' y q v:=by
 obtain ⟨c,vp,vs,vw,vh,up,us,uw,uh,vc,vo,vk,uk,e,o,s⟩:=o;have hc:∀ i k,Cl B c i k->Cl B' c i k:=fun i k hk=>⟨zO h hk.1,hk.2⟩
 exact ⟨c,vp,vs,vw,vh,up,us,uw,uh,vc,vo,vk,uk,e,⟨o.p.mono fun k hk _=>hc _ k hk,o.s.mono fun k hk _=>hc _ k hk,o.t.mono fun k hk _=>hc _ k hk,o.h.mono fun k hk _=>hc _ k hk⟩,⟨s.ic,s.io,s.ik.mono fun k hk _=>hc _ k hk,fun k hk=>hc _ k (s.cb k hk),fun k hk=>hc _ k (s.ob k hk)⟩⟩
def set8 (w:World) (N:Nat) (c0 c1 c2 c3 c4 c5 c6 c7:Value):World:=(((((((w.setCell ⟨N,0,none⟩ c0).setCell ⟨N,1,none⟩ c1).setCell ⟨N,2,none⟩ c2).setCell ⟨N,3,none⟩ c3).setCell ⟨N,4,none⟩ c4).setCell ⟨N,5,none⟩ c5).setCell ⟨N,6,none⟩ c6).setCell ⟨N,7,none⟩ c7
theorem qax {M N:Nat} {w w':World} (h:Below M w w') (hM:M<=N) (c0 c1 c2 c3 c4 c5 c6 c7:Value):Below M w (set8 w' N c0 c1 c2 c3 c4 c5 c6 c7):=(((((((h.setCell hM _).setCell hM _).setCell hM _).setCell hM _).setCell hM _).setCell hM _).setCell hM _).setCell hM _
theorem qba.set8 {w:World} {B N:Nat} {y:Sy} {q:Sh} {v:Value} (o:qba w B y q v) (hN:N<B) (c0 c1 c2 c3 c4 c5 c6 c7:Value):qba (set8 w N c0 c1 c2 c3 c4 c5 c6 c7) B y q v:=(((((((o.set1 hN _ _).set1 hN _ _).set1 hN _ _).set1 hN _ _).set1 hN _ _).set1 hN _ _).set1 hN _ _).set1 hN _ _
theorem qfj {w:World} {N:Nat} {d0 d1 d2 d3 d4 d5 d6 d7:Value} (h:BoxH w N d0 d1 d2 d3 d4 d5 d6 d7) (c0 c1 c2 c3 c4 c5 c6 c7:Value):BoxH (set8 w N c0 c1 c2 c3 c4 c5 c6 c7) N c0 c1 c2 c3 c4 c5 c6 c7:=by
 obtain ⟨r0,r1,r2,r3,r4,r5,r6,r7⟩:=h;unfold set8;refine ⟨?_,?_,?_,?_,?_,?_,?_,?_⟩ <;> go_cell
def qwy:Value:=.agg #[nS,nS,nS,nS,.bool false,nS,nS,nS]
theorem qy6 (h:Nat->Int) (n j:Nat) (x:Int):(fZ h n).set j (.int .i64 x)=fZ (fun i=>if i=j then x else h i) n:=by
 apply List.ext_getElem?;intro i;rw [List.getElem?_set];by_cases hi:i<n
 ·rw [qs1 (h:=fun i=>if i=j then x else h i) hi,qs1 (h:=h) hi]
  by_cases e:j=i
  ·rw [nC e,nC e.symm,nC (by rw [qet];omega)]
  ·rw [nB e,nB fun h=>e h.symm]
 ·rw [List.getElem?_eq_none (l:=fZ (fun i=>if i=j then x else h i) n) (by rw [qet];omega),List.getElem?_eq_none (l:=fZ h n) (by rw [qet];omega)]
  by_cases e:j=i
  ·rw [nC e,nB (by rw [qet];omega)]
  ·rw [nB e]
section
variable {W1:World} {B:Nat} {y:Sy} {q:Sh} {fs fc fo fk:Bool} {vs vc vo vk v:Value} {X:Nat->Prop} {w w':World}
theorem PrL.sub (h:PrL W1 B y q fs fc fo fk vs vc vo vk X w) {X':Nat->Prop} (hX:∀ k,X' k->X k):PrL W1 B y q fs fc fo fk vs vc vo vk X' w:=by
 obtain ⟨c,h1,h2,h3,h4,h5⟩:=h.ow;exact ⟨h.be,h.hB,c,h1,h2,h3,h4,fun k hk=>h5 k (hX k hk)⟩
theorem PrL.cutAt {g cap:Nat} (h:PrL W1 W1.heap.size y q fs true fo fk vs (sG g q.cn cap) vo vk X w) (j:Nat) (x:Int):PrL W1 W1.heap.size y { q with cH:=fun i=>if i=j then x else q.cH i } fs true fo fk vs (sG g q.cn cap) vo vk X (w.setCell ⟨g,j,none⟩ (.int .i64 x)):=by
 obtain ⟨c,h1,h2,h3,h4,h5⟩:=h.ow;obtain ⟨oc,hc⟩:=h2 rfl;have hg:=hc g rfl
 have hk : ∀ k i, c k = i → i ≠ 5 → (w.setCell ⟨g, j, none⟩ (.int .i64 x)).heap[k]? = w.heap[k]? := fun k i hc' hi => Below.heap_setCell _ _ _ _ fun e => hi (by
  have e2:k=g:=e;rw [<- hc',e2]
  exact hg.2)
 refine ⟨h.be.setCell hg.1 _,h.hB,c,fun e=>?_,fun _=>?_,fun e=>?_,fun e=>?_,fun k hX'=>⟨by simpa using (h5 k hX').1,(h5 k hX').2⟩⟩
 ·obtain ⟨vp,v2,vw,vh,up,us,uw,uh,ev,o⟩:=h1 e
  exact ⟨vp,v2,vw,vh,up,us,uw,uh,ev,o.p.keep fun k h _=>hk k 1 h.2 (by decide),o.s.keep fun k h _=>hk k 2 h.2 (by decide),o.t.keep fun k h _=>hk k 3 h.2 (by decide),o.h.keep fun k h _=>hk k 4 h.2 (by decide)⟩
 ·have:=(World.ownsRow.stored oc j (.int .i64 x)).1
  rw [qy6] at this;exact ⟨this,hc⟩
 ·obtain ⟨o,hc⟩:=h3 e
  exact ⟨qab o fun k h=>hk k 6 (hc k h).2 (by decide),hc⟩
 ·obtain ⟨uk,o⟩:=h4 e
  exact ⟨uk,o.keep fun k h _=>hk k 7 h.2 (by decide)⟩
end
theorem qmz {w:World} {N:Nat} {d0 d1 d2 d3:Value} (h:BoxC w N d0 d1 d2 d3) (c0 c1 c2 c3:Value):BoxC ((((w.setCell ⟨N,0,none⟩ c0).setCell ⟨N,1,none⟩ c1).setCell ⟨N,2,none⟩ c2).setCell ⟨N,3,none⟩ c3) N c0 c1 c2 c3:=by
 obtain ⟨r0,r1,r2,r3⟩:=h;refine ⟨?_,?_,?_,?_⟩ <;> go_cell
theorem qhe (w:World):(callFunc 197 #[]).run prog w=.ok (.value (.tuple #[])) w:=run_call_mark0 func197 (by kernel_rfl) (by kernel_rfl) (by kernel_rfl) .disable (by kernel_rfl) w
theorem qiu (w:World):(callFunc 199 #[]).run prog w=.ok (.value (.tuple #[])) w:=run_call_mark0 func199 (by kernel_rfl) (by kernel_rfl) (by kernel_rfl) .enable (by kernel_rfl) w
theorem qoe (a:Addr) (w:World):(callFunc 200 #[.pointer (some a)]).run prog w=.ok (.value (.tuple #[])) w:=run_call_marked func200 (by kernel_rfl) (by kernel_rfl) (by kernel_rfl) .acquire (by kernel_rfl) a w
theorem qty (a:Addr) (w:World):(callFunc 202 #[.pointer (some a)]).run prog w=.ok (.value (.tuple #[])) w:=run_call_marked func202 (by kernel_rfl) (by kernel_rfl) (by kernel_rfl) .releaseMerge (by kernel_rfl) a w
theorem qlf (b off:Nat) (w:World) (h0:w.cell? ⟨b,off,none⟩=some (.int .i32 0)) (f0:w.frozen? ⟨b,off,none⟩=false):
  Calls prog 78 #[.pointer (some ⟨b,off,none⟩)] w fun e w'=>e=.returned (.tuple #[])/\w'=w.setCell ⟨b,off,none⟩ (.int .i32 1):=by
 have hd:=qhe;have he:=qiu;have ha:=qoe;have hcas:=run_call_cas_hit (P:=prog) func198 (by kernel_rfl) (by kernel_rfl) (by kernel_rfl) .i32 (by kernel_rfl) (y:=1) h0 f0;have h0':(w.setCell ⟨b,off,none⟩ (.int .i32 1)).cell? ⟨b,off,none⟩=some (.int .i32 1):=World.cell?_setCell_same _ _ _ h0;have hcv:=run_convert_to_unsafe (P:=prog) (src:=239) (dst:=243) Tryz.underlying239 Tryz.underlying243 (by kernel_rfl) h0'
 go_enter func78,ntmps78
 go_wp2
 first | go_end0 | (simp only [Exit.inBlock,Exit.then];refine bodyPost_ret (results_none rfl _ _ _) rfl ?_) | refine bodyPost_ret (results_none rfl _ _ _) rfl ?_
 go_wp2
theorem qc1 (a:Addr) (u:FrameMode) (w:World) (hc:w.cell? a=some (.int .i32 1)) (hz:w.frozen? a=false):
  CallsD prog 79 #[.pointer (some a)] u w fun e u' w'=>u'=u/\(e=.returned (.tuple #[])/\w'=w.setCell a (.int .i32 0)):=by
 have hd:=qhe;have he:=qiu;have hr:=qty;have hcv:=run_convert_to_unsafe (P:=prog) (src:=239) (dst:=243) Tryz.underlying239 Tryz.underlying243 (by kernel_rfl) hc;have hadd:=run_call_add (P:=prog) func203 (by kernel_rfl) (by kernel_rfl) (by kernel_rfl) .i32 (by kernel_rfl) (y:=-1) (s:=0) hc hz (by simp [go_sem];rfl)
 go_enter_d func79,ntmps79
 go_wp2
 go_end0
 go_wp2
theorem qyi (P n:Nat) (w:World) (hc:w.cell? ⟨P,6,none⟩=some (.int .i64 n)):
  Calls prog 68 #[.pointer (some ⟨P,0,none⟩)] w fun e w'=>e=.returned (.bool (decide (0<n)))/\w'=w:=by
 go_enter func68,ntmps68
 go_wp2_with fail
 refine (qg7 ⟨P,6,none⟩ n _ hc rfl).mono ?_;rintro e w1 ⟨rfl,rfl⟩;clear hc;by_cases h0:0<n
 ·have h1:(n:Int) > 0:=by omega
  go_wp2;go_ret;exact ⟨qaf (decide_eq_true h0).symm,rfl⟩
 ·have h1:¬ (n:Int) > 0:=by omega
  go_wp2;go_ret;exact ⟨qaf (decide_eq_false h0).symm,rfl⟩
structure PicL (w:World) (P:Nat) (l:Int) (v0 v1 v2 v3:Value) (n:Int):Prop where
 l0:w.cell? ⟨P,0,none⟩=some (.int .i32 l)
 s0:w.cell? ⟨P,2,none⟩=some v0
 s1:w.cell? ⟨P,3,none⟩=some v1
 s2:w.cell? ⟨P,4,none⟩=some v2
 s3:w.cell? ⟨P,5,none⟩=some v3
 dr:w.cell? ⟨P,6,none⟩=some (.int .i64 n)
 fz:∀ j,w.frozen? ⟨P,j,none⟩=false
section
variable {w w':World} {P:Nat} {l l' n n':Int} {v0 v1 v2 v3:Value}
theorem PicL.blk (h:PicL w P l v0 v1 v2 v3 n) (hb:w'.heap[P]? = w.heap[P]?):PicL w' P l v0 v1 v2 v3 n:=by
 have hc:∀ a,w'.cell? ⟨P,a,none⟩=w.cell? ⟨P,a,none⟩:=fun a=>zH hb;exact ⟨(hc _).trans h.l0,(hc _).trans h.s0,(hc _).trans h.s1,(hc _).trans h.s2,(hc _).trans h.s3,(hc _).trans h.dr,fun j=>(zI hb).trans (h.fz j)⟩
theorem PicL.setL (h:PicL w P l v0 v1 v2 v3 n):PicL (w.setCell ⟨P,0,none⟩ (.int .i32 l')) P l' v0 v1 v2 v3 n:=by
 have hc:∀ i,0≠i->(w.setCell ⟨P,0,none⟩ (.int .i32 l')).cell? ⟨P,i,none⟩=w.cell? ⟨P,i,none⟩:=fun i hi=>World.cell?_setCell_other _ _ _ _ fun e=>hi (by injection e);exact ⟨World.cell?_setCell_same _ _ _ h.l0,(hc _ (by omega)).trans h.s0,(hc _ (by omega)).trans h.s1,(hc _ (by omega)).trans h.s2,(hc _ (by omega)).trans h.s3,(hc _ (by omega)).trans h.dr,fun j=>by rw [World.frozen?_setCell];exact h.fz j⟩
theorem PicL.setN (h:PicL w P l v0 v1 v2 v3 n):PicL (w.setCell ⟨P,6,none⟩ (.int .i64 n')) P l v0 v1 v2 v3 n':=by
 have hc:∀ i,6≠i->(w.setCell ⟨P,6,none⟩ (.int .i64 n')).cell? ⟨P,i,none⟩=w.cell? ⟨P,i,none⟩:=fun i hi=>World.cell?_setCell_other _ _ _ _ fun e=>hi (by injection e);exact ⟨(hc _ (by omega)).trans h.l0,(hc _ (by omega)).trans h.s0,(hc _ (by omega)).trans h.s1,(hc _ (by omega)).trans h.s2,(hc _ (by omega)).trans h.s3,World.cell?_setCell_same _ _ _ h.dr,fun j=>by rw [World.frozen?_setCell];exact h.fz j⟩
end
theorem qde.l {w:World} {P:Nat} {v0 v1 v2 v3:Value} {n:Int} (h:qde w P v0 v1 v2 v3 n):PicL w P 0 v0 v1 v2 v3 n:=⟨h.l0,h.s0,h.s1,h.s2,h.s3,h.dr,h.fz⟩
theorem qxl (P:Nat) (on:Bool) (ca oa ka:Option Addr) (cn cc ol oc kn kc n:Nat) (w:World) (h:PicL w P 0 (.bool on) (.slice ca cn cc) (.slice oa ol oc) (.slice ka kn kc) n):
  Calls prog 31 #[.pointer (some ⟨P,0,none⟩)] w fun e w'=>e=.returned (.agg #[.bool (decide (0<n)),.slice ca cn cc,.slice oa ol oc,.slice ka kn kc])/\w.grownBy w' (some P):=by
 have hP:P<w.heap.size:=zJ w _ h.l0;have ba:=zP w (zQ4);have hc:∀ i,(w.alloc (zQ4)).cell? ⟨P,i,none⟩=w.cell? ⟨P,i,none⟩:=fun i=>(qap ba).1 _ _ hP;have hf:∀ i,(w.alloc (zQ4)).frozen? ⟨P,i,none⟩=w.frozen? ⟨P,i,none⟩:=fun i=>(qap ba).2 _ _ hP;have HA:Hid (PicL (w.alloc (zQ4)) P 0 (.bool on) (.slice ca cn cc) (.slice oa ol oc) (.slice ka kn kc) n):=⟨(hc 0).trans h.l0,(hc 2).trans h.s0,(hc 3).trans h.s1,(hc 4).trans h.s2,(hc 5).trans h.s3,(hc 6).trans h.dr,fun j=>(hf j).trans (h.fz j)⟩
 have HR:Hid (BoxC (w.alloc (zQ4)) w.heap.size (.bool false) nS nS nS/\∀ j,(w.alloc (zQ4)).frozen? ⟨w.heap.size,j,none⟩=false):=⟨BoxC.new w _ _ _ _ _,fun j=>yA _ _ _ _ rfl⟩
 have GA:Hid (w.grownBy (w.alloc (zQ4)) (some P)):=World.grownBy_alloc w _ (some P);have hne:w.heap.size≠P:=by omega
 clear h hc hf ba
 go_enter_defers func31,ntmps31
 go_wp2_with fail
 generalize w.alloc (zQ4)=wA at *;refine (qlf P 0 wA HA.l0 (HA.fz 0)).mono ?_;rintro e w1 ⟨rfl,rfl⟩;have hc0:∀ i,0≠i->(wA.setCell ⟨P,0,none⟩ (.int .i32 1)).cell? ⟨P,i,none⟩=wA.cell? ⟨P,i,none⟩:=fun i hi=>World.cell?_setCell_other _ _ _ _ fun e=>hi (by injection e);have s0:=(hc0 2 (by omega)).trans HA.s0;have s6:=(hc0 6 (by omega)).trans HA.dr
 have X1:Hid (w.grownBy (wA.setCell ⟨P,0,none⟩ (.int .i32 1)) (some P)/\(wA.setCell ⟨P,0,none⟩ (.int .i32 1)).cell? ⟨P,0,none⟩=some (.int .i32 1)/\(wA.setCell ⟨P,0,none⟩ (.int .i32 1)).cell? ⟨P,3,none⟩=some (.slice ca cn cc)/\(wA.setCell ⟨P,0,none⟩ (.int .i32 1)).cell? ⟨P,4,none⟩=some (.slice oa ol oc)/\(wA.setCell ⟨P,0,none⟩ (.int .i32 1)).cell? ⟨P,5,none⟩=some (.slice ka kn kc)/\(∀ j,(wA.setCell ⟨P,0,none⟩ (.int .i32 1)).frozen? ⟨P,j,none⟩=false)/\BoxC (wA.setCell ⟨P,0,none⟩ (.int .i32 1)) w.heap.size (.bool false) nS nS nS/\∀ j,(wA.setCell ⟨P,0,none⟩ (.int .i32 1)).frozen? ⟨w.heap.size,j,none⟩=false):=by
  have hb:(wA.setCell ⟨P,0,none⟩ (.int .i32 1)).heap[w.heap.size]? = wA.heap[w.heap.size]?:=zN _ _ _ _ fun e=>hne e;exact ⟨zU GA.out (.inl rfl) _,World.cell?_setCell_same _ _ _ HA.l0,(hc0 3 (by omega)).trans HA.s1,(hc0 4 (by omega)).trans HA.s2,(hc0 5 (by omega)).trans HA.s3,fun j=>by rw [World.frozen?_setCell];exact HA.fz j,HR.1.blkO hb,fun j=>by rw [World.frozen?_setCell];exact HR.2 j⟩
 clear hc0 HA HR GA;generalize wA.setCell ⟨P,0,none⟩ (.int .i32 1)=w1 at *;go_wp2_with fail
 refine (qyi P n w1 s6).mono ?_;rintro e w2 ⟨rfl,rfl⟩;have f2:=X1.2.2.2.2.2.1 2;go_upto_region 4 with fail
 have hk:∀ i,2≠i->(w2.setCell ⟨P,2,none⟩ (.bool (decide (0<n)))).cell? ⟨P,i,none⟩=w2.cell? ⟨P,i,none⟩:=fun i hi=>World.cell?_setCell_other _ _ _ _ fun e=>hi (by injection e);have hbP:(w2.setCell ⟨P,2,none⟩ (.bool (decide (0<n)))).heap[w.heap.size]? = w2.heap[w.heap.size]?:=zN _ _ _ _ fun e=>hne e;have t2:(w2.setCell ⟨P,2,none⟩ (.bool (decide (0<n)))).cell? ⟨P,2,none⟩=some (.bool (decide (0<n))):=World.cell?_setCell_same _ _ _ s0;have t3:=(hk 3 (by omega)).trans X1.2.2.1;have t4:=(hk 4 (by omega)).trans X1.2.2.2.1;have t5:=(hk 5 (by omega)).trans X1.2.2.2.2.1;have l0:=(hk 0 (by omega)).trans X1.2.1;have f0:(w2.setCell ⟨P,2,none⟩ (.bool (decide (0<n)))).frozen? ⟨P,0,none⟩=false:=by rw [World.frozen?_setCell];exact X1.2.2.2.2.2.1 0
 have hbx:=X1.2.2.2.2.2.2.1.blkO hbP;have rf:∀ j,(w2.setCell ⟨P,2,none⟩ (.bool (decide (0<n)))).frozen? ⟨w.heap.size,j,none⟩=false:=fun j=>by rw [World.frozen?_setCell];exact X1.2.2.2.2.2.2.2 j
 have G3:Hid (w.grownBy (w2.setCell ⟨P,2,none⟩ (.bool (decide (0<n)))) (some P)):=zU X1.1 (.inl rfl) _;clear hk hbP s0 s6 f2 X1;generalize w2.setCell ⟨P,2,none⟩ (.bool (decide (0<n)))=w3 at *;obtain ⟨B,hB⟩:∃ B,decide (0<n)=B:=⟨_,rfl⟩
 have HB:Hid (decide (0<n)=B):=hB;rw [hB] at t2;clear hB
 have hl0:((((w3.setCell ⟨w.heap.size,0,none⟩ (.bool B)).setCell ⟨w.heap.size,1,none⟩ (.slice ca cn cc)).setCell ⟨w.heap.size,2,none⟩ (.slice oa ol oc)).setCell ⟨w.heap.size,3,none⟩ (.slice ka kn kc)).cell? ⟨P,0,none⟩=some (.int .i32 1):=by
  rw [World.cell?_setCell_other _ _ _ _ (fun e=>hne (by injection e)),World.cell?_setCell_other _ _ _ _ (fun e=>hne (by injection e)),World.cell?_setCell_other _ _ _ _ (fun e=>hne (by injection e)),World.cell?_setCell_other _ _ _ _ (fun e=>hne (by injection e))];exact l0
 have hf0:((((w3.setCell ⟨w.heap.size,0,none⟩ (.bool B)).setCell ⟨w.heap.size,1,none⟩ (.slice ca cn cc)).setCell ⟨w.heap.size,2,none⟩ (.slice oa ol oc)).setCell ⟨w.heap.size,3,none⟩ (.slice ka kn kc)).frozen? ⟨P,0,none⟩=false:=by
  simp only [World.frozen?_setCell];exact f0
 have X4 : Hid (w.grownBy ((((w3.setCell ⟨w.heap.size, 0, none⟩ (.bool B)).setCell ⟨w.heap.size, 1, none⟩ (.slice ca cn cc)).setCell ⟨w.heap.size, 2, none⟩ (.slice oa ol oc)).setCell ⟨w.heap.size, 3, none⟩ (.slice ka kn kc)) (some P) ∧ BoxC ((((w3.setCell ⟨w.heap.size, 0, none⟩ (.bool B)).setCell ⟨w.heap.size, 1, none⟩ (.slice ca cn cc)).setCell ⟨w.heap.size, 2, none⟩ (.slice oa ol oc)).setCell ⟨w.heap.size, 3, none⟩ (.slice ka kn kc)) w.heap.size (.bool B) (.slice ca cn cc) (.slice oa ol oc) (.slice ka kn kc)) := ⟨by
  iterate 4 (refine zU ?_ (.inr (nA _)) _)
  exact G3.out,qmz hbx _ _ _ _⟩
 obtain ⟨r0,r1,r2,r3⟩:=hbx;go_wp2;clear r0 r1 r2 r3 rf t2 t3 t4 t5 l0 f0 G3;generalize ((((w3.setCell ⟨w.heap.size,0,none⟩ (.bool B)).setCell ⟨w.heap.size,1,none⟩ (.slice ca cn cc)).setCell ⟨w.heap.size,2,none⟩ (.slice oa ol oc)).setCell ⟨w.heap.size,3,none⟩ (.slice ka kn kc))=w4 at *;refine leaves_cons (f:=79) (args:=#[.pointer (some ⟨P,0,none⟩)]) (by simp) (by simp [go_sem]) ?_;refine (qc1 ⟨P,0,none⟩ .returning _ hl0 hf0).mono ?_;rintro e u' w'' ⟨rfl,rfl,rfl⟩;obtain ⟨r0,r1,r2,r3⟩:=X4.2.blkO (w':=w4.setCell ⟨P,0,none⟩ (.int .i32 0)) (zN _ _ _ _ fun e=>hne e);refine ⟨.agg #[.bool B,.slice ca cn cc,.slice oa ol oc,.slice ka kn kc],by simp [results,results31,go_sem,r0,r1,r2,r3],?_,zU X4.1 (.inl rfl) _⟩;rw [HB.out]
theorem qwl (h:Nat->Bool) (n j:Nat) (x:Bool):(fBo h n).set j (.bool x)=fBo (fun i=>if i=j then x else h i) n:=by
 apply List.ext_getElem?;intro i;rw [List.getElem?_set];by_cases hi:i<n
 ·rw [qes (h:=fun i=>if i=j then x else h i) hi,qes (h:=h) hi]
  by_cases e:j=i
  ·rw [nC e,nC e.symm,nC (by rw [qdy];omega)]
  ·rw [nB e,nB fun h=>e h.symm]
 ·rw [List.getElem?_eq_none (l:=fBo (fun i=>if i=j then x else h i) n) (by rw [qdy];omega),List.getElem?_eq_none (l:=fBo h n) (by rw [qdy];omega)]
  by_cases e:j=i
  ·rw [nC e,nB (by rw [qdy];omega)]
  ·rw [nB e]
section
variable {W1:World} {B:Nat} {y:Sy} {q:Sh} {fs fc fo fk:Bool} {vs vc vo vk v:Value} {X:Nat->Prop} {w w':World}
theorem PrL.openAt {g cap:Nat} (h:PrL W1 W1.heap.size y q fs fc true fk vs vc (sG g q.ol cap) vk X w) (j:Nat) (x:Bool):PrL W1 W1.heap.size y { q with oH:=fun i=>if i=j then x else q.oH i } fs fc true fk vs vc (sG g q.ol cap) vk X (w.setCell ⟨g,j,none⟩ (.bool x)):=by
 obtain ⟨c,h1,h2,h3,h4,h5⟩:=h.ow;obtain ⟨oc,hc⟩:=h3 rfl;have hg:=hc g rfl
 have hk : ∀ k i, c k = i → i ≠ 6 → (w.setCell ⟨g, j, none⟩ (.bool x)).heap[k]? = w.heap[k]? := fun k i hc' hi => Below.heap_setCell _ _ _ _ fun e => hi (by
  have e2:k=g:=e;rw [<- hc',e2]
  exact hg.2)
 refine ⟨h.be.setCell hg.1 _,h.hB,c,fun e=>?_,fun e=>?_,fun _=>?_,fun e=>?_,fun k hX'=>⟨by simpa using (h5 k hX').1,(h5 k hX').2⟩⟩
 ·obtain ⟨vp,v2,vw,vh,up,us,uw,uh,ev,o⟩:=h1 e
  exact ⟨vp,v2,vw,vh,up,us,uw,uh,ev,o.p.keep fun k h _=>hk k 1 h.2 (by decide),o.s.keep fun k h _=>hk k 2 h.2 (by decide),o.t.keep fun k h _=>hk k 3 h.2 (by decide),o.h.keep fun k h _=>hk k 4 h.2 (by decide)⟩
 ·obtain ⟨o,hc⟩:=h2 e
  exact ⟨qab o fun k h=>hk k 5 (hc k h).2 (by decide),hc⟩
 ·have:=(World.ownsRow.stored oc j (.bool x)).1
  rw [qwl] at this;exact ⟨this,hc⟩
 ·obtain ⟨uk,o⟩:=h4 e
  exact ⟨uk,o.keep fun k h _=>hk k 7 h.2 (by decide)⟩
end
def drO (q:Sh) (p j:Nat):Nat->Bool:=fun i=>if i % q.cn=p/\i / q.cn<j then true else q.oH i
theorem qrk (q:Sh) {p j:Nat} (hp:p<q.cn):(fun i=>if i=j*q.cn+p then true else drO q p j i)=drO q p (j+1):=funext fun i=>by
 have hd:=Nat.div_add_mod i q.cn;unfold drO;by_cases h:i=j*q.cn+p
 ·have h1:i % q.cn=p:=by rw [h,Nat.mul_add_mod_self_right,Nat.mod_eq_of_lt hp]
  have h2:i / q.cn=j:=by rw [h,Nat.mul_comm,Nat.mul_add_div (by omega),Nat.div_eq_of_lt hp,nP]
  rw [nC h,nC ⟨h1,by omega⟩]
 ·rw [nB h]
  by_cases h1:i % q.cn=p
  ·by_cases h2:i / q.cn<j
   ·rw [nC ⟨h1,h2⟩,nC ⟨h1,by omega⟩]
   ·rw [nB fun h3=>h2 h3.2]
    have h4 : ¬ i / q.cn < j + 1 := fun h5 => h (by
     have h6:i / q.cn=j:=by omega
     rw [h6,h1,Nat.mul_comm] at hd
     exact hd.symm)
    rw [nB fun h3=>h4 h3.2]
  ·rw [nB fun h3=>h1 h3.1,nB fun h3=>h1 h3.1]
theorem qrl (q:Sh) (p:Nat):drO q p 0=q.oH:=funext fun _=>nB fun h=>Nat.not_lt_zero _ h.2
section
variable {W1:World} {B:Nat} {y:Sy} {q:Sh} {fs fc fo fk:Bool} {vs vc vo vk v v':Value} {X:Nat->Prop} {w w1 w':World}
theorem OwnS.keepC {c:Nat->Nat} {vp v2 vw vh:Value} {up us uw uh:Nat->Value} {i:Nat} (o:OwnS false w B c y vp v2 vw vh up us uw uh) (hi:5<=i) (hk:∀ k,k<w.heap.size->c k≠i->w'.heap[k]? = w.heap[k]?):OwnS false w' B (mixC c w.heap.size fun _=>i) y vp v2 vw vh up us uw uh:=
 ⟨(o.p.mono fun k h hl=>h.mixL hl).keep fun k h hl=>hk k hl (by have:=h.2;unfold mixC at this;rw [nC hl] at this;omega),(o.s.mono fun k h hl=>h.mixL hl).keep fun k h hl=>hk k hl (by have:=h.2;unfold mixC at this;rw [nC hl] at this;omega),(o.t.mono fun k h hl=>h.mixL hl).keep fun k h hl=>hk k hl (by have:=h.2;unfold mixC at this;rw [nC hl] at this;omega),(o.h.mono fun k h hl=>h.mixL hl).keep fun k h hl=>hk k hl (by have:=h.2;unfold mixC at this;rw [nC hl] at this;omega)⟩
theorem PrL.cutGrow (h:PrL W1 W1.heap.size y q fs true fo fk vs v vo vk X w) {n':Nat} {H':Nat->Int} (o:w'.ownsRow 0 3 1 v' n' (fZ H' n')) (g:w.grownBy w' v.ownBlock) (hb:∀ k,v'.ownBlock=some k->v.ownBlock=some k\/w.heap.size<=k):PrL W1 W1.heap.size y { q with cn:=n',cH:=H' } fs true fo fk vs v' vo vk X w':=by
 obtain ⟨c,h1,h2,h3,h4,h5⟩:=h.ow;obtain ⟨oc,hc⟩:=h2 rfl;have hs:=g.size;have hk:∀ k,k<w.heap.size->c k≠5->w'.heap[k]? = w.heap[k]?:=fun k hl hne=>g.block k hl fun e=>hne (hc k e.symm).2;have hW:=h.be.size;refine ⟨Below.grown h.be g hW (fun k hk=>(hc k hk).1),h.hB,mixC c w.heap.size fun _=>5,fun e=>?_,fun _=>⟨o,fun k hk'=>?_⟩,fun e=>?_,fun e=>?_,fun k hX=>⟨zL (h5 k hX).1 hs,(nC (h5 k hX).1).trans (h5 k hX).2⟩⟩
 ·obtain ⟨vp,v2,vw,vh,up,us,uw,uh,ev,o⟩:=h1 e
  exact ⟨vp,v2,vw,vh,up,us,uw,uh,ev,o.keepC (by decide) hk⟩
 ·rcases hb k hk' with e | e
  ·exact (hc k e).mixL (oc.lt k e).2
  ·exact Cl.mixR ⟨e,rfl⟩ hW
 ·obtain ⟨o,ho⟩:=h3 e
  exact ⟨qab o fun k h=>hk k (World.ownsRow.lt o k h).2 (by rw [(ho k h).2];decide),fun k h=>(ho k h).mixL (World.ownsRow.lt o k h).2⟩
 ·obtain ⟨uk,o⟩:=h4 e
  exact ⟨uk,(o.mono fun k h hl=>h.mixL hl).keep fun k h hl=>hk k hl (by have:=h.2;unfold mixC at this;rw [nC hl] at this;omega)⟩
theorem PrL.openGrow (h:PrL W1 W1.heap.size y q fs fc true fk vs vc v vk X w) {n':Nat} {H':Nat->Bool} (o:OwnQ w' 0 v' n' H') (g:w.grownBy w' v.ownBlock) (hb:∀ k,v'.ownBlock=some k->v.ownBlock=some k\/w.heap.size<=k):PrL W1 W1.heap.size y { q with ol:=n',oH:=H' } fs fc true fk vs vc v' vk X w':=by
 obtain ⟨c,h1,h2,h3,h4,h5⟩:=h.ow;obtain ⟨oc,hc⟩:=h3 rfl;have hs:=g.size;have hk:∀ k,k<w.heap.size->c k≠6->w'.heap[k]? = w.heap[k]?:=fun k hl hne=>g.block k hl fun e=>hne (hc k e.symm).2;have hW:=h.be.size;refine ⟨Below.grown h.be g hW (fun k hk=>(hc k hk).1),h.hB,mixC c w.heap.size fun _=>6,fun e=>?_,fun e=>?_,fun _=>⟨o,fun k hk'=>?_⟩,fun e=>?_,fun k hX=>⟨zL (h5 k hX).1 hs,(nC (h5 k hX).1).trans (h5 k hX).2⟩⟩
 ·obtain ⟨vp,v2,vw,vh,up,us,uw,uh,ev,o⟩:=h1 e
  exact ⟨vp,v2,vw,vh,up,us,uw,uh,ev,o.keepC (by decide) hk⟩
 ·obtain ⟨o,ho⟩:=h2 e
  exact ⟨qab o fun k h=>hk k (o.lt k h).2 (by rw [(ho k h).2];decide),fun k h=>(ho k h).mixL (o.lt k h).2⟩
 ·rcases hb k hk' with e | e
  ·exact (hc k e).mixL (World.ownsRow.lt oc k e).2
  ·exact Cl.mixR ⟨e,rfl⟩ hW
 ·obtain ⟨uk,o⟩:=h4 e
  exact ⟨uk,(o.mono fun k h hl=>h.mixL hl).keep fun k h hl=>hk k hl (by have:=h.2;unfold mixC at this;rw [nC hl] at this;omega)⟩
theorem PrL.keptPush (h:PrL W1 W1.heap.size y q fs fc fo true vs vc vo v X w) {u':Value} (b1:Below w.heap.size w w1) (hu:w1.ownsRow w.heap.size 3 1 u' (q.kL q.kn) (fZ (q.kH q.kn) (q.kL q.kn))) {P0:Nat->Prop} {u0:Nat->Value} (ok0:LN false w P0 v q.kn u0 q.kL q.kH) (hv:w'.ownsRow 0 28 1 v' (q.kn+1) ((List.range q.kn).map u0 ++ [u'])) (g:w1.grownBy w' v.ownBlock) (hb:∀ k,v'.ownBlock=some k->v.ownBlock=some k\/w1.heap.size<=k):PrL W1 W1.heap.size y { q with kn:=q.kn+1 } fs fc fo true vs vc vo v' X w':=by
 obtain ⟨c,h1,h2,h3,h4,h5⟩:=h.ow;obtain ⟨uk,ok⟩:=h4 rfl
 have eu:(List.range q.kn).map u0=(List.range q.kn).map uk:=List.map_congr_left fun i hi=>by
  have hi':=List.mem_range.1 hi;obtain ⟨g1,c1,e1,-,-,x1,-⟩:=ok.cell hi';obtain ⟨g2,c2,e2,-,-,x2,-⟩:=ok0.cell hi';have e3:=e1.symm.trans e2;simp at e3;obtain ⟨rfl,-⟩:=e3;exact Option.some.inj (x2.symm.trans x1)
 rw [eu] at hv;have hs1:=b1.size;have hs2:=g.size;have hs:w.heap.size<=w'.heap.size:=zO hs1 hs2;have hk:∀ k,k<w.heap.size->c k≠7->w'.heap[k]? = w.heap[k]?:=fun k hl hne=>(g.block k (zL hl hs1) fun e=>hne (ok.rb k e.symm).2).trans (b1.block k hl);have hW:=h.be.size;refine ⟨Below.grown (h.be.trans (b1.mono hW)) g (zO hW hs1) (fun k hk=>(ok.rb k hk).1),h.hB,mixC c w.heap.size fun _=>7,fun e=>?_,fun e=>?_,fun e=>?_,fun _=>?_,fun k hX=>⟨zL (h5 k hX).1 hs,(nC (h5 k hX).1).trans (h5 k hX).2⟩⟩
 ·obtain ⟨vp,v2,vw,vh,up,us,uw,uh,ev,o⟩:=h1 e
  exact ⟨vp,v2,vw,vh,up,us,uw,uh,ev,o.keepC (by decide) hk⟩
 ·obtain ⟨o,ho⟩:=h2 e
  exact ⟨qab o fun k h=>hk k (o.lt k h).2 (by rw [(ho k h).2];decide),fun k h=>(ho k h).mixL (o.lt k h).2⟩
 ·obtain ⟨o,ho⟩:=h3 e
  exact ⟨qab o fun k h=>hk k (World.ownsRow.lt o k h).2 (by rw [(ho k h).2];decide),fun k h=>(ho k h).mixL (World.ownsRow.lt o k h).2⟩
 ·exact ⟨_,ok.push b1 hu (fun h=>by rcases h with h | h <;> cases h) hv g hb (fun k h hl=>h.mixL hl) fun k hl _=>Cl.mixR ⟨hl,rfl⟩ hW⟩
theorem PrL.ne5 (h:PrL W1 B y q fs true fo fk vs v vo vk X w) {N:Nat} (hX:X N):some N≠v.ownBlock:=fun e=>by
 obtain ⟨c,-,h2,-,-,h5⟩:=h.ow;have:=((h2 rfl).2 N e.symm).2;rw [(h5 N hX).2] at this;cases this
theorem PrL.ne6 (h:PrL W1 B y q fs fc true fk vs vc v vk X w) {N:Nat} (hX:X N):some N≠v.ownBlock:=fun e=>by
 obtain ⟨c,-,-,h2,-,h5⟩:=h.ow;have:=((h2 rfl).2 N e.symm).2;rw [(h5 N hX).2] at this;cases this
theorem PrL.ne7 (h:PrL W1 B y q fs fc fo true vs vc vo v X w) {N:Nat} (hX:X N):some N≠v.ownBlock:=fun e=>by
 obtain ⟨c,-,-,-,h2,h5⟩:=h.ow;obtain ⟨uk,o⟩:=h2 rfl;have:=(o.rb N e.symm).2;rw [(h5 N hX).2] at this;cases this
theorem PrL.put8 (h:PrL W1 B y q fs fc fo fk vs vc vo vk X w) {N:Nat} (hX:X N) (hN:W1.heap.size<=N) (c0 c1 c2 c3 c4 c5 c6 c7:Value):PrL W1 B y q fs fc fo fk vs vc vo vk X (set8 w N c0 c1 c2 c3 c4 c5 c6 c7):=(((((((h.put hX hN _ _).put hX hN _ _).put hX hN _ _).put hX hN _ _).put hX hN _ _).put hX hN _ _).put hX hN _ _).put hX hN _ _
end
theorem qwj (W1:World) (y:Sy) (q:Sh) (fs fk:Bool) (vs vk:Value) (X:Nat->Prop) (w:World) (P p n g5 g6 c5 c6:Nat) (ev:Int) (v0 v3:Value) (F:PrL W1 W1.heap.size y q fs true true fk vs (sG g5 q.cn c5) (sG g6 q.ol c6) vk X w) (hX:X P) (hP:W1.heap.size<=P) (h:PicL w P 0 v0 (sG g5 q.cn c5) (sG g6 q.ol c6) v3 n) (hp:p<q.cn) (hc:q.cn<=4) (ho:q.ol=q.cn*q.cn) (hn:n<=100):
  Calls prog 76 #[.pointer (some ⟨P,0,none⟩),.int .i64 p,.int .i64 ev] w fun e w'=>e=.returned (.tuple #[])/\PicL w' P 0 v0 (sG g5 q.cn c5) (sG g6 q.ol c6) v3 (n+1:Nat)/\PrL W1 W1.heap.size y { q with cH:=fun i=>if i=p then ev else q.cH i,oH:=drO q p q.cn } fs true true fk vs (sG g5 q.cn c5) (sG g6 q.ol c6) vk X w'/\∀ k,k≠P->k≠g5->k≠g6->w'.heap[k]? = w.heap[k]?:=by
 have HP:Hid (X P/\W1.heap.size<=P):=⟨hX,hP⟩
 have HQ:Hid (p<q.cn/\q.cn<=4/\q.ol=q.cn*q.cn):=⟨hp,hc,ho⟩
 have hc':(q.cn:Int)<=4:=by omega
 have hp':(p:Int)<(q.cn:Int):=by omega
 have hn':(n:Int)<=100:=by omega
 have X0:Hid (PrL W1 W1.heap.size y q fs true true fk vs (sG g5 q.cn c5) (sG g6 q.ol c6) vk X w/\PicL w P 0 v0 (sG g5 q.cn c5) (sG g6 q.ol c6) v3 n):=⟨F,h⟩
 clear F hX hP h ho
 go_enter_defers func76,ntmps76
 go_wp2_with fail
 refine (qlf P 0 w X0.2.l0 (X0.2.fz 0)).mono ?_;rintro e w1 ⟨rfl,rfl⟩;have X1:Hid (PrL W1 W1.heap.size y q fs true true fk vs (sG g5 q.cn c5) (sG g6 q.ol c6) vk X (w.setCell ⟨P,0,none⟩ (.int .i32 1))/\PicL (w.setCell ⟨P,0,none⟩ (.int .i32 1)) P 1 v0 (sG g5 q.cn c5) (sG g6 q.ol c6) v3 n):=⟨X0.1.put HP.1 HP.2 0 _,X0.2.setL⟩
 have K1:Hid (∀ k,k≠P->k≠g5->k≠g6->(w.setCell ⟨P,0,none⟩ (.int .i32 1)).heap[k]? = w.heap[k]?):=fun k h1 _ _=>zN _ _ _ _ fun e=>h1 e;clear X0;generalize w.setCell ⟨P,0,none⟩ (.int .i32 1)=w1 at *;obtain ⟨ck,-,hC,-,-,-⟩:=X1.1.ow;have cg:=World.ownsRow.cellAt (hC rfl).1 p (by omega);rw [qs1 hp] at cg;have cf:=World.ownsRow.frozenAt (hC rfl).1 p;have s1:=X1.2.s1;go_wp2_with fail
 have h5:P≠g5:=fun e=>X1.1.ne5 HP.1 (by rw [e];rfl);have X2:Hid (PrL W1 W1.heap.size y { q with cH:=fun i=>if i=p then ev else q.cH i } fs true true fk vs (sG g5 q.cn c5) (sG g6 q.ol c6) vk X (w1.setCell ⟨g5,p,none⟩ (.int .i64 ev))/\PicL (w1.setCell ⟨g5,p,none⟩ (.int .i64 ev)) P 1 v0 (sG g5 q.cn c5) (sG g6 q.ol c6) v3 n):=⟨X1.1.cutAt p ev,X1.2.blk (zN _ _ _ _ fun e=>h5 e)⟩
 have K2:Hid (∀ k,k≠P->k≠g5->k≠g6->(w1.setCell ⟨g5,p,none⟩ (.int .i64 ev)).heap[k]? = w.heap[k]?):=fun k h1 h2 h3=>(zN _ _ _ _ fun e=>h2 e).trans (K1.out k h1 h2 h3);clear X1 hC cg cf s1 h5 K1;generalize w1.setCell ⟨g5,p,none⟩ (.int .i64 ev)=w2 at *;refine (qie ⟨P,6,none⟩ n 1 w2 X2.2.dr (X2.2.fz 6) rfl (by omega) (by omega) (by omega) (by omega)).mono ?_;rintro e w3 ⟨rfl,rfl⟩;have X3:Hid (PrL W1 W1.heap.size y { q with cH:=fun i=>if i=p then ev else q.cH i,oH:=drO q p 0 } fs true true fk vs (sG g5 q.cn c5) (sG g6 q.ol c6) vk X (w2.setCell ⟨P,6,none⟩ (.int .i64 ((n:Int)+1)))/\PicL (w2.setCell ⟨P,6,none⟩ (.int .i64 ((n:Int)+1))) P 1 v0 (sG g5 q.cn c5) (sG g6 q.ol c6) v3 ((n:Int)+1)):=⟨by rw [qrl];exact X2.1.put HP.1 HP.2 6 _,X2.2.setN⟩
 have K3:Hid (∀ k,k≠P->k≠g5->k≠g6->(w2.setCell ⟨P,6,none⟩ (.int .i64 ((n:Int)+1))).heap[k]? = w.heap[k]?):=fun k h1 h2 h3=>(zN _ _ _ _ fun e=>h1 e).trans (K2.out k h1 h2 h3);clear X2 K2;generalize w2.setCell ⟨P,6,none⟩ (.int .i64 ((n:Int)+1))=w3 at *;go_wp2_with fail
 go_loopw [34] (fun i wr=>∃ j:Nat,j<=q.cn/\i=.int .i64 j/\Hid (PrL W1 W1.heap.size y { q with cH:=fun i=>if i=p then ev else q.cH i,oH:=drO q p j } fs true true fk vs (sG g5 q.cn c5) (sG g6 q.ol c6) vk X wr/\PicL wr P 1 v0 (sG g5 q.cn c5) (sG g6 q.ol c6) v3 ((n:Int)+1))/\Hid (∀ k,k≠P->k≠g5->k≠g6->wr.heap[k]? = w.heap[k]?)) (fun i _=>q.cn - (intOf i).toNat)
 case atStart=>exact ⟨0,nD _,rfl,X3,K3⟩
 case round=>
  clear X3 K3;obtain ⟨j,hj,rfl,HJ,KJ⟩:=hrel;by_cases hlt:j<q.cn
  ·have hlt':(j:Int)<(q.cn:Int):=by omega
   obtain ⟨M,hM⟩:∃ M,j*q.cn=M:=⟨_,rfl⟩
   have hmul:(j:Int)*(q.cn:Int)=(M:Int):=by rw [<- hM];simp
   have hMo:M+p<q.ol:=by
    rw [HQ.2.2,<- hM];exact zL (Nat.add_lt_add_left HQ.1 _) (by rw [<- Nat.succ_mul];exact Nat.mul_le_mul_right _ hlt)
   have ho16:q.ol<=16:=by rw [HQ.2.2];exact Nat.mul_le_mul HQ.2.1 HQ.2.1
   have hMo':(M:Int)+(p:Int)<(q.ol:Int):=by omega
   have ho16':(q.ol:Int)<=16:=by omega
   obtain ⟨ck,-,-,hO,-,-⟩:=HJ.1.ow;have oo:OwnQ wr 0 (sG g6 q.ol c6) q.ol (drO q p j):=(hO rfl).1;have cg:=World.ownsRow.cellAt oo (M+p) (by omega);rw [qes hMo] at cg;have cf:=World.ownsRow.frozenAt oo (M+p);have s2:=HJ.2.s2;have h6:P≠g6:=fun e=>HJ.1.ne6 HP.1 (by rw [e];rfl)
   have X4 : Hid (PrL W1 W1.heap.size y { q with cH := fun i => if i = p then ev else q.cH i, oH := drO q p (j + 1) } fs true true fk vs (.slice (some ⟨g5, 0, none⟩) q.cn c5) (.slice (some ⟨g6, 0, none⟩) q.ol c6) vk X (wr.setCell ⟨g6, M + p, none⟩ (.bool true)) ∧ PicL (wr.setCell ⟨g6, M + p, none⟩ (.bool true)) P 1 v0 (.slice (some ⟨g5, 0, none⟩) q.cn c5) (.slice (some ⟨g6, 0, none⟩) q.ol c6) v3 ((n : Int) + 1)) := ⟨by
    have h9:=PrL.openAt HJ.1 (M+p) true;rw [<- hM] at h9 ⊢;rw [<- qrk q HQ.1]
    exact h9,HJ.2.blk (zN _ _ _ _ fun e=>h6 e)⟩
   have K4:Hid (∀ k,k≠P->k≠g5->k≠g6->(wr.setCell ⟨g6,M+p,none⟩ (.bool true)).heap[k]? = w.heap[k]?):=fun k h1 h2 h3=>(zN _ _ _ _ fun e=>h3 e).trans (KJ.out k h1 h2 h3);clear hO oo h6 HJ hM KJ;go_wp2;go_roundw
   case rel=>exact ⟨j+1,by omega,by go_num,X4,K4⟩
   case measure=>simp [intOf];omega
  ·have hjn:j=q.cn:=by omega
   subst hjn;have l0:=HJ.2.l0;have f0:=HJ.2.fz 0;go_wp2;refine leaves_cons (f:=79) (args:=#[.pointer (some ⟨P,0,none⟩)]) (by simp) (by simp [go_sem]) ?_;refine (qc1 ⟨P,0,none⟩ .returning _ l0 f0).mono ?_;rintro e u' w'' ⟨rfl,rfl,rfl⟩;exact ⟨_,results_none rfl _ _ _,rfl,HJ.2.setL,HJ.1.put HP.1 HP.2 0 _,fun k h1 h2 h3=>(zN _ _ _ _ fun e=>h1 e).trans (KJ.out k h1 h2 h3)⟩
def Sy.wayAt (y:Sy) (J m:Nat) (H':Nat->I2):Sy:={ y with wL:=fun j=>if j=J then m else y.wL j,wH:=fun j=>if j=J then H' else y.wH j }
section
variable {W1:World} {B:Nat} {y:Sy} {q:Sh} {fc fo fk:Bool} {vp v2 vh vc vo vk:Value} {X:Nat->Prop} {w w1:World}
theorem PrL.wayPut {g cap J m:Nat} {u':Value} {H':Nat->I2} (h:PrL W1 W1.heap.size y q true fc fo fk (.agg #[vp,v2,.slice (some ⟨g,0,none⟩) y.wn cap,vh]) vc vo vk X w) (hJ:J<y.wn) (b1:Below w.heap.size w w1) (hu:w1.ownsRow w.heap.size 74 2 u' m (fT H' m)):PrL W1 W1.heap.size (y.wayAt J m H') q true fc fo fk (.agg #[vp,v2,.slice (some ⟨g,0,none⟩) y.wn cap,vh]) vc vo vk X (w1.setCell ⟨g,J,none⟩ u'):=by
 obtain ⟨c,h1,h2,h3,h4,h5⟩:=h.ow;obtain ⟨p0,s0,t0,e0,up,us,uw,uh,ev,o⟩:=h1 rfl;simp only [Value.agg.injEq,Array.mk.injEq,List.cons.injEq,and_true] at ev;obtain ⟨rfl,rfl,rfl,rfl⟩:=ev;have hg:=o.t.rb g rfl;have hgl:=(o.t.row.lt g rfl).2;have hs1:=b1.size;have hW:=h.be.size
 have hk : ∀ k, k < w.heap.size → c k ≠ 3 → (w1.setCell ⟨g, J, none⟩ u').heap[k]? = w.heap[k]? := fun k hl hne => (Below.heap_setCell _ _ _ _ fun e => hne (by
  have e2:k=g:=e;rw [e2]
  exact hg.2)).trans (b1.block k hl)
 have ht:=(o.t.put hJ hs1 (fun k hl _=>b1.block k hl) (hu.mono (nD _)) (fun h=>by rcases h with h | h <;> cases h) (fun k hk=>.inr (hu.lt k hk).1) (P':=Cl W1.heap.size (mixC c w.heap.size fun _=>3) 3) (fun k h hl=>h.mixL hl) (fun k hl _=>Cl.mixR ⟨hl,rfl⟩ hW))
 have hs:w.heap.size<=(w1.setCell ⟨g,J,none⟩ u').heap.size:=by simpa using hs1
 refine ⟨(h.be.trans (b1.mono hW)).setCell hg.1 _,h.hB,mixC c w.heap.size fun _=>3,fun _=>⟨_,_,_,_,up,us,(fun j=>if j=J then u' else uw j),uh,rfl,⟨(o.p.mono fun k h hl=>h.mixL hl).keep fun k h hl=>hk k hl (by have:=h.2;unfold mixC at this;rw [nC hl] at this;omega),(o.s.mono fun k h hl=>h.mixL hl).keep fun k h hl=>hk k hl (by have:=h.2;unfold mixC at this;rw [nC hl] at this;omega),?_,(o.h.mono fun k h hl=>h.mixL hl).keep fun k h hl=>hk k hl (by have:=h.2;unfold mixC at this;rw [nC hl] at this;omega)⟩⟩,fun e=>?_,fun e=>?_,fun e=>?_,fun k hX=>⟨zL (h5 k hX).1 hs,(nC (h5 k hX).1).trans (h5 k hX).2⟩⟩
 ·exact ht.castZ fun i _=>by
   show (if i=J then fT H' m else fT (y.wH i) (y.wL i))=fT (if i=J then H' else y.wH i) (if i=J then m else y.wL i)
   split <;> rfl
 ·obtain ⟨o,ho⟩:=h2 e
  exact ⟨qab o fun k h=>hk k (o.lt k h).2 (by rw [(ho k h).2];decide),fun k h=>(ho k h).mixL (o.lt k h).2⟩
 ·obtain ⟨o,ho⟩:=h3 e
  exact ⟨qab o fun k h=>hk k (World.ownsRow.lt o k h).2 (by rw [(ho k h).2];decide),fun k h=>(ho k h).mixL (World.ownsRow.lt o k h).2⟩
 ·obtain ⟨uk,o⟩:=h4 e
  exact ⟨uk,(o.mono fun k h hl=>h.mixL hl).keep fun k h hl=>hk k hl (by have:=h.2;unfold mixC at this;rw [nC hl] at this;omega)⟩
end
def Sy.HasFull (y:Sy) (p:Nat):Prop:=∃ b,b<y.pn/\12<=y.wL (p*y.pn+b)
theorem qjd (x:SysIn) (p:Nat) (w:World) (hG:SysG w x) (hp:p<x.pn) (h4:x.pn<=4) (hw:x.wn=x.pn*x.pn):
  Calls prog 28 #[x.v,.int .i64 p] w (rB w (.bool (pB (x.y.HasFull p)))):=by
 have HG:Hid (SysG w x):=hG;have h4':(x.pn:Int)<=4:=by omega
 have HX:Hid (p<x.pn/\x.pn<=4/\x.wn=x.pn*x.pn):=⟨hp,h4,hw⟩
 have X0:Hid (Below w.heap.size w (w.alloc (oQ4 x.pa x.pn x.pc x.sa x.sn x.sc x.wa x.wn x.wc x.ha x.hn x.hc))/\BoxC (w.alloc (oQ4 x.pa x.pn x.pc x.sa x.sn x.sc x.wa x.wn x.wc x.ha x.hn x.hc)) w.heap.size (.slice x.pa x.pn x.pc) (.slice x.sa x.sn x.sc) (.slice x.wa x.wn x.wc) (.slice x.ha x.hn x.hc)):=⟨(nE _ _).alloc (nA _) _,BoxC.new w _ _ _ _ _⟩
 clear hG hp hw
 go_enter func28,ntmps28
 go_upto_region 1 with fail
 generalize w.alloc (oQ4 x.pa x.pn x.pc x.sa x.sn x.sc x.wa x.wn x.wc x.ha x.hn x.hc)=W2 at *;obtain ⟨p0,p1,p2,p3⟩:=X0.2;go_wp2_with fail
 clear p0 p1 p2 p3
 go_loopw [9] (fun i wr=>∃ b:Nat,b<=x.pn/\i=.int .i64 b/\Hid (∀ j,j<b->¬ 12<=x.y.wL (p*x.y.pn+j))/\Hid (Below w.heap.size w wr/\BoxC wr w.heap.size (.slice x.pa x.pn x.pc) (.slice x.sa x.sn x.sc) (.slice x.wa x.wn x.wc) (.slice x.ha x.hn x.hc))) (fun i _=>x.pn - (intOf i).toNat)
 case atStart=>exact ⟨0,nD _,rfl,fun j hj=>absurd hj (Nat.not_lt_zero j),X0⟩
 case round=>
  clear X0;obtain ⟨b,hb,rfl,HF,X⟩:=hrel;by_cases hlt:b<x.pn
  ·have hlt':(b:Int)<(x.pn:Int):=by omega
   have hJ:p*x.pn+b<x.wn:=by
    rw [HX.2.2];exact zL (Nat.add_lt_add_left hlt _) (by rw [<- Nat.succ_mul];exact Nat.mul_le_mul_right _ HX.1)
   obtain ⟨p0,p1,p2,p3⟩:=X.2;go_wp2_with fail
   clear p0 p1 p2 p3;refine (qc8 x p b wr (HG.bw X.1) (by have:=HX.out;omega) (by have:=HX.out;omega) HX.2.1 hJ).mono ?_;rintro e w3 ⟨rfl,b3⟩;have X3:Hid (Below w.heap.size w w3/\BoxC w3 w.heap.size (.slice x.pa x.pn x.pc) (.slice x.sa x.sn x.sc) (.slice x.wa x.wn x.wc) (.slice x.ha x.hn x.hc)):=⟨X.1.trans (b3.mono X.1.size),X.2.bw b3⟩
   clear b3 X;go_wp2_with fail
   refine (qjk _ _ _ _ w3).mono ?_;rintro e w4 ⟨rfl,b4⟩;have X4:Hid (Below w.heap.size w w4/\BoxC w4 w.heap.size (.slice x.pa x.pn x.pc) (.slice x.sa x.sn x.sc) (.slice x.wa x.wn x.wc) (.slice x.ha x.hn x.hc)):=⟨X3.1.trans (b4.mono X3.1.size),X3.2.bw b4⟩
   clear b4 X3;by_cases hf:(12:Int)<=(x.wL (p*x.pn+b):Int)
   ·have HY:Hid (x.y.HasFull p):=⟨b,hlt,show 12<=x.wL (p*x.pn+b) by omega⟩
    go_wp2;go_ret;rw [qbl HY.out];exact ⟨rfl,X4.1⟩
   ·have HN:Hid (∀ j,j<b+1->¬ 12<=x.y.wL (p*x.y.pn+j)):=fun j hj=>by
     by_cases e:j=b
     ·subst e
      show ¬ 12<=x.wL (p*x.pn+j);omega
     ·exact HF.out j (by omega)
    go_wp2;go_roundw
    case rel=>exact ⟨b+1,by omega,by go_num,HN,X4⟩
    case measure=>simp [intOf];omega
  ·have hbn:b=x.pn:=by omega
   subst hbn;have HN:Hid (¬ x.y.HasFull p):=fun ⟨j,hj,h⟩=>HF.out j hj h;go_wp2;go_ret;rw [qak HN.out];exact ⟨rfl,X.1⟩
