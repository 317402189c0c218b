import Derived.Test.YtkdablcbhhphoaaGreatDoorMt29
import Derived.Test.YtkdablcbhhphoaaGreatDoorCards
namespace Go.Proofs.YtkdablcbhhphoaaGreatDoor
open Go.Proofs.Tryz
set_option maxRecDepth 100000
set_option maxHeartbeats 16000000
open Go.ChangeShapes Go.WideShapes Go.ChangeAt Go.RowKit Go.Deep
theorem PrL.lvIn {W1:World} {B:Nat} {y:Sy} {q:Sh} {fs fc fo fk:Bool} {vs vc vo vk v:Value} {X:Nat->Prop} {w w':World} (h:PrL W1 B y q fs fc fo fk vs vc vo vk X w) (hb:Below w.heap.size w w') (o:qba w' w.heap.size y q v):∃ a1 m1 a2 m2 a3 m3 a4 m4 a5 m5 a6 m6 a7 m7,v=.agg #[.slice a1 y.pn m1,.slice a2 y.sn m2,.slice a3 y.wn m3,.slice a4 y.hn m4,.bool q.on,.slice a5 q.cn m5,.slice a6 q.ol m6,.slice a7 q.kn m7]/\PrL W1 B y q true true true true (.agg #[.slice a1 y.pn m1,.slice a2 y.sn m2,.slice a3 y.wn m3,.slice a4 y.hn m4]) (.slice a5 q.cn m5) (.slice a6 q.ol m6) (.slice a7 q.kn m7) X w':=by
 obtain ⟨a1,m1,a2,m2,a3,m3,a4,m4,a5,m5,a6,m6,a7,m7,e,d,up,us,uw,uh,uk,os,s,-⟩:=qbm.of o;obtain ⟨c,-,-,-,-,h5⟩:=h.mix hb d;have hB:=zO h.hB h.be.size;exact ⟨a1,m1,a2,m2,a3,m3,a4,m4,a5,m5,a6,m6,a7,m7,e,h.be.trans (hb.mono h.be.size),h.hB,_,(fun _=>⟨_,_,_,_,up,us,uw,uh,rfl,os.p.mono fun _ h _=>h.mixR hB,os.s.mono fun _ h _=>h.mixR hB,os.t.mono fun _ h _=>h.mixR hB,os.h.mono fun _ h _=>h.mixR hB⟩),(fun _=>⟨s.ic,fun k hk=>(s.cb k hk).mixR hB⟩),(fun _=>⟨s.io,fun k hk=>(s.ob k hk).mixR hB⟩),(fun _=>⟨uk,s.ik.mono fun _ h _=>h.mixR hB⟩),h5⟩
theorem qq9 {P:Program} {ops:Array Oper} {Q:Exit->Act->World->Prop} {id:Nat} {a:Act} {w:World} (S:World->Prop) (G:Nat->Bool) (R:Act->Act->World->Prop) (hm:P.follows .mixedOrders=true) (h:wpG P .any ops (fun e a' w'=>match e with | .normal=>R a a' w' | _=>False) S G ops.size (Array.replicate ops.size false) a w.drew) (hq:∀ a' w',R a a' w'->Q .normal a' w'):(Code.region id ops true).wp P Q a w:=
 Code.wp_mono (fun e a' w' h => by
  cases e with
  | normal=>exact hq a' w' h
  | _=>exact h.elim) (qa1 S G hm h)
theorem PrL.cell6 {W1:World} {B g cap J:Nat} {y:Sy} {q:Sh} {fs fc fk:Bool} {vs vc vk:Value} {X:Nat->Prop} {w:World} (h:PrL W1 B y q fs fc true fk vs vc (sG g q.ol cap) vk X w) (hJ:J<q.ol):(∃ u,w.cell? ⟨g,J,none⟩=some u)/\w.frozen? ⟨g,J,none⟩=false:=by
 obtain ⟨c,-,-,h3,-,-⟩:=h.ow;have oo:OwnQ w 0 (sG g q.ol cap) q.ol q.oH:=(h3 rfl).1;have cg:=World.ownsRow.cellAt oo J (by omega);rw [qes hJ] at cg;exact ⟨⟨_,cg⟩,World.ownsRow.frozenAt oo J⟩
def Sy.cutW (y:Sy) (J:Nat):Sy:=y.wayAt J (y.wL J - 1) fun i=>y.wH J (i+1)
def Sh.shutW (q:Sh) (J:Nat):Sh:={ q with on:=true,oH:=fun i=>if i=J then false else q.oH i }
def Sy.wy (y:Sy) (a b:Int):Nat:=a.toNat*y.pn+b.toNat
noncomputable def mrC (y:Sy) (q:Sh) (a b:Int):Int:=if pB (LvOk y q)=false then 1 else if ¬ ((0<=a/\a<(y.pn:Int))/\(0<=b/\b<(y.pn:Int))) then 2 else if y.MkF (y.wy a b)=false then 4 else if q.cH b.toNat = -1/\pB ((y.cutW (y.wy a b)).HasFull b.toNat)=true then 5 else 0
noncomputable def mrY (y:Sy) (q:Sh) (a b:Int):Sy:=if mrC y q a b=1 then y.nil else if mrC y q a b=0 then (if q.cH b.toNat = -1 then (y.cutW (y.wy a b)).dwn b.toNat y.pn else y.cutW (y.wy a b)) else y
noncomputable def mrQ (y:Sy) (q:Sh) (a b:Int):Sh:=if mrC y q a b=1 then sh0 0 0 else if mrC y q a b=0 then Sh.shutW (if q.cH b.toNat = -1 then q.drawn b.toNat (y.hL b.toNat:Int) else q) (y.wy a b) else q
def MrR (y:Sy) (q:Sh) (a b:Int) (w:World) (e:Ending) (w':World):Prop:=∃ v,e=.returned (.tuple #[v,.int .i64 (mrC y q a b)])/\qba w' w.heap.size (mrY y q a b) (mrQ y q a b) v/\Below w.heap.size w w'
theorem Sy.cutW_wL {y:Sy} (h:y.Ok) (J:Nat):∀ j,j<y.wn->(y.cutW J).wL j<=12:=fun j hj=>by
 have:=Sy.ok_wL h j hj;show (if j=J then y.wL J - 1 else y.wL j)<=12
 split
 ·rename_i e
  rw [<- e];omega
 ·exact this
theorem Sy.cutW_sm {y:Sy} (h:y.Ok) (J:Nat):(y.cutW J).Sm:=by
 have hs:=h.sm;exact ⟨hs.n,hs.p,hs.s,fun i hi=>zO (Sy.cutW_wL h J i hi) (by decide),hs.h⟩
theorem Sy.cutD_sm {y:Sy} (h:y.Ok) (J p k:Nat):((y.cutW J).dwn p k).Sm:=by
 have hs:=h.sm;refine ⟨hs.n,hs.p,hs.s,fun i hi=>?_,hs.h⟩;have:=Sy.cutW_wL h J i hi;show (if p*y.pn<=i/\i<p*y.pn+k then (y.cutW J).wL i+1 else (y.cutW J).wL i)<=1000
 split <;> omega
theorem qzs (y:Sy) (q:Sh) (a b:Int) (hq:q.Sums):(mrY y q a b).Sm/\(mrQ y q a b).Sums:=by
 unfold mrY mrQ;by_cases h1:mrC y q a b=1
 ·rw [nC h1,nC h1]
  exact ⟨y.nil_sm,qw5⟩
 ·rw [nB h1,nB h1]
  have ho:y.Ok:=by
   have h2:LvOk y q:=by
    apply Classical.byContradiction;intro h;exact h1 (nC (qak h))
   exact Sy.ok_of h2.s
  by_cases h0:mrC y q a b=0
  ·rw [nC h0,nC h0]
   by_cases hc:q.cH b.toNat = -1
   ·rw [nC hc,nC hc]
    exact ⟨Sy.cutD_sm ho _ _ _,⟨hq.c,hq.o,hq.k,hq.l⟩⟩
   ·rw [nB hc,nB hc]
    exact ⟨Sy.cutW_sm ho _,⟨hq.c,hq.o,hq.k,hq.l⟩⟩
  ·rw [nB h0,nB h0]
   exact ⟨ho.sm,hq⟩
theorem qhb (x:LvIn) (a b:Int) (w:World) (hG:LvG w x) (hL:x.Len) (hN:x.s.Nn false) (hz:x.s.Wz) (hK:x.h.Nk) (hV:w.cell? ⟨0,0,none⟩=some (.iface 300 (.agg #[.pointer (some ⟨1,269,none⟩)]))):
  Calls prog 14 #[x.v,.int .i64 a,.int .i64 b] w (MrR x.s.y x.h.z a b w):=by
 have HOk:Hid (∀ wx,Below w.heap.size w wx->Calls prog 25 #[x.v] wx (rB wx (.bool (pB (LvOk x.s.y x.h.z))))):=fun wx hb=>qjj x wx (hG.bw hb) hL ((hb.cell (p:=⟨0,0,none⟩) (zJ w _ hV)).trans hV);have HCp:Hid (∀ wx,Below w.heap.size w wx->Calls prog 26 #[x.v] wx fun e w'=>∃ v,e=.returned v/\qba w' wx.heap.size x.s.y x.h.z v/\Below wx.heap.size wx w'):=fun wx hb=>qm4 x wx (hG.bw hb) hL hN hK;have HG:Hid (LvG w x/\x.Len/\x.s.Wz):=⟨hG,hL,hz⟩
 have BW:Hid (Below w.heap.size w ((w.alloc (oQ7 x.s.pa x.s.pn x.s.pc x.s.sa x.s.sn x.s.sc x.s.wa x.s.wn x.s.wc x.s.ha x.s.hn x.s.hc x.h.on x.h.ca x.h.cn x.h.cc x.h.oa x.h.ol x.h.oc x.h.ka x.h.kn x.h.kc)).alloc (zQ5))):=(zP _ _).trans ((zP _ _).mono (by simp));have NB:Hid (BoxH ((w.alloc (oQ7 x.s.pa x.s.pn x.s.pc x.s.sa x.s.sn x.s.sc x.s.wa x.s.wn x.s.wc x.s.ha x.s.hn x.s.hc x.h.on x.h.ca x.h.cn x.h.cc x.h.oa x.h.ol x.h.oc x.h.ka x.h.kn x.h.kc)).alloc (zQ5)) w.heap.size (.slice x.s.pa x.s.pn x.s.pc) (.slice x.s.sa x.s.sn x.s.sc) (.slice x.s.wa x.s.wn x.s.wc) (.slice x.s.ha x.s.hn x.s.hc) (.bool x.h.on) (.slice x.h.ca x.h.cn x.h.cc) (.slice x.h.oa x.h.ol x.h.oc) (.slice x.h.ka x.h.kn x.h.kc)):=(BoxH.new w _ _ _ _ _ _ _ _ _).bw (zP _ _)
 have RB:Hid (BoxH ((w.alloc (oQ7 x.s.pa x.s.pn x.s.pc x.s.sa x.s.sn x.s.sc x.s.wa x.s.wn x.s.wc x.s.ha x.s.hn x.s.hc x.h.on x.h.ca x.h.cn x.h.cc x.h.oa x.h.ol x.h.oc x.h.ka x.h.kn x.h.kc)).alloc (zQ5)) (w.heap.size+1) nS nS nS nS (.bool false) nS nS nS/\∀ j,((w.alloc (oQ7 x.s.pa x.s.pn x.s.pc x.s.sa x.s.sn x.s.sc x.s.wa x.s.wn x.s.wc x.s.ha x.s.hn x.s.hc x.h.on x.h.ca x.h.cn x.h.cc x.h.oa x.h.ol x.h.oc x.h.ka x.h.kn x.h.kc)).alloc (zQ5)).frozen? ⟨w.heap.size+1,j,none⟩=false):=by
  have e:(w.alloc (oQ7 x.s.pa x.s.pn x.s.pc x.s.sa x.s.sn x.s.sc x.s.wa x.s.wn x.s.wc x.s.ha x.s.hn x.s.hc x.h.on x.h.ca x.h.cn x.h.cc x.h.oa x.h.ol x.h.oc x.h.ka x.h.kn x.h.kc)).heap.size=w.heap.size+1:=by simp
  rw [<- e];exact ⟨BoxH.new _ _ _ _ _ _ _ _ _ _,fun j=>yA _ _ _ _ rfl⟩
 have hM:w.heap.size<=w.heap.size+1:=nK _;clear hG hL hN hK hV hz
 go_enter func14,ntmps14
 go_wp2_with fail
 generalize ((w.alloc (oQ7 x.s.pa x.s.pn x.s.pc x.s.sa x.s.sn x.s.sc x.s.wa x.s.wn x.s.wc x.s.ha x.s.hn x.s.hc x.h.on x.h.ca x.h.cn x.h.cc x.h.oa x.h.ol x.h.oc x.h.ka x.h.kn x.h.kc)).alloc (zQ5))=W2 at *;refine (HOk.out W2 BW.out).mono ?_;rintro e w1 ⟨rfl,q1⟩;have B1:Hid (Below w.heap.size w w1/\BoxH w1 w.heap.size (.slice x.s.pa x.s.pn x.s.pc) (.slice x.s.sa x.s.sn x.s.sc) (.slice x.s.wa x.s.wn x.s.wc) (.slice x.s.ha x.s.hn x.s.hc) (.bool x.h.on) (.slice x.h.ca x.h.cn x.h.cc) (.slice x.h.oa x.h.ol x.h.oc) (.slice x.h.ka x.h.kn x.h.kc)/\BoxH w1 (w.heap.size+1) nS nS nS nS (.bool false) nS nS nS/\∀ j,w1.frozen? ⟨w.heap.size+1,j,none⟩=false):=⟨BW.trans (q1.mono BW.size),NB.bw q1,RB.1.bw q1,fun j=>((qap q1).2 _ j RB.1.lt).trans (RB.2 j)⟩
 clear q1 BW NB RB HOk;have LR:Hid (w.heap.size+1<w1.heap.size):=B1.2.2.1.lt;have LN:Hid (w.heap.size<=w1.heap.size):=B1.1.size;have HRB:Hid (∀ wx,Below w1.heap.size w1 wx->BoxH wx w.heap.size (.slice x.s.pa x.s.pn x.s.pc) (.slice x.s.sa x.s.sn x.s.sc) (.slice x.s.wa x.s.wn x.s.wc) (.slice x.s.ha x.s.hn x.s.hc) (.bool x.h.on) (.slice x.h.ca x.h.cn x.h.cc) (.slice x.h.oa x.h.ol x.h.oc) (.slice x.h.ka x.h.kn x.h.kc)/\BoxH wx (w.heap.size+1) nS nS nS nS (.bool false) nS nS nS/\(∀ j,wx.frozen? ⟨w.heap.size+1,j,none⟩=false)/\w.heap.size+1<wx.heap.size):=fun wx hb=>⟨B1.2.1.bw hb,B1.2.2.1.bw hb,fun j=>((qap hb).2 _ j LR.out).trans (B1.2.2.2 j),zL LR.out hb.size⟩
 have R1:Hid (Below w1.heap.size w1 w1):=nE _ _;generalize hT:pB (LvOk x.s.y x.h.z)=T;cases T
 ·have HV:Hid (mrC x.s.y x.h.z a b=1/\mrY x.s.y x.h.z a b=x.s.y.nil/\mrQ x.s.y x.h.z a b=sh0 0 0):=by
   have h1:mrC x.s.y x.h.z a b=1:=nC hT;exact ⟨h1,nC h1,nC h1⟩
  clear hT;obtain ⟨⟨r0,r1,r2,r3,r4,r5,r6,r7⟩,rf⟩:=B1.2.2;have l1:=LR.out;go_wp2;exact bodyPost_ret (v:=.tuple #[qwy,.int .i64 1]) (by simp [results,results14,go_sem,r0,r1,r2,r3,r4,r5,r6,r7,qwy]) rfl ⟨_,by rw [HV.1],by rw [HV.2.1,HV.2.2];exact qba.zero _ _ _,qax B1.1 hM _ _ _ _ _ _ _ _⟩
 have HT:Hid (pB (LvOk x.s.y x.h.z)=true):=hT
 have HO:Hid (LvOk x.s.y x.h.z/\x.s.y.Ok):=by
  have h1:LvOk x.s.y x.h.z:=by
   apply Classical.byContradiction;intro h;rw [qak h] at hT;cases hT
  exact ⟨h1,Sy.ok_of h1.s⟩
 clear hT;obtain ⟨b0,b1,b2,b3,b4,b5,b6,b7⟩:=B1.2.1;go_wp2_with fail
 refine (isBelow_any _ _ _).mono ?_;rintro e w' ⟨rfl,hw⟩;have hw2:=hw.symm;subst hw2;clear hw;generalize hba:belB a (x.s.pn:Int)=T;cases T
 ·have h0:¬ ((0<=a/\a<(x.s.y.pn:Int))/\(0<=b/\b<(x.s.y.pn:Int))):=by
   intro h;have h2:belB a (x.s.pn:Int)=true:=by simp only [belB,nI];exact h.1
   rw [h2] at hba;cases hba
  have HV:Hid (mrC x.s.y x.h.z a b=2/\mrY x.s.y x.h.z a b=x.s.y/\mrQ x.s.y x.h.z a b=x.h.z):=by
   have h1:mrC x.s.y x.h.z a b=2:=(nB (by rw [HT.out];decide)).trans (nC h0);exact ⟨h1,(nB (by rw [h1];decide)).trans (nB (by rw [h1];decide)),(nB (by rw [h1];decide)).trans (nB (by rw [h1];decide))⟩
  clear hba h0;go_upto_region 4 with fail
  clear b0 b1 b2 b3 b4 b5 b6 b7;obtain ⟨b0,b1,b2,b3,b4,b5,b6,b7⟩:=(HRB.out w1 R1.out).1;go_wp2_with fail
  clear b0 b1 b2 b3 b4 b5 b6 b7;refine (HCp.out w1 (B1.1.trans (R1.mono B1.1.size))).mono ?_;rintro e w99 ⟨v9,rfl,o9,q9⟩;have l9:=R1.size;have BE9:Hid (Below w1.heap.size w1 w99):=R1.trans (q9.mono l9);obtain ⟨k1,n1,k2,n2,k3,n3,k4,n4,k5,n5,k6,n6,k7,n7,rfl,n9⟩:=qbm.of o9;obtain ⟨-,⟨r0,r1,r2,r3,r4,r5,r6,r7⟩,rf,l1⟩:=HRB.out w99 BE9.out;have HE:Hid (qba w99 w1.heap.size x.s.y x.h.z (.agg #[.slice k1 x.s.y.pn n1,.slice k2 x.s.y.sn n2,.slice k3 x.s.y.wn n3,.slice k4 x.s.y.hn n4,.bool x.h.z.on,.slice k5 x.h.z.cn n5,.slice k6 x.h.z.ol n6,.slice k7 x.h.z.kn n7])/\w1.heap.size<=w1.heap.size):=⟨o9,l9⟩
  clear o9 q9 n9 l9;go_wp2
  exact bodyPost_ret (v := .tuple #[.agg #[.slice k1 x.s.y.pn n1, .slice k2 x.s.y.sn n2, .slice k3 x.s.y.wn n3, .slice k4 x.s.y.hn n4, .bool x.h.z.on, .slice k5 x.h.z.cn n5, .slice k6 x.h.z.ol n6, .slice k7 x.h.z.kn n7], .int .i64 2]) (by simp [results, results14, go_sem, r0, r1, r2, r3, r4, r5, r6, r7]) rfl ⟨_, by rw [HV.1], by
   rw [HV.2.1,HV.2.2]
   exact (HE.1.set8 (by have:=LR.out;have:=HE.2;omega) _ _ _ _ _ _ _ _).base (zO LN.out HE.2),qax (B1.1.trans (BE9.mono B1.1.size)) hM _ _ _ _ _ _ _ _⟩
 go_wp2_with fail
 refine (isBelow_any _ _ _).mono ?_;rintro e w' ⟨rfl,hw⟩;have hw2:=hw.symm;subst hw2;clear hw;generalize hbb:belB b (x.s.pn:Int)=T;cases T
 ·have h0:¬ ((0<=a/\a<(x.s.y.pn:Int))/\(0<=b/\b<(x.s.y.pn:Int))):=by
   intro h;have h2:belB b (x.s.pn:Int)=true:=by simp only [belB,nI];exact h.2
   rw [h2] at hbb;cases hbb
  have HV:Hid (mrC x.s.y x.h.z a b=2/\mrY x.s.y x.h.z a b=x.s.y/\mrQ x.s.y x.h.z a b=x.h.z):=by
   have h1:mrC x.s.y x.h.z a b=2:=(nB (by rw [HT.out];decide)).trans (nC h0);exact ⟨h1,(nB (by rw [h1];decide)).trans (nB (by rw [h1];decide)),(nB (by rw [h1];decide)).trans (nB (by rw [h1];decide))⟩
  clear hba hbb h0;go_upto_region 4 with fail
  clear b0 b1 b2 b3 b4 b5 b6 b7;obtain ⟨b0,b1,b2,b3,b4,b5,b6,b7⟩:=(HRB.out w1 R1.out).1;go_wp2_with fail
  clear b0 b1 b2 b3 b4 b5 b6 b7;refine (HCp.out w1 (B1.1.trans (R1.mono B1.1.size))).mono ?_;rintro e w99 ⟨v9,rfl,o9,q9⟩;have l9:=R1.size;have BE9:Hid (Below w1.heap.size w1 w99):=R1.trans (q9.mono l9);obtain ⟨k1,n1,k2,n2,k3,n3,k4,n4,k5,n5,k6,n6,k7,n7,rfl,n9⟩:=qbm.of o9;obtain ⟨-,⟨r0,r1,r2,r3,r4,r5,r6,r7⟩,rf,l1⟩:=HRB.out w99 BE9.out;have HE:Hid (qba w99 w1.heap.size x.s.y x.h.z (.agg #[.slice k1 x.s.y.pn n1,.slice k2 x.s.y.sn n2,.slice k3 x.s.y.wn n3,.slice k4 x.s.y.hn n4,.bool x.h.z.on,.slice k5 x.h.z.cn n5,.slice k6 x.h.z.ol n6,.slice k7 x.h.z.kn n7])/\w1.heap.size<=w1.heap.size):=⟨o9,l9⟩
  clear o9 q9 n9 l9;go_wp2
  exact bodyPost_ret (v := .tuple #[.agg #[.slice k1 x.s.y.pn n1, .slice k2 x.s.y.sn n2, .slice k3 x.s.y.wn n3, .slice k4 x.s.y.hn n4, .bool x.h.z.on, .slice k5 x.h.z.cn n5, .slice k6 x.h.z.ol n6, .slice k7 x.h.z.kn n7], .int .i64 2]) (by simp [results, results14, go_sem, r0, r1, r2, r3, r4, r5, r6, r7]) rfl ⟨_, by rw [HV.1], by
   rw [HV.2.1,HV.2.2]
   exact (HE.1.set8 (by have:=LR.out;have:=HE.2;omega) _ _ _ _ _ _ _ _).base (zO LN.out HE.2),qax (B1.1.trans (BE9.mono B1.1.size)) hM _ _ _ _ _ _ _ _⟩
 obtain ⟨A,rfl,hA⟩:∃ P:Nat,a=P/\P<x.s.pn:=by
  simp only [belB,nI] at hba;exact ⟨a.toNat,by omega,by omega⟩
 obtain ⟨B,rfl,hB⟩:∃ P:Nat,b=P/\P<x.s.pn:=by
  simp only [belB,nI] at hbb;exact ⟨b.toNat,by omega,by omega⟩
 have HD:Hid (x.h.z.cn=x.s.y.pn/\x.h.z.ol=x.s.y.wn/\x.h.z.kn=x.s.y.wn/\x.s.y.pn<=4/\1<=x.s.y.pn/\x.s.y.wn=x.s.y.pn*x.s.y.pn/\x.s.y.hn=x.s.y.pn):=⟨HO.1.f.1,HO.1.f.2.1,HO.1.f.2.2,HO.2.cn.1.2,HO.2.cn.1.1,HO.2.cn.2.2.2,HO.2.cn.2.2.1⟩
 have HPn:Hid ((A<x.s.pn/\B<x.s.pn)/\((0<=(A:Int)/\(A:Int)<(x.s.y.pn:Int))/\(0<=(B:Int)/\(B:Int)<(x.s.y.pn:Int)))):=⟨⟨hA,hB⟩,⟨by omega,by show (A:Int)<(x.s.pn:Int);omega⟩,by omega,by show (B:Int)<(x.s.pn:Int);omega⟩
 have h44:A<4/\B<4/\x.s.pn<=4:=by
  have h4:x.s.pn<=4:=HD.2.2.2.1;omega
 have HJw:Hid (A*x.s.pn+B<x.s.wn):=by
  have hw:x.s.wn=x.s.pn*x.s.pn:=HD.2.2.2.2.2.1;show A*x.s.pn+B<x.s.wn;rw [hw];exact zL (Nat.add_lt_add_left hB _) (by rw [<- Nat.succ_mul];exact Nat.mul_le_mul_right _ hA)
 have HMk:Hid (∀ wx,Below w.heap.size w wx->Calls prog 38 #[x.s.v,.int .i64 A,.int .i64 B] wx (rB wx (.bool (x.s.y.MkF (A*x.s.pn+B))))):=fun wx hb=>qip x.s A B wx ((HG.1.bw hb).s) HG.2.1.s h44.1 h44.2.1 h44.2.2 HJw.out;have HNu:Hid (∀ wx,Calls prog 39 #[x.s.v,.int .i64 A,.int .i64 B] wx (rB wx (.int .i64 (A*x.s.pn+B:Nat)))):=fun wx=>qds x.s A B wx h44.1 h44.2.1 h44.2.2;have HQu:Hid (∀ wx,Below w.heap.size w wx->Calls prog 40 #[x.s.v,.int .i64 A,.int .i64 B] wx (rB wx (.agg #[.slice (x.s.wA (A*x.s.pn+B)) (x.s.wL (A*x.s.pn+B)) (x.s.wC (A*x.s.pn+B)),.int .i64 12]))):=fun wx hb=>qc8 x.s A B wx ((HG.1.bw hb).s) h44.1 h44.2.1 h44.2.2 HJw.out;have HJe:Hid (x.s.y.wy A B=A*x.s.pn+B):=rfl;generalize A*x.s.pn+B=J at *;clear hba hbb hA hB;go_wp2_with fail
 clear b0 b1 b2 b3 b4 b5 b6 b7;refine (HMk.out w1 B1.1).mono ?_;rintro e w3 ⟨rfl,q3⟩;have B3:Hid (Below w1.heap.size w1 w3):=q3;clear q3 HMk;generalize hmk:x.s.y.MkF J=T;cases T
 ·have h0:x.s.y.MkF (x.s.y.wy A B)=false:=by rw [HJe.out];exact hmk
  have HV:Hid (mrC x.s.y x.h.z A B=4/\mrY x.s.y x.h.z A B=x.s.y/\mrQ x.s.y x.h.z A B=x.h.z):=by
   have h1:mrC x.s.y x.h.z A B=4:=(nB (by rw [HT.out];decide)).trans ((nB (not_not_intro HPn.2)).trans (nC h0));exact ⟨h1,(nB (by rw [h1];decide)).trans (nB (by rw [h1];decide)),(nB (by rw [h1];decide)).trans (nB (by rw [h1];decide))⟩
  clear hmk h0;obtain ⟨b0,b1,b2,b3,b4,b5,b6,b7⟩:=(HRB.out w3 B3.out).1;go_wp2_with fail
  clear b0 b1 b2 b3 b4 b5 b6 b7;refine (HCp.out w3 (B1.1.trans (B3.mono B1.1.size))).mono ?_;rintro e w99 ⟨v9,rfl,o9,q9⟩;have l9:=B3.size;have BE9:Hid (Below w1.heap.size w1 w99):=B3.trans (q9.mono l9);obtain ⟨k1,n1,k2,n2,k3,n3,k4,n4,k5,n5,k6,n6,k7,n7,rfl,n9⟩:=qbm.of o9;obtain ⟨-,⟨r0,r1,r2,r3,r4,r5,r6,r7⟩,rf,l1⟩:=HRB.out w99 BE9.out;have HE:Hid (qba w99 w3.heap.size x.s.y x.h.z (.agg #[.slice k1 x.s.y.pn n1,.slice k2 x.s.y.sn n2,.slice k3 x.s.y.wn n3,.slice k4 x.s.y.hn n4,.bool x.h.z.on,.slice k5 x.h.z.cn n5,.slice k6 x.h.z.ol n6,.slice k7 x.h.z.kn n7])/\w1.heap.size<=w3.heap.size):=⟨o9,l9⟩
  clear o9 q9 n9 l9;go_wp2
  exact bodyPost_ret (v := .tuple #[.agg #[.slice k1 x.s.y.pn n1, .slice k2 x.s.y.sn n2, .slice k3 x.s.y.wn n3, .slice k4 x.s.y.hn n4, .bool x.h.z.on, .slice k5 x.h.z.cn n5, .slice k6 x.h.z.ol n6, .slice k7 x.h.z.kn n7], .int .i64 4]) (by simp [results, results14, go_sem, r0, r1, r2, r3, r4, r5, r6, r7]) rfl ⟨_, by rw [HV.1], by
   rw [HV.2.1,HV.2.2]
   exact (HE.1.set8 (by have:=LR.out;have:=HE.2;omega) _ _ _ _ _ _ _ _).base (zO LN.out HE.2),qax (B1.1.trans (BE9.mono B1.1.size)) hM _ _ _ _ _ _ _ _⟩
 have HMF:Hid (x.s.y.MkF (x.s.y.wy A B)=true/\0<x.s.wL J):=by
  refine ⟨by rw [HJe.out];exact hmk,?_⟩;simp only [Sy.MkF,nH,nI] at hmk;have h9:x.s.wL J≠0:=hmk.1;omega
 clear hmk;obtain ⟨bw,ebw,hwc,hwm⟩:=HG.2.2 J HJw.out HMF.2
 have HRe:Hid (∀ wx,Below w.heap.size w wx->Calls prog 41 #[.agg #[.slice (x.s.wA J) (x.s.wL J) (x.s.wC J),.int .i64 12]] wx fun e w'=>∃ a c,e=.returned (.slice a (x.s.wL J - 1) c)/\w'.ownsRow wx.heap.size 74 2 (.slice a (x.s.wL J - 1) c) (x.s.wL J - 1) (fT (fun i=>x.s.wH J (i+1)) (x.s.wL J - 1))/\Value.slice a (x.s.wL J - 1) c≠nS/\Below wx.heap.size wx w'):=fun wx hb=>by
  have hl12:x.s.wL J<=12:=Sy.ok_wL HO.2 J HJw.out;have hI:=(HG.1.bw hb).s.wi J HJw.out;rw [ebw] at hI ⊢
  rcases hI with h | ⟨b9,o9,e9,hlt9,hI⟩
  ·have:=HMF.2
   omega
  ·simp only [nG,Addr.mk.injEq,and_true] at e9
   obtain ⟨rfl,rfl⟩:=e9;exact qog _ _ _ _ _ wx HMF.2 (by omega) hwc (by rcases hwm with h | h <;> first | exact h | (unfold maxLen;omega)) hlt9 hI
 clear ebw hwc hwm
 have hS0:∀ wx,Below w3.heap.size w3 wx->(fun w':World=>w'.cell? ⟨w.heap.size,0,none⟩=some (.slice x.s.pa x.s.pn x.s.pc)/\w'.cell? ⟨w.heap.size,1,none⟩=some (.slice x.s.sa x.s.sn x.s.sc)/\w'.cell? ⟨w.heap.size,2,none⟩=some (.slice x.s.wa x.s.wn x.s.wc)/\w'.cell? ⟨w.heap.size,3,none⟩=some (.slice x.s.ha x.s.hn x.s.hc)/\w'.cell? ⟨w.heap.size,4,none⟩=some (.bool x.h.on)/\w'.cell? ⟨w.heap.size,5,none⟩=some (.slice x.h.ca x.h.cn x.h.cc)/\w'.cell? ⟨w.heap.size,6,none⟩=some (.slice x.h.oa x.h.ol x.h.oc)/\w'.cell? ⟨w.heap.size,7,none⟩=some (.slice x.h.ka x.h.kn x.h.kc)) wx:=fun wx hb=>by
  obtain ⟨h0,h1,h2,h3,h4,h5,h6,h7⟩:=(HRB.out wx (B3.trans (hb.mono B3.size))).1;exact ⟨h0,h1,h2,h3,h4,h5,h6,h7⟩
 have F0:Hid (PrL w3 w3.heap.size x.s.y x.h.z false false false false undef undef undef undef (fun _=>False) w3.drew):=(PrL.start (nA _) (nE _ _)).drew;go_wp2_with fail
 refine qq9 (fun w':World=>w'.cell? ⟨w.heap.size,0,none⟩=some (.slice x.s.pa x.s.pn x.s.pc)/\w'.cell? ⟨w.heap.size,1,none⟩=some (.slice x.s.sa x.s.sn x.s.sc)/\w'.cell? ⟨w.heap.size,2,none⟩=some (.slice x.s.wa x.s.wn x.s.wc)/\w'.cell? ⟨w.heap.size,3,none⟩=some (.slice x.s.ha x.s.hn x.s.hc)/\w'.cell? ⟨w.heap.size,4,none⟩=some (.bool x.h.on)/\w'.cell? ⟨w.heap.size,5,none⟩=some (.slice x.h.ca x.h.cn x.h.cc)/\w'.cell? ⟨w.heap.size,6,none⟩=some (.slice x.h.oa x.h.ol x.h.oc)/\w'.cell? ⟨w.heap.size,7,none⟩=some (.slice x.h.ka x.h.kn x.h.kc)) (fun i=>i == 9) (fun a0 a' w'=>∃ N a1 m1 a2 m2 a3 m3 a4 m4 a5 m5 a6 m6 a7 m7,a'=(((((((((a0.put (some 41) x.v).put (some 42) (.agg #[.slice a1 x.s.y.pn m1,.slice a2 x.s.y.sn m2,.slice a3 x.s.y.wn m3,.slice a4 x.s.y.hn m4,.bool x.h.z.on,.slice a5 x.h.z.cn m5,.slice a6 x.h.z.ol m6,.slice a7 x.h.z.kn m7])).put (some 43) (.pointer (some ⟨w.heap.size,0,none⟩))).put (some 44) x.s.v).put (some 45) (.int .i64 A)).put (some 46) (.int .i64 B)).put (some 47) (.int .i64 J)).put (some 8) (.pointer (some ⟨N,0,none⟩))).put (some 9) (.int .i64 J))/\Hid (PrL w3 w3.heap.size x.s.y x.h.z true true true true (.agg #[.slice a1 x.s.y.pn m1,.slice a2 x.s.y.sn m2,.slice a3 x.s.y.wn m3,.slice a4 x.s.y.hn m4]) (.slice a5 x.h.z.cn m5) (.slice a6 x.h.z.ol m6) (.slice a7 x.h.z.kn m7) (fun k=>k=N) w'/\BoxH w' N (.slice a1 x.s.y.pn m1) (.slice a2 x.s.y.sn m2) (.slice a3 x.s.y.wn m3) (.slice a4 x.s.y.hn m4) (.bool x.h.z.on) (.slice a5 x.h.z.cn m5) (.slice a6 x.h.z.ol m6) (.slice a7 x.h.z.kn m7)/\(∀ j,w'.frozen? ⟨N,j,none⟩=false)/\w3.heap.size<=N)) (by kernel_rfl) ?_ ?_
 ·have hHeld:(fun w':World=>w'.cell? ⟨w.heap.size,0,none⟩=some (.slice x.s.pa x.s.pn x.s.pc)/\w'.cell? ⟨w.heap.size,1,none⟩=some (.slice x.s.sa x.s.sn x.s.sc)/\w'.cell? ⟨w.heap.size,2,none⟩=some (.slice x.s.wa x.s.wn x.s.wc)/\w'.cell? ⟨w.heap.size,3,none⟩=some (.slice x.s.ha x.s.hn x.s.hc)/\w'.cell? ⟨w.heap.size,4,none⟩=some (.bool x.h.on)/\w'.cell? ⟨w.heap.size,5,none⟩=some (.slice x.h.ca x.h.cn x.h.cc)/\w'.cell? ⟨w.heap.size,6,none⟩=some (.slice x.h.oa x.h.ol x.h.oc)/\w'.cell? ⟨w.heap.size,7,none⟩=some (.slice x.h.ka x.h.kn x.h.kc)) w3.drew:=hS0 _ F0.be
  refine qcn [0,2,3,4,5] ?_;iterate 5 (refine qdl rfl hHeld ?_)
  refine qb0 ?_;clear hHeld;refine qmg 1 7 rfl rfl (by kernel_rfl) (fun K hK=>?pa) (fun K hK=>?pb)
  case' pa=>
   refine qas rfl 26 _ _ rfl #[x.v] (by simp [Act.eval]) (zZ func26) (HCp.out w3.drew ((B1.1.trans (B3.mono B1.1.size)).trans (F0.be.mono (zO B1.1.size B3.size)))) ?_;rintro e w4 ⟨v4,rfl,o4,q4⟩;obtain ⟨a1,m1,a2,m2,a3,m3,a4,m4,a5,m5,a6,m6,a7,m7,rfl,F4⟩:=F0.lvIn q4 o4;refine ⟨_,rfl,hK.out _ _ (fun _=>hS0 w4 F4.be) ?_⟩;clear hK K o4
   (try simp only [Act.put,zD,zE,zF])
   refine qmg 6 7 rfl rfl (by kernel_rfl) (fun K hK=>?pc) (fun K hK=>?pd)
   case' pc=>
    refine qas rfl 39 _ _ rfl #[x.s.v,.int .i64 A,.int .i64 B] (by simp [Act.eval,SysIn.v,sysV]) (zZ func39) (HNu.out w4) ?_;rintro e w5 ⟨rfl,q6⟩;have F5:=F4.bw q6;refine ⟨_,rfl,hK.out _ _ (fun _=>hS0 w5 F5.be) ?_⟩;clear hK K q6
    (try simp only [Act.put,zD,zE,zF])
    refine yW 7 rfl fun K hK=>?_;go_simp;obtain ⟨N,hN⟩:∃ N,N=w5.heap.size:=⟨_,rfl⟩
    have F6:=F5.box (zQ5) (fun k=>k=N) fun k hk=>.inr (hk.trans hN);have nb:BoxH (w5.alloc (zQ5)) N nS nS nS nS (.bool false) nS nS nS:=by rw [hN];exact BoxH.new w5 _ _ _ _ _ _ _ _ _
    have nf:∀ j,(w5.alloc (zQ5)).frozen? ⟨N,j,none⟩=false:=by rw [hN];exact fun j=>yA _ _ _ _ rfl
    have nw:w3.heap.size<=N:=by rw [hN];exact F5.be.size
    have nl:=nb.lt;refine hK.out _ _ (fun _=>hS0 _ F6.be) ?_;clear hK K
    (try simp only [Act.put,zD,zE,zF])
    rw [<- hN];have HNh:Hid (N=w5.heap.size):=hN;clear hN;generalize (w5.alloc (zQ5))=w6 at F6 nb nf nl ⊢
   case' pd=>
    go_simp;obtain ⟨N,hN⟩:∃ N,N=w4.heap.size:=⟨_,rfl⟩
    have F5:=F4.box (zQ5) (fun k=>k=N) fun k hk=>.inr (hk.trans hN);have nb:BoxH (w4.alloc (zQ5)) N nS nS nS nS (.bool false) nS nS nS:=by rw [hN];exact BoxH.new w4 _ _ _ _ _ _ _ _ _
    have nf:∀ j,(w4.alloc (zQ5)).frozen? ⟨N,j,none⟩=false:=by rw [hN];exact fun j=>yA _ _ _ _ rfl
    have nw:w3.heap.size<=N:=by rw [hN];exact F4.be.size
    have nl:=nb.lt;refine hK.out _ _ (fun _=>hS0 _ F5.be) ?_;clear hK K
    (try simp only [Act.put,zD,zE,zF])
    rw [<- hN];have HNh:Hid (N=w4.heap.size):=hN;clear hN;refine yW 6 rfl fun K hK=>?_;refine qas rfl 39 _ _ rfl #[x.s.v,.int .i64 A,.int .i64 B] (by simp [Act.eval,SysIn.v,sysV]) (zZ func39) (HNu.out _) ?_;rintro e w6 ⟨rfl,q6⟩;have F6:=F5.bw q6;have nb:=nb.bw q6;have nf:∀ j,w6.frozen? ⟨N,j,none⟩=false:=fun j=>((qap q6).2 _ j nl).trans (nf j);have nl:=nb.lt;refine ⟨_,rfl,hK.out _ _ (fun _=>hS0 w6 F6.be) ?_⟩;clear hK K q6
    (try simp only [Act.put,zD,zE,zF])
  case' pb=>
   go_simp;obtain ⟨N,hN⟩:∃ N,N=w3.heap.size:=⟨_,rfl⟩
   have F4:=F0.box (zQ5) (fun k=>k=N) fun k hk=>.inr (hk.trans hN);have nb:BoxH (w3.drew.alloc (zQ5)) N nS nS nS nS (.bool false) nS nS nS:=by rw [hN];exact BoxH.new w3.drew _ _ _ _ _ _ _ _ _
   have nf:∀ j,(w3.drew.alloc (zQ5)).frozen? ⟨N,j,none⟩=false:=by rw [hN];exact fun j=>yA _ _ _ _ rfl
   have nw:w3.heap.size<=N:=by rw [hN];exact F0.be.size
   have nl:=nb.lt;refine hK.out _ _ (fun _=>hS0 _ F4.be) ?_;clear hK K
   (try simp only [Act.put,zD,zE,zF])
   rw [<- hN];have HNh:Hid (N=w3.heap.size):=hN;clear hN;refine yW 1 rfl fun K hK=>?_;refine qas rfl 26 _ _ rfl #[x.v] (by simp [Act.eval]) (zZ func26) (HCp.out _ ((B1.1.trans (B3.mono B1.1.size)).trans (F4.be.mono (zO B1.1.size B3.size)))) ?_;rintro e w5 ⟨v4,rfl,o4,q4⟩;obtain ⟨a1,m1,a2,m2,a3,m3,a4,m4,a5,m5,a6,m6,a7,m7,rfl,F5⟩:=F4.lvIn q4 o4;refine ⟨_,rfl,hK.out _ _ (fun _=>hS0 w5 F5.be) ?_⟩;have nb:=nb.bw q4;have nf:∀ j,w5.frozen? ⟨N,j,none⟩=false:=fun j=>((qap q4).2 _ j nl).trans (nf j);have nl:=nb.lt;clear hK K o4
   (try simp only [Act.put,zD,zE,zF])
   refine yW 6 rfl fun K hK=>?_;refine qas rfl 39 _ _ rfl #[x.s.v,.int .i64 A,.int .i64 B] (by simp [Act.eval,SysIn.v,sysV]) (zZ func39) (HNu.out w5) ?_;rintro e w6 ⟨rfl,q6⟩;have F6:=F5.bw q6;have nb:=nb.bw q6;have nf:∀ j,w6.frozen? ⟨N,j,none⟩=false:=fun j=>((qap q6).2 _ j nl).trans (nf j);have nl:=nb.lt;refine ⟨_,rfl,hK.out _ _ (fun _=>hS0 w6 F6.be) ?_⟩;clear hK K q6
   (try simp only [Act.put,zD,zE,zF])
  all_goals
   have X6:Hid (PrL w3 w3.heap.size x.s.y x.h.z true true true true (.agg #[.slice a1 x.s.y.pn m1,.slice a2 x.s.y.sn m2,.slice a3 x.s.y.wn m3,.slice a4 x.s.y.hn m4]) (.slice a5 x.h.z.cn m5) (.slice a6 x.h.z.ol m6) (.slice a7 x.h.z.kn m7) (fun k=>k=N) w6/\BoxH w6 N nS nS nS nS (.bool false) nS nS nS/\(∀ j,w6.frozen? ⟨N,j,none⟩=false)/\w3.heap.size<=N):=⟨F6,nb,nf,nw⟩
   clear F6;obtain ⟨n0,n1,n2,n3,n4,n5,n6,n7⟩:=X6.2.1;refine yW 8 rfl fun K hK=>?_;go_simp;have X7:Hid (PrL w3 w3.heap.size x.s.y x.h.z true true true true (.agg #[.slice a1 x.s.y.pn m1,.slice a2 x.s.y.sn m2,.slice a3 x.s.y.wn m3,.slice a4 x.s.y.hn m4]) (.slice a5 x.h.z.cn m5) (.slice a6 x.h.z.ol m6) (.slice a7 x.h.z.kn m7) (fun k=>k=N) (set8 w6 N (.slice a1 x.s.y.pn m1) (.slice a2 x.s.y.sn m2) (.slice a3 x.s.y.wn m3) (.slice a4 x.s.y.hn m4) (.bool x.h.z.on) (.slice a5 x.h.z.cn m5) (.slice a6 x.h.z.ol m6) (.slice a7 x.h.z.kn m7))/\BoxH (set8 w6 N (.slice a1 x.s.y.pn m1) (.slice a2 x.s.y.sn m2) (.slice a3 x.s.y.wn m3) (.slice a4 x.s.y.hn m4) (.bool x.h.z.on) (.slice a5 x.h.z.cn m5) (.slice a6 x.h.z.ol m6) (.slice a7 x.h.z.kn m7)) N (.slice a1 x.s.y.pn m1) (.slice a2 x.s.y.sn m2) (.slice a3 x.s.y.wn m3) (.slice a4 x.s.y.hn m4) (.bool x.h.z.on) (.slice a5 x.h.z.cn m5) (.slice a6 x.h.z.ol m6) (.slice a7 x.h.z.kn m7)/\(∀ j,(set8 w6 N (.slice a1 x.s.y.pn m1) (.slice a2 x.s.y.sn m2) (.slice a3 x.s.y.wn m3) (.slice a4 x.s.y.hn m4) (.bool x.h.z.on) (.slice a5 x.h.z.cn m5) (.slice a6 x.h.z.ol m6) (.slice a7 x.h.z.kn m7)).frozen? ⟨N,j,none⟩=false)/\w3.heap.size<=N):=⟨X6.1.put8 rfl nw _ _ _ _ _ _ _ _,qfj X6.2.1 _ _ _ _ _ _ _ _,fun i=>by unfold set8;simp only [World.frozen?_setCell];exact nf i,nw⟩
   unfold set8 at X7;refine hK.out _ _ (fun _=>hS0 _ X7.1.be) ?_;clear hK K nb nf nl nw n0 n1 n2 n3 n4 n5 n6 n7 X6
   (try simp only [Act.put,zD,zE,zF])
   generalize ((((((((w6.setCell ⟨N,0,none⟩ (.slice a1 x.s.y.pn m1)).setCell ⟨N,1,none⟩ (.slice a2 x.s.y.sn m2)).setCell ⟨N,2,none⟩ (.slice a3 x.s.y.wn m3)).setCell ⟨N,3,none⟩ (.slice a4 x.s.y.hn m4)).setCell ⟨N,4,none⟩ (.bool x.h.z.on)).setCell ⟨N,5,none⟩ (.slice a5 x.h.z.cn m5)).setCell ⟨N,6,none⟩ (.slice a6 x.h.z.ol m6)).setCell ⟨N,7,none⟩ (.slice a7 x.h.z.kn m7))=w7 at *;refine yW 9 rfl fun K hK=>?_;go_simp;refine hK.out _ _ (fun h=>absurd h (by decide)) ?_;clear hK K
   (try simp only [Act.put,zD,zE,zF])
   refine yX ?_ _
   first | exact ⟨N,a1,m1,a2,m2,a3,m3,a4,m4,a5,m5,a6,m6,a7,m7,rfl,X7⟩ | (have hN:=HNh.out;subst hN;exact ⟨_,a1,m1,a2,m2,a3,m3,a4,m4,a5,m5,a6,m6,a7,m7,rfl,X7⟩)
 rintro a' w7 ⟨N,a1,m1,a2,m2,a3,m3,a4,m4,a5,m5,a6,m6,a7,m7,rfl,X7⟩;simp only [Act.put,zD,zE,zF]
 obtain ⟨g3,rfl⟩:∃ g3,a3=some ⟨g3,0,none⟩:=by
  obtain ⟨c,h1,-,-,-,-⟩:=X7.1.ow;obtain ⟨vp,v2,vw,vh,up,us,uw,uh,ev,o⟩:=h1 rfl;simp only [Value.agg.injEq,Array.mk.injEq,List.cons.injEq,and_true] at ev;obtain ⟨rfl,rfl,rfl,rfl⟩:=ev;exact qbu o.t.row (by have:=HD.out;rw [this.2.2.2.2.2.1];exact Nat.mul_pos this.2.2.2.2.1 this.2.2.2.2.1)
 obtain ⟨g5,rfl⟩:∃ g5,a5=some ⟨g5,0,none⟩:=by
  obtain ⟨c,-,h2,-,-,-⟩:=X7.1.ow;exact qbu (h2 rfl).1 (by have:=HD.out;omega)
 obtain ⟨g6,rfl⟩:∃ g6,a6=some ⟨g6,0,none⟩:=by
  obtain ⟨c,-,-,h3,-,-⟩:=X7.1.ow;exact qbu (h3 rfl).1 (by have:=HD.out;rw [this.2.1,this.2.2.2.2.2.1];exact Nat.mul_pos this.2.2.2.2.1 this.2.2.2.2.1)
 have hJw:J<x.s.y.wn:=HJw.out
 have hJ16:J<16:=by
  have h9:x.s.y.wn<=16:=by rw [HD.2.2.2.2.2.1];exact Nat.mul_le_mul HD.2.2.2.1 HD.2.2.2.1
  omega
 have hG4:Hid (x.h.z.ol<=16):=by
  show x.h.z.ol<=16;rw [HD.2.1,HD.2.2.2.2.2.1];exact Nat.mul_le_mul HD.2.2.2.1 HD.2.2.2.1
 have hJi:(J:Int)<(x.s.y.wn:Int):=by omega
 have hJi2:(J:Int)<16:=by omega
 have N2:=X7.2.1.2.2.1;obtain ⟨b0,b1,b2,b3,b4,b5,b6,b7⟩:=(HRB.out _ (B3.trans (X7.1.be.mono B3.size))).1;go_wp2_with fail
 refine qa1 (fun w'=>w'.cell? ⟨N,2,none⟩=some (sG g3 x.s.y.wn m3)/\w'.cell? ⟨w.heap.size,0,none⟩=some (.slice x.s.pa x.s.pn x.s.pc)/\w'.cell? ⟨w.heap.size,1,none⟩=some (.slice x.s.sa x.s.sn x.s.sc)/\w'.cell? ⟨w.heap.size,2,none⟩=some (.slice x.s.wa x.s.wn x.s.wc)/\w'.cell? ⟨w.heap.size,3,none⟩=some (.slice x.s.ha x.s.hn x.s.hc)) (fun i=>i == 11) (by kernel_rfl) ?_;have hHeld:=And.intro N2 (And.intro b0 (And.intro b1 (And.intro b2 b3)))
 have hHd:∀ wx,Below w7.heap.size w7 wx->wx.cell? ⟨N,2,none⟩=some (sG g3 x.s.y.wn m3)/\wx.cell? ⟨w.heap.size,0,none⟩=some (.slice x.s.pa x.s.pn x.s.pc)/\wx.cell? ⟨w.heap.size,1,none⟩=some (.slice x.s.sa x.s.sn x.s.sc)/\wx.cell? ⟨w.heap.size,2,none⟩=some (.slice x.s.wa x.s.wn x.s.wc)/\wx.cell? ⟨w.heap.size,3,none⟩=some (.slice x.s.ha x.s.hn x.s.hc):=fun wx hb=>by
  obtain ⟨h0,h1,h2,h3,-⟩:=(HRB.out wx (B3.trans ((X7.1.be.trans (hb.mono X7.1.be.size)).mono B3.size))).1;exact ⟨((qap hb).1 _ _ X7.2.1.lt).trans N2,h0,h1,h2,h3⟩
 clear b0 b1 b2 b3 b4 b5 b6 b7;refine qcn [0,1,2,3,4,5,6,7] ?_;iterate 8 (refine qdl rfl hHeld ?_)
 refine qb0 ?_;clear hHeld;have QB:∀ wx,Below w7.heap.size w7 wx->Below w.heap.size w wx:=fun wx hb=>(B1.1.trans (B3.mono B1.1.size)).trans ((X7.1.be.trans (hb.mono X7.1.be.size)).mono (zO B1.1.size B3.size));refine yW 8 rfl fun K hK=>?_;refine qas rfl 40 _ _ rfl #[x.s.v,.int .i64 A,.int .i64 B] (by simp [Act.eval,SysIn.v,sysV]) (zZ func40) (HQu.out w7.drew (QB _ (nE _ _).drew)) ?_;rintro e w8 ⟨rfl,q8⟩;have q8:Below w7.heap.size w7 w8:=(nE w7.heap.size w7).drew.trans q8;refine ⟨_,rfl,hK.out _ _ (fun _=>hHd w8 q8) ?_⟩;clear hK K
 (try simp only [Act.put,zD,zE,zF])
 refine yW 9 rfl fun K hK=>?_;refine qas rfl 41 _ _ rfl #[.agg #[.slice (x.s.wA J) (x.s.wL J) (x.s.wC J),.int .i64 12]] (by simp [Act.eval]) (zZ func41) (HRe.out w8 (QB _ q8)) ?_;rintro e w9 ⟨a9,c9,rfl,o9,-,q9⟩;have q9:Below w7.heap.size w7 w9:=q8.trans (q9.mono q8.size);have o9:=o9.mono q8.size;refine ⟨_,rfl,hK.out _ _ (fun _=>hHd w9 q9) ?_⟩;clear hK K q8
 (try simp only [Act.put,zD,zE,zF])
 obtain ⟨⟨uJ,cJ⟩,fJ⟩:=PrL.cell3 (X7.1.bw q9) hJw;have hNg:N≠g3:=PrL.ne3 X7.1 rfl;have hN9:(w9.setCell ⟨g3,J,none⟩ (.slice a9 (x.s.wL J - 1) c9)).heap[N]? = w7.heap[N]?:=(zN _ _ _ _ fun e=>hNg e).trans (q9.block N X7.2.1.lt);have X8:Hid (PrL w3 w3.heap.size (x.s.y.cutW J) x.h.z true true true true (.agg #[.slice a1 x.s.y.pn m1,.slice a2 x.s.y.sn m2,.slice (some ⟨g3,0,none⟩) x.s.y.wn m3,.slice a4 x.s.y.hn m4]) (sG g5 x.h.z.cn m5) (sG g6 x.h.z.ol m6) (.slice a7 x.h.z.kn m7) (fun k=>k=N) (w9.setCell ⟨g3,J,none⟩ (.slice a9 (x.s.wL J - 1) c9))/\BoxH (w9.setCell ⟨g3,J,none⟩ (.slice a9 (x.s.wL J - 1) c9)) N (.slice a1 x.s.y.pn m1) (.slice a2 x.s.y.sn m2) (sG g3 x.s.y.wn m3) (.slice a4 x.s.y.hn m4) (.bool x.h.z.on) (sG g5 x.h.z.cn m5) (sG g6 x.h.z.ol m6) (.slice a7 x.h.z.kn m7)/\(∀ j,(w9.setCell ⟨g3,J,none⟩ (.slice a9 (x.s.wL J - 1) c9)).frozen? ⟨N,j,none⟩=false)/\w3.heap.size<=N):=⟨PrL.wayPut X7.1 hJw q9 o9,X7.2.1.blk hN9,fun j=>(zI hN9).trans (X7.2.2.1 j),X7.2.2.2⟩
 have hS9:=hHd w9 q9;clear o9 hNg hN9 N2;refine qgu 10 rfl hS9 ?_;refine yW 11 rfl fun K hK=>?_;go_simp;refine hK.out _ _ (fun h=>absurd h (by decide)) ?_;clear hK K
 (try simp only [Act.put,zD,zE,zF])
 refine yX ?_ _;clear hS9 hHd QB cJ fJ q9 X7;generalize w9.setCell ⟨g3,J,none⟩ (.slice a9 (x.s.wL J - 1) c9)=w10 at *;obtain ⟨p0,p1,p2,p3,p4,p5,p6,p7⟩:=X8.2.1;go_wp2_with fail
 clear p0 p1 p2 p3 p4 p5 p6 p7;refine (qfu ⟨x.h.z.on,some ⟨g5,0,none⟩,x.h.z.cn,m5,x.h.z.cH,some ⟨g6,0,none⟩,x.h.z.ol,m6,x.h.z.oH,a7,x.h.z.kn,m7,fun _=>none,fun _=>0,fun _=>0,fun _ _=>0⟩ w10 X8.1.zil (by have:=HD.out;show x.h.z.cn<=1048576;omega)).mono ?_;rintro e w11 ⟨P0,rfl,l5,pl5,q5⟩
 have hne5:N≠P0:=by
  have:=X8.2.1.lt;omega
 have X9 : Hid (PrL w3 w3.heap.size (x.s.y.cutW J) x.h.z true true true true (.agg #[.slice a1 x.s.y.pn m1, .slice a2 x.s.y.sn m2, .slice (some ⟨g3, 0, none⟩) x.s.y.wn m3, .slice a4 x.s.y.hn m4]) (.slice (some ⟨g5, 0, none⟩) x.h.z.cn m5) (.slice (some ⟨g6, 0, none⟩) x.h.z.ol m6) (.slice a7 x.h.z.kn m7) (fun k => k = N ∨ k = P0) w11 ∧ BoxH w11 N (.slice a1 x.s.y.pn m1) (.slice a2 x.s.y.sn m2) (.slice (some ⟨g3, 0, none⟩) x.s.y.wn m3) (.slice a4 x.s.y.hn m4) (.bool x.h.z.on) (.slice (some ⟨g5, 0, none⟩) x.h.z.cn m5) (.slice (some ⟨g6, 0, none⟩) x.h.z.ol m6) (.slice a7 x.h.z.kn m7) ∧ (∀ j, w11.frozen? ⟨N, j, none⟩ = false) ∧ PicL w11 P0 0 (.bool x.h.z.on) (.slice (some ⟨g5, 0, none⟩) x.h.z.cn m5) (.slice (some ⟨g6, 0, none⟩) x.h.z.ol m6) (.slice a7 x.h.z.kn m7) (cntD x.h.z.cH x.h.z.cn) ∧ w3.heap.size ≤ P0 ∧ N ≠ P0 ∧ w3.heap.size ≤ N) := ⟨X8.1.fresh q5 _ fun k hk => by
  rcases hk with rfl | rfl
  ·exact .inl rfl
  ·exact .inr ⟨l5,pl5.lt⟩,X8.2.1.bw q5,fun j=>((qap q5).2 _ j X8.2.1.lt).trans (X8.2.2.1 j),pl5.l,zO X8.1.be.size l5,hne5,X8.2.2.2⟩
 clear l5 pl5 q5 hne5 X8;have B9:Hid (Below w1.heap.size w1 w11):=B3.trans (X9.1.be.mono B3.size);obtain ⟨b0,b1,b2,b3,b4,b5,b6,b7⟩:=(HRB.out w11 B9.out).1
 have hBc:B<x.h.cn:=by
  have h9:x.h.cn=x.s.pn:=HD.1;have:=HPn.1.2;omega
 have hBi:(B:Int)<(x.h.cn:Int):=by omega
 have hB4:(B:Int)<4:=by
  have h9:x.s.pn<=4:=HD.2.2.2.1;have:=HPn.1.2;omega
 obtain ⟨bc,oc,ec,-,cc⟩:=(HG.1.bw (B1.1.trans (B9.mono B1.1.size))).h.c.at hBc;rw [ec] at b5;by_cases hcB:x.h.cH B = -1
 case' pos=>
  have t0:((x.h.cH B) == -1)=true:=by simp [hcB]
  obtain ⟨p0,p1,p2,p3,p4,p5,p6,p7⟩:=X9.2.1;go_wp2_with fail
  clear p0 p1 p2 p3 p4 p5 p6 p7 b0 b1 b2 b3 b4 b5 b6 b7 ec cc t0;obtain ⟨xs,ev,ey,gx⟩:=PrL.g (y:=x.s.y.cutW J) X9.1;have hfw:=qjd xs B w11 gx (by rw [show xs.pn=xs.y.pn from rfl,ey];exact HPn.1.2) (by rw [show xs.pn=xs.y.pn from rfl,ey];exact HD.2.2.2.1) (by rw [show xs.pn=xs.y.pn from rfl,show xs.wn=xs.y.wn from rfl,ey];exact HD.2.2.2.2.2.1);rw [ev,ey] at hfw;refine hfw.mono ?_;clear hfw ev ey gx;rintro e w12 ⟨rfl,q12⟩;have X12:Hid (PrL w3 w3.heap.size (x.s.y.cutW J) x.h.z true true true true (.agg #[.slice a1 x.s.y.pn m1,.slice a2 x.s.y.sn m2,.slice (some ⟨g3,0,none⟩) x.s.y.wn m3,.slice a4 x.s.y.hn m4]) (sG g5 x.h.z.cn m5) (sG g6 x.h.z.ol m6) (.slice a7 x.h.z.kn m7) (fun k=>k=N\/k=P0) w12/\BoxH w12 N (.slice a1 x.s.y.pn m1) (.slice a2 x.s.y.sn m2) (sG g3 x.s.y.wn m3) (.slice a4 x.s.y.hn m4) (.bool x.h.z.on) (sG g5 x.h.z.cn m5) (sG g6 x.h.z.ol m6) (.slice a7 x.h.z.kn m7)/\(∀ j,w12.frozen? ⟨N,j,none⟩=false)/\PicL w12 P0 0 (.bool x.h.z.on) (sG g5 x.h.z.cn m5) (sG g6 x.h.z.ol m6) (.slice a7 x.h.z.kn m7) (cntD x.h.z.cH x.h.z.cn)/\w3.heap.size<=P0/\N≠P0/\w3.heap.size<=N):=⟨X9.1.bw q12,X9.2.1.bw q12,fun j=>((qap q12).2 _ j X9.2.1.lt).trans (X9.2.2.1 j),X9.2.2.2.1.blk (q12.block P0 (zJ _ _ X9.2.2.2.1.l0)),X9.2.2.2.2⟩
  clear q12 X9 B9;generalize hf:pB ((x.s.y.cutW J).HasFull B)=T;cases T
  case true=>
   have B12:Hid (Below w1.heap.size w1 w12):=B3.trans (X12.1.be.mono B3.size);have h5:x.h.z.cH (B:Int).toNat = -1/\pB ((x.s.y.cutW (x.s.y.wy A B)).HasFull (B:Int).toNat)=true:=⟨by rw [nF];exact hcB,by rw [HJe.out,nF];exact hf⟩
   have HV:Hid (mrC x.s.y x.h.z A B=5/\mrY x.s.y x.h.z A B=x.s.y/\mrQ x.s.y x.h.z A B=x.h.z):=by
    have h1:mrC x.s.y x.h.z A B=5:=(nB (by rw [HT.out];decide)).trans ((nB (not_not_intro HPn.2)).trans ((nB (by rw [HMF.1];decide)).trans (nC h5)));exact ⟨h1,(nB (by rw [h1];decide)).trans (nB (by rw [h1];decide)),(nB (by rw [h1];decide)).trans (nB (by rw [h1];decide))⟩
   clear hf hcB h5;obtain ⟨b0,b1,b2,b3,b4,b5,b6,b7⟩:=(HRB.out w12 B12.out).1;go_wp2_with fail
   clear b0 b1 b2 b3 b4 b5 b6 b7;refine (HCp.out w12 (B1.1.trans (B12.mono B1.1.size))).mono ?_;rintro e w99 ⟨v9,rfl,o9,q9⟩;have l9:=B12.size;have BE9:Hid (Below w1.heap.size w1 w99):=B12.trans (q9.mono l9);obtain ⟨k1,n1,k2,n2,k3,n3,k4,n4,k5,n5,k6,n6,k7,n7,rfl,n9⟩:=qbm.of o9;obtain ⟨-,⟨r0,r1,r2,r3,r4,r5,r6,r7⟩,rf,l1⟩:=HRB.out w99 BE9.out;have HE:Hid (qba w99 w12.heap.size x.s.y x.h.z (.agg #[.slice k1 x.s.y.pn n1,.slice k2 x.s.y.sn n2,.slice k3 x.s.y.wn n3,.slice k4 x.s.y.hn n4,.bool x.h.z.on,.slice k5 x.h.z.cn n5,.slice k6 x.h.z.ol n6,.slice k7 x.h.z.kn n7])/\w1.heap.size<=w12.heap.size):=⟨o9,l9⟩
   clear o9 q9 n9 l9;go_wp2
   exact bodyPost_ret (v := .tuple #[.agg #[.slice k1 x.s.y.pn n1, .slice k2 x.s.y.sn n2, .slice k3 x.s.y.wn n3, .slice k4 x.s.y.hn n4, .bool x.h.z.on, .slice k5 x.h.z.cn n5, .slice k6 x.h.z.ol n6, .slice k7 x.h.z.kn n7], .int .i64 5]) (by simp [results, results14, go_sem, r0, r1, r2, r3, r4, r5, r6, r7]) rfl ⟨_, by rw [HV.1], by
    rw [HV.2.1,HV.2.2]
    exact (HE.1.set8 (by have:=LR.out;have:=HE.2;omega) _ _ _ _ _ _ _ _).base (zO LN.out HE.2),qax (B1.1.trans (BE9.mono B1.1.size)) hM _ _ _ _ _ _ _ _⟩
  have HV:Hid (mrC x.s.y x.h.z A B=0/\mrY x.s.y x.h.z A B=(x.s.y.cutW J).dwn B x.s.y.pn/\mrQ x.s.y x.h.z A B=Sh.shutW (x.h.z.drawn B (x.s.y.hL B:Int)) J):=by
   have h5:¬ (x.h.z.cH (B:Int).toNat = -1/\pB ((x.s.y.cutW (x.s.y.wy A B)).HasFull (B:Int).toNat)=true):=by
    rw [HJe.out,nF,hf];simp
   have h1:mrC x.s.y x.h.z A B=0:=(nB (by rw [HT.out];decide)).trans ((nB (not_not_intro HPn.2)).trans ((nB (by rw [HMF.1];decide)).trans (nB h5)));have hcB':x.h.z.cH (B:Int).toNat = -1:=hcB;refine ⟨h1,?_,?_⟩
   ·unfold mrY
    rw [nB (by rw [h1];decide),nC h1,nC hcB',HJe.out];rfl
   ·unfold mrQ
    rw [nB (by rw [h1];decide),nC h1,nC hcB',HJe.out];rfl
  clear hf hcB;obtain ⟨p0,p1,p2,p3,p4,p5,p6,p7⟩:=X12.2.1;go_wp2_with fail
  clear p0 p1 p2 p3 p4 p5 p6 p7;refine (qsw w3 (x.s.y.cutW J) x.h.z true _ _ w12 P0 B (cntD x.h.z.cH x.h.z.cn) g3 g5 g6 m5 m6 m1 m2 m3 m4 a1 a2 a4 _ _ X12.1 (.inr rfl) X12.2.2.2.2.1 X12.2.2.2.1 HPn.1.2 HD.2.2.2.1 HD.2.2.2.2.2.1 HD.2.2.2.2.2.2 HD.1 HD.2.1 (fun j hj=>zO (Sy.cutW_wL HO.2 J j hj) (by decide)) (HG.2.1.s.h.2 B (by have:=HPn.1.2;have:=HD.out;show B<x.s.y.hn;rw [this.2.2.2.2.2.2];exact HPn.1.2)) (by have:=qpn x.h.z.cH x.h.z.cn;have:=HD.out;omega)).mono ?_;rintro e w13 ⟨rfl,pl13,F13,k13⟩;have h13:=k13 N (.inl rfl) X12.2.2.2.2.2.1;have X13:Hid (PrL w3 w3.heap.size ((x.s.y.cutW J).dwn B x.s.y.pn) (x.h.z.drawn B (x.s.y.hL B:Int)) true true true true (.agg #[.slice a1 x.s.y.pn m1,.slice a2 x.s.y.sn m2,.slice (some ⟨g3,0,none⟩) x.s.y.wn m3,.slice a4 x.s.y.hn m4]) (sG g5 x.h.z.cn m5) (sG g6 x.h.z.ol m6) (.slice a7 x.h.z.kn m7) (fun k=>k=N\/k=P0) w13/\BoxH w13 N (.slice a1 x.s.y.pn m1) (.slice a2 x.s.y.sn m2) (sG g3 x.s.y.wn m3) (.slice a4 x.s.y.hn m4) (.bool x.h.z.on) (sG g5 x.h.z.cn m5) (sG g6 x.h.z.ol m6) (.slice a7 x.h.z.kn m7)/\(∀ j,w13.frozen? ⟨N,j,none⟩=false)/\PicL w13 P0 0 (.bool x.h.z.on) (sG g5 x.h.z.cn m5) (sG g6 x.h.z.ol m6) (.slice a7 x.h.z.kn m7) (cntD x.h.z.cH x.h.z.cn+1:Nat)/\w3.heap.size<=P0/\N≠P0/\w3.heap.size<=N):=⟨PrL.onAs F13 true,X12.2.1.blk h13,fun j=>(zI h13).trans (X12.2.2.1 j),pl13,X12.2.2.2.2⟩
  have HNN:Hid (0<cntD x.h.z.cH x.h.z.cn+1):=Nat.succ_pos _;generalize cntD x.h.z.cH x.h.z.cn+1=nn at *;clear pl13 F13 k13 h13 X12
 case' neg=>
  have t0:((x.h.cH B) == -1)=false:=by simp [hcB]
  have HV:Hid (mrC x.s.y x.h.z A B=0/\mrY x.s.y x.h.z A B=x.s.y.cutW J/\mrQ x.s.y x.h.z A B=Sh.shutW x.h.z J):=by
   have hcB':¬ x.h.z.cH (B:Int).toNat = -1:=hcB;have h5:¬ (x.h.z.cH (B:Int).toNat = -1/\pB ((x.s.y.cutW (x.s.y.wy A B)).HasFull (B:Int).toNat)=true):=fun h=>hcB' h.1;have h1:mrC x.s.y x.h.z A B=0:=(nB (by rw [HT.out];decide)).trans ((nB (not_not_intro HPn.2)).trans ((nB (by rw [HMF.1];decide)).trans (nB h5)));refine ⟨h1,?_,?_⟩
   ·unfold mrY
    rw [nB (by rw [h1];decide),nC h1,nB hcB',HJe.out]
   ·unfold mrQ
    rw [nB (by rw [h1];decide),nC h1,nB hcB',HJe.out]
  have HNN:Hid (0<cntD x.h.z.cH x.h.z.cn):=(qrh _ _).2 ⟨B,hBc,hcB⟩;go_upto_region 14 with fail
  clear b0 b1 b2 b3 b4 b5 b6 b7 ec cc t0 hcB;have X13:Hid (PrL w3 w3.heap.size (x.s.y.cutW J) { x.h.z with on:=true } true true true true (.agg #[.slice a1 x.s.y.pn m1,.slice a2 x.s.y.sn m2,.slice (some ⟨g3,0,none⟩) x.s.y.wn m3,.slice a4 x.s.y.hn m4]) (sG g5 x.h.z.cn m5) (sG g6 x.h.z.ol m6) (.slice a7 x.h.z.kn m7) (fun k=>k=N\/k=P0) w11/\BoxH w11 N (.slice a1 x.s.y.pn m1) (.slice a2 x.s.y.sn m2) (sG g3 x.s.y.wn m3) (.slice a4 x.s.y.hn m4) (.bool x.h.z.on) (sG g5 x.h.z.cn m5) (sG g6 x.h.z.ol m6) (.slice a7 x.h.z.kn m7)/\(∀ j,w11.frozen? ⟨N,j,none⟩=false)/\PicL w11 P0 0 (.bool x.h.z.on) (sG g5 x.h.z.cn m5) (sG g6 x.h.z.ol m6) (.slice a7 x.h.z.kn m7) (cntD x.h.z.cH x.h.z.cn)/\w3.heap.size<=P0/\N≠P0/\w3.heap.size<=N):=⟨PrL.onAs X9.1 true,X9.2⟩
  clear X9 B9;generalize cntD x.h.z.cH x.h.z.cn=nn at *;obtain ⟨w13,hw13⟩:∃ w13,w13=w11:=⟨_,rfl⟩
  subst hw13
 all_goals
  go_wp2_with fail
  refine (qw6 w3 _ _ true true true _ _ _ _ w13 P0 J g6 m6 nn _ _ _ X13.1 (.inr rfl) X13.2.2.2.2.1 X13.2.2.2.1 (by show J<x.h.z.ol;rw [HD.2.1];exact hJw) (by show x.h.z.ol<=1048576;have:=hG4.out;omega)).mono ?_;rintro e w14 ⟨rfl,pl14,F14,k14⟩;have h14:=k14 N X13.2.2.2.2.2.1 (fun e=>X13.1.ne6 (.inl rfl) (by rw [e];rfl));have X14:Hid (_/\BoxH w14 N (.slice a1 x.s.y.pn m1) (.slice a2 x.s.y.sn m2) (sG g3 x.s.y.wn m3) (.slice a4 x.s.y.hn m4) (.bool x.h.z.on) (sG g5 x.h.z.cn m5) (sG g6 x.h.z.ol m6) (.slice a7 x.h.z.kn m7)/\(∀ j,w14.frozen? ⟨N,j,none⟩=false)/\PicL w14 P0 0 (.bool x.h.z.on) (sG g5 x.h.z.cn m5) (sG g6 x.h.z.ol m6) (.slice a7 x.h.z.kn m7) nn/\w3.heap.size<=P0/\N≠P0/\w3.heap.size<=N):=⟨F14,X13.2.1.blk h14,fun j=>(zI h14).trans (X13.2.2.1 j),pl14,X13.2.2.2.2⟩
  clear pl14 F14 k14 h14 X13;go_wp2_with fail
  refine (qxl P0 x.h.z.on _ _ _ _ _ _ _ _ _ nn w14 X14.2.2.2.1).mono ?_;rintro e w15 ⟨rfl,g15⟩;rw [decide_eq_true HNN.out];have h15:=g15.block N X14.2.1.lt (fun e=>X14.2.2.2.2.2.1 (Option.some.inj e));have X15:Hid (_/\BoxH w15 N (.slice a1 x.s.y.pn m1) (.slice a2 x.s.y.sn m2) (sG g3 x.s.y.wn m3) (.slice a4 x.s.y.hn m4) (.bool x.h.z.on) (sG g5 x.h.z.cn m5) (sG g6 x.h.z.ol m6) (.slice a7 x.h.z.kn m7)/\(∀ j,w15.frozen? ⟨N,j,none⟩=false)/\w3.heap.size<=N):=⟨X14.1.grownX (.inr rfl) X14.2.2.2.2.1 g15,X14.2.1.blk h15,fun j=>(zI h15).trans (X14.2.2.1 j),X14.2.2.2.2.2.2⟩
  clear g15 h15 X14;obtain ⟨p0,p1,p2,p3,p4,p5,p6,p7⟩:=X15.2.1;have pf:=X15.2.2.1;have pl:=X15.2.1.lt;go_upto_region 16 with fail
  have X16:Hid (_/\BoxH (setS w15 N (.bool true) (sG g5 x.h.z.cn m5) (sG g6 x.h.z.ol m6) (.slice a7 x.h.z.kn m7)) N (.slice a1 x.s.y.pn m1) (.slice a2 x.s.y.sn m2) (sG g3 x.s.y.wn m3) (.slice a4 x.s.y.hn m4) (.bool true) (sG g5 x.h.z.cn m5) (sG g6 x.h.z.ol m6) (.slice a7 x.h.z.kn m7)):=⟨X15.1.setS (.inl rfl) X15.2.2.2 (.bool true) (sG g5 x.h.z.cn m5) (sG g6 x.h.z.ol m6) (.slice a7 x.h.z.kn m7),quj X15.2.1 _ _ _ _⟩
  unfold setS at X16;clear p0 p1 p2 p3 p4 p5 p6 p7 pf pl X15;generalize ((((w15.setCell ⟨N,4,none⟩ (.bool true)).setCell ⟨N,5,none⟩ (sG g5 x.h.z.cn m5)).setCell ⟨N,6,none⟩ (sG g6 x.h.z.ol m6)).setCell ⟨N,7,none⟩ (.slice a7 x.h.z.kn m7))=w16 at *;obtain ⟨p0,p1,p2,p3,p4,p5,p6,p7⟩:=X16.2;obtain ⟨-,⟨r0,r1,r2,r3,r4,r5,r6,r7⟩,rf,l1⟩:=HRB.out _ (B3.trans (X16.1.be.mono B3.size));obtain ⟨vp,v2,vw,vh,ev,OL⟩:=X16.1.live;simp only [Value.agg.injEq,Array.mk.injEq,List.cons.injEq,and_true] at ev;obtain ⟨rfl,rfl,rfl,rfl⟩:=ev;have HE:Hid (qba w16 w3.heap.size _ _ (.agg #[.slice a1 x.s.y.pn m1,.slice a2 x.s.y.sn m2,.slice (some ⟨g3,0,none⟩) x.s.y.wn m3,.slice a4 x.s.y.hn m4,.bool true,.slice (some ⟨g5,0,none⟩) x.h.z.cn m5,.slice (some ⟨g6,0,none⟩) x.h.z.ol m6,.slice a7 x.h.z.kn m7])/\Below w3.heap.size w3 w16):=⟨OL,X16.1.be⟩
  clear OL X16;go_wp2
  exact bodyPost_ret (v := .tuple #[.agg #[.slice a1 x.s.y.pn m1, .slice a2 x.s.y.sn m2, .slice (some ⟨g3, 0, none⟩) x.s.y.wn m3, .slice a4 x.s.y.hn m4, .bool true, .slice (some ⟨g5, 0, none⟩) x.h.z.cn m5, .slice (some ⟨g6, 0, none⟩) x.h.z.ol m6, .slice a7 x.h.z.kn m7], .int .i64 0]) (by simp [results, results14, go_sem, r0, r1, r2, r3, r4, r5, r6, r7]) rfl ⟨_, by rw [HV.1], by
   rw [HV.2.1,HV.2.2]
   exact (HE.1.set8 (zL LR.out B3.size) _ _ _ _ _ _ _ _).base (zO LN.out B3.size),qax ((B1.1.trans (B3.mono B1.1.size)).trans (HE.2.mono (zO B1.1.size B3.size))) hM _ _ _ _ _ _ _ _⟩
theorem qom (x:LvIn) (a b:Int) (w:World) (hG:LvG w x) (hL:x.Len) (hcap:∀ i,i<x.s.hn->x.s.hL i<=x.s.hC i):
  Calls prog 13 #[x.v,.int .i64 a,.int .i64 b] w (MrR x.s.y x.h.z a b w):=by
 have HOk:Hid (∀ wx,Below w.heap.size w wx->Calls prog 19 #[x.v] wx (rB wx (.bool (pB (LvOk x.s.y x.h.z))))):=fun wx hb=>qjv x wx (hG.bw hb) hL hcap;have HCp:Hid (∀ wx,Below w.heap.size w wx->Calls prog 21 #[x.v] wx fun e w'=>∃ v,e=.returned v/\qba w' wx.heap.size x.s.y x.h.z v/\Below wx.heap.size wx w'):=fun wx hb=>qqa x wx (hG.bw hb) hL;have HG:Hid (LvG w x/\x.Len):=⟨hG,hL⟩
 have BW:Hid (Below w.heap.size w ((w.alloc (oQ7 x.s.pa x.s.pn x.s.pc x.s.sa x.s.sn x.s.sc x.s.wa x.s.wn x.s.wc x.s.ha x.s.hn x.s.hc x.h.on x.h.ca x.h.cn x.h.cc x.h.oa x.h.ol x.h.oc x.h.ka x.h.kn x.h.kc)).alloc (zQ5))):=(zP _ _).trans ((zP _ _).mono (by simp));have NB:Hid (BoxH ((w.alloc (oQ7 x.s.pa x.s.pn x.s.pc x.s.sa x.s.sn x.s.sc x.s.wa x.s.wn x.s.wc x.s.ha x.s.hn x.s.hc x.h.on x.h.ca x.h.cn x.h.cc x.h.oa x.h.ol x.h.oc x.h.ka x.h.kn x.h.kc)).alloc (zQ5)) w.heap.size (.slice x.s.pa x.s.pn x.s.pc) (.slice x.s.sa x.s.sn x.s.sc) (.slice x.s.wa x.s.wn x.s.wc) (.slice x.s.ha x.s.hn x.s.hc) (.bool x.h.on) (.slice x.h.ca x.h.cn x.h.cc) (.slice x.h.oa x.h.ol x.h.oc) (.slice x.h.ka x.h.kn x.h.kc)):=(BoxH.new w _ _ _ _ _ _ _ _ _).bw (zP _ _)
 have RB:Hid (BoxH ((w.alloc (oQ7 x.s.pa x.s.pn x.s.pc x.s.sa x.s.sn x.s.sc x.s.wa x.s.wn x.s.wc x.s.ha x.s.hn x.s.hc x.h.on x.h.ca x.h.cn x.h.cc x.h.oa x.h.ol x.h.oc x.h.ka x.h.kn x.h.kc)).alloc (zQ5)) (w.heap.size+1) nS nS nS nS (.bool false) nS nS nS/\∀ j,((w.alloc (oQ7 x.s.pa x.s.pn x.s.pc x.s.sa x.s.sn x.s.sc x.s.wa x.s.wn x.s.wc x.s.ha x.s.hn x.s.hc x.h.on x.h.ca x.h.cn x.h.cc x.h.oa x.h.ol x.h.oc x.h.ka x.h.kn x.h.kc)).alloc (zQ5)).frozen? ⟨w.heap.size+1,j,none⟩=false):=by
  have e:(w.alloc (oQ7 x.s.pa x.s.pn x.s.pc x.s.sa x.s.sn x.s.sc x.s.wa x.s.wn x.s.wc x.s.ha x.s.hn x.s.hc x.h.on x.h.ca x.h.cn x.h.cc x.h.oa x.h.ol x.h.oc x.h.ka x.h.kn x.h.kc)).heap.size=w.heap.size+1:=by simp
  rw [<- e];exact ⟨BoxH.new _ _ _ _ _ _ _ _ _ _,fun j=>yA _ _ _ _ rfl⟩
 have hM:w.heap.size<=w.heap.size+1:=nK _;have hpl:(x.s.pn:Int)<=1048576:=by have:=hL.s.p.1;omega
 clear hG hL hcap
 go_enter func13,ntmps13
 go_upto_block 0 with fail
 generalize ((w.alloc (oQ7 x.s.pa x.s.pn x.s.pc x.s.sa x.s.sn x.s.sc x.s.wa x.s.wn x.s.wc x.s.ha x.s.hn x.s.hc x.h.on x.h.ca x.h.cn x.h.cc x.h.oa x.h.ol x.h.oc x.h.ka x.h.kn x.h.kc)).alloc (zQ5))=W2 at *;obtain ⟨b0,b1,b2,b3,b4,b5,b6,b7⟩:=NB.out;go_wp2_with fail
 clear b0 b1 b2 b3 b4 b5 b6 b7;refine (HOk.out W2 BW.out).mono ?_;rintro e w1 ⟨rfl,q1⟩;have B1:Hid (Below w.heap.size w w1/\BoxH w1 w.heap.size (.slice x.s.pa x.s.pn x.s.pc) (.slice x.s.sa x.s.sn x.s.sc) (.slice x.s.wa x.s.wn x.s.wc) (.slice x.s.ha x.s.hn x.s.hc) (.bool x.h.on) (.slice x.h.ca x.h.cn x.h.cc) (.slice x.h.oa x.h.ol x.h.oc) (.slice x.h.ka x.h.kn x.h.kc)/\BoxH w1 (w.heap.size+1) nS nS nS nS (.bool false) nS nS nS/\∀ j,w1.frozen? ⟨w.heap.size+1,j,none⟩=false):=⟨BW.trans (q1.mono BW.size),NB.bw q1,RB.1.bw q1,fun j=>((qap q1).2 _ j RB.1.lt).trans (RB.2 j)⟩
 clear q1 BW NB RB HOk;have LR:Hid (w.heap.size+1<w1.heap.size):=B1.2.2.1.lt;have LN:Hid (w.heap.size<=w1.heap.size):=B1.1.size;have HRB:Hid (∀ wx,Below w1.heap.size w1 wx->BoxH wx w.heap.size (.slice x.s.pa x.s.pn x.s.pc) (.slice x.s.sa x.s.sn x.s.sc) (.slice x.s.wa x.s.wn x.s.wc) (.slice x.s.ha x.s.hn x.s.hc) (.bool x.h.on) (.slice x.h.ca x.h.cn x.h.cc) (.slice x.h.oa x.h.ol x.h.oc) (.slice x.h.ka x.h.kn x.h.kc)/\BoxH wx (w.heap.size+1) nS nS nS nS (.bool false) nS nS nS/\(∀ j,wx.frozen? ⟨w.heap.size+1,j,none⟩=false)/\w.heap.size+1<wx.heap.size):=fun wx hb=>⟨B1.2.1.bw hb,B1.2.2.1.bw hb,fun j=>((qap hb).2 _ j LR.out).trans (B1.2.2.2 j),zL LR.out hb.size⟩
 have R1:Hid (Below w1.heap.size w1 w1):=nE _ _;generalize hT:pB (LvOk x.s.y x.h.z)=T;cases T
 ·have HV:Hid (mrC x.s.y x.h.z a b=1/\mrY x.s.y x.h.z a b=x.s.y.nil/\mrQ x.s.y x.h.z a b=sh0 0 0):=by
   have h1:mrC x.s.y x.h.z a b=1:=nC hT;exact ⟨h1,nC h1,nC h1⟩
  clear hT;obtain ⟨⟨r0,r1,r2,r3,r4,r5,r6,r7⟩,rf⟩:=B1.2.2;have l1:=LR.out;go_wp2;exact bodyPost_ret (v:=.tuple #[qwy,.int .i64 1]) (by simp [results,results13,go_sem,r0,r1,r2,r3,r4,r5,r6,r7,qwy]) rfl ⟨_,by rw [HV.1],by rw [HV.2.1,HV.2.2];exact qba.zero _ _ _,qax B1.1 hM _ _ _ _ _ _ _ _⟩
 have HT:Hid (pB (LvOk x.s.y x.h.z)=true):=hT
 have HO:Hid (LvOk x.s.y x.h.z/\x.s.y.Ok):=by
  have h1:LvOk x.s.y x.h.z:=by
   apply Classical.byContradiction;intro h;rw [qak h] at hT;cases hT
  exact ⟨h1,Sy.ok_of h1.s⟩
 clear hT
 have hpn:(x.s.pn:Int)<=4:=by
  have h9:x.s.pn<=4:=HO.2.cn.1.2;omega
 have hpn1:(1:Int)<=(x.s.pn:Int):=by
  have h9:1<=x.s.pn:=HO.2.cn.1.1;omega
 go_wp2_with fail
 refine (l1In_any _ _ _ _).mono ?_;rintro e w' ⟨rfl,hw⟩;have hw2:=hw.symm;subst hw2;clear hw;generalize hba:inB a 0 ((x.s.pn:Int) - 1)=T;cases T
 ·have h0:¬ ((0<=a/\a<(x.s.y.pn:Int))/\(0<=b/\b<(x.s.y.pn:Int))):=by
   intro h
   have h2:inB a 0 ((x.s.pn:Int) - 1)=true:=by
    have h3:a<(x.s.pn:Int):=h.1.2;have h4:=h.1.1;simp only [inB,nI];omega
   rw [h2] at hba;cases hba
  have HV:Hid (mrC x.s.y x.h.z a b=2/\mrY x.s.y x.h.z a b=x.s.y/\mrQ x.s.y x.h.z a b=x.h.z):=by
   have h1:mrC x.s.y x.h.z a b=2:=(nB (by rw [HT.out];decide)).trans (nC h0);exact ⟨h1,(nB (by rw [h1];decide)).trans (nB (by rw [h1];decide)),(nB (by rw [h1];decide)).trans (nB (by rw [h1];decide))⟩
  clear hba h0;go_upto_region 5 with fail
  obtain ⟨b0,b1,b2,b3,b4,b5,b6,b7⟩:=(HRB.out w1 R1.out).1;go_wp2_with fail
  clear b0 b1 b2 b3 b4 b5 b6 b7;refine (HCp.out w1 (B1.1.trans (R1.mono B1.1.size))).mono ?_;rintro e w99 ⟨v9,rfl,o9,q9⟩;have l9:=R1.size;have BE9:Hid (Below w1.heap.size w1 w99):=R1.trans (q9.mono l9);obtain ⟨k1,n1,k2,n2,k3,n3,k4,n4,k5,n5,k6,n6,k7,n7,rfl,n9⟩:=qbm.of o9;obtain ⟨-,⟨r0,r1,r2,r3,r4,r5,r6,r7⟩,rf,l1⟩:=HRB.out w99 BE9.out;have HE:Hid (qba w99 w1.heap.size x.s.y x.h.z (.agg #[.slice k1 x.s.y.pn n1,.slice k2 x.s.y.sn n2,.slice k3 x.s.y.wn n3,.slice k4 x.s.y.hn n4,.bool x.h.z.on,.slice k5 x.h.z.cn n5,.slice k6 x.h.z.ol n6,.slice k7 x.h.z.kn n7])/\w1.heap.size<=w1.heap.size):=⟨o9,l9⟩
  clear o9 q9 n9 l9;go_wp2
  exact bodyPost_ret (v := .tuple #[.agg #[.slice k1 x.s.y.pn n1, .slice k2 x.s.y.sn n2, .slice k3 x.s.y.wn n3, .slice k4 x.s.y.hn n4, .bool x.h.z.on, .slice k5 x.h.z.cn n5, .slice k6 x.h.z.ol n6, .slice k7 x.h.z.kn n7], .int .i64 2]) (by simp [results, results13, go_sem, r0, r1, r2, r3, r4, r5, r6, r7]) rfl ⟨_, by rw [HV.1], by
   rw [HV.2.1,HV.2.2]
   exact (HE.1.set8 (by have:=LR.out;have:=HE.2;omega) _ _ _ _ _ _ _ _).base (zO LN.out HE.2),qax (B1.1.trans (BE9.mono B1.1.size)) hM _ _ _ _ _ _ _ _⟩
 go_wp2_with fail
 refine (l1In_any _ _ _ _).mono ?_;rintro e w' ⟨rfl,hw⟩;have hw2:=hw.symm;subst hw2;clear hw;generalize hbb:inB b 0 ((x.s.pn:Int) - 1)=T;cases T
 ·have h0:¬ ((0<=a/\a<(x.s.y.pn:Int))/\(0<=b/\b<(x.s.y.pn:Int))):=by
   intro h
   have h2:inB b 0 ((x.s.pn:Int) - 1)=true:=by
    have h3:b<(x.s.pn:Int):=h.2.2;have h4:=h.2.1;simp only [inB,nI];omega
   rw [h2] at hbb;cases hbb
  have HV:Hid (mrC x.s.y x.h.z a b=2/\mrY x.s.y x.h.z a b=x.s.y/\mrQ x.s.y x.h.z a b=x.h.z):=by
   have h1:mrC x.s.y x.h.z a b=2:=(nB (by rw [HT.out];decide)).trans (nC h0);exact ⟨h1,(nB (by rw [h1];decide)).trans (nB (by rw [h1];decide)),(nB (by rw [h1];decide)).trans (nB (by rw [h1];decide))⟩
  clear hba hbb h0;go_upto_region 5 with fail
  obtain ⟨b0,b1,b2,b3,b4,b5,b6,b7⟩:=(HRB.out w1 R1.out).1;go_wp2_with fail
  clear b0 b1 b2 b3 b4 b5 b6 b7;refine (HCp.out w1 (B1.1.trans (R1.mono B1.1.size))).mono ?_;rintro e w99 ⟨v9,rfl,o9,q9⟩;have l9:=R1.size;have BE9:Hid (Below w1.heap.size w1 w99):=R1.trans (q9.mono l9);obtain ⟨k1,n1,k2,n2,k3,n3,k4,n4,k5,n5,k6,n6,k7,n7,rfl,n9⟩:=qbm.of o9;obtain ⟨-,⟨r0,r1,r2,r3,r4,r5,r6,r7⟩,rf,l1⟩:=HRB.out w99 BE9.out;have HE:Hid (qba w99 w1.heap.size x.s.y x.h.z (.agg #[.slice k1 x.s.y.pn n1,.slice k2 x.s.y.sn n2,.slice k3 x.s.y.wn n3,.slice k4 x.s.y.hn n4,.bool x.h.z.on,.slice k5 x.h.z.cn n5,.slice k6 x.h.z.ol n6,.slice k7 x.h.z.kn n7])/\w1.heap.size<=w1.heap.size):=⟨o9,l9⟩
  clear o9 q9 n9 l9;go_wp2
  exact bodyPost_ret (v := .tuple #[.agg #[.slice k1 x.s.y.pn n1, .slice k2 x.s.y.sn n2, .slice k3 x.s.y.wn n3, .slice k4 x.s.y.hn n4, .bool x.h.z.on, .slice k5 x.h.z.cn n5, .slice k6 x.h.z.ol n6, .slice k7 x.h.z.kn n7], .int .i64 2]) (by simp [results, results13, go_sem, r0, r1, r2, r3, r4, r5, r6, r7]) rfl ⟨_, by rw [HV.1], by
   rw [HV.2.1,HV.2.2]
   exact (HE.1.set8 (by have:=LR.out;have:=HE.2;omega) _ _ _ _ _ _ _ _).base (zO LN.out HE.2),qax (B1.1.trans (BE9.mono B1.1.size)) hM _ _ _ _ _ _ _ _⟩
 obtain ⟨A,rfl,hA⟩:∃ P:Nat,a=P/\P<x.s.pn:=by
  simp only [inB,nI] at hba;exact ⟨a.toNat,by omega,by omega⟩
 obtain ⟨B,rfl,hB⟩:∃ P:Nat,b=P/\P<x.s.pn:=by
  simp only [inB,nI] at hbb;exact ⟨b.toNat,by omega,by omega⟩
 have HD:Hid (x.h.z.cn=x.s.y.pn/\x.h.z.ol=x.s.y.wn/\x.h.z.kn=x.s.y.wn/\x.s.y.pn<=4/\1<=x.s.y.pn/\x.s.y.wn=x.s.y.pn*x.s.y.pn/\x.s.y.hn=x.s.y.pn):=⟨HO.1.f.1,HO.1.f.2.1,HO.1.f.2.2,HO.2.cn.1.2,HO.2.cn.1.1,HO.2.cn.2.2.2,HO.2.cn.2.2.1⟩
 have HPn:Hid ((A<x.s.pn/\B<x.s.pn)/\((0<=(A:Int)/\(A:Int)<(x.s.y.pn:Int))/\(0<=(B:Int)/\(B:Int)<(x.s.y.pn:Int)))):=⟨⟨hA,hB⟩,⟨by omega,by show (A:Int)<(x.s.pn:Int);omega⟩,by omega,by show (B:Int)<(x.s.pn:Int);omega⟩
 have HJw:Hid (A*x.s.pn+B<x.s.wn):=by
  have hw:x.s.wn=x.s.pn*x.s.pn:=HD.2.2.2.2.2.1;show A*x.s.pn+B<x.s.wn;rw [hw];exact zL (Nat.add_lt_add_left hB _) (by rw [<- Nat.succ_mul];exact Nat.mul_le_mul_right _ hA)
 have HJe:Hid (x.s.y.wy A B=A*x.s.pn+B):=rfl
 have hwn16:x.s.wn<=16:=by
  have h9:x.s.wn=x.s.pn*x.s.pn:=HD.2.2.2.2.2.1;rw [h9];exact Nat.mul_le_mul HD.2.2.2.1 HD.2.2.2.1
 have hA4:A<4:=by have h9:x.s.pn<=4:=HD.2.2.2.1;omega
 have hpp:A*x.s.pn<=16:=zO (Nat.mul_le_mul (show A<=4 by omega) HD.2.2.2.1) (by omega);have hmul:(A:Int)*(x.s.pn:Int)=((A*x.s.pn:Nat):Int):=by simp
 generalize A*x.s.pn=M at *;have hadd:(M:Int)+(B:Int)=((M+B:Nat):Int):=by simp
 generalize M+B=J at *;have hM16:(M:Int)<=16:=by omega
 have hJi:(J:Int)<(x.s.wn:Int):=by have:=HJw.out;omega
 have hJ16:(J:Int)<=16:=by omega
 have hB4:(B:Int)<4:=by omega
 clear hba hbb hA hB;obtain ⟨bx,ox,ex,cx⟩:=(HG.1.bw B1.1).s.w.at HJw.out;obtain ⟨b0,b1,b2,b3,b4,b5,b6,b7⟩:=B1.2.1;generalize hon:x.h.on=T at b4;cases T
 case false=>
  have hNM:¬ x.s.y.Marks:=by
   rcases HO.1.m with h | h
   ·have h9:x.h.on=true:=h
    rw [hon] at h9;cases h9
   ·exact h
  have h0:x.s.y.MkF (x.s.y.wy A B)=false:=by
   rw [HJe.out];apply Bool.eq_false_iff.2;intro h;simp only [Sy.MkF,nH,nI] at h;exact hNM ⟨J,HJw.out,0,by omega,h.2⟩
  have HV:Hid (mrC x.s.y x.h.z A B=4/\mrY x.s.y x.h.z A B=x.s.y/\mrQ x.s.y x.h.z A B=x.h.z):=by
   have h1:mrC x.s.y x.h.z A B=4:=(nB (by rw [HT.out];decide)).trans ((nB (not_not_intro HPn.2)).trans (nC h0));exact ⟨h1,(nB (by rw [h1];decide)).trans (nB (by rw [h1];decide)),(nB (by rw [h1];decide)).trans (nB (by rw [h1];decide))⟩
  clear h0 hNM;go_upto_region 7 with fail
  rw [hon] at *;clear hon b0 b1 b2 b3 b4 b5 b6 b7 ex cx;obtain ⟨b0,b1,b2,b3,b4,b5,b6,b7⟩:=(HRB.out w1 R1.out).1;go_wp2_with fail
  clear b0 b1 b2 b3 b4 b5 b6 b7;refine (HCp.out w1 (B1.1.trans (R1.mono B1.1.size))).mono ?_;rintro e w99 ⟨v9,rfl,o9,q9⟩;have l9:=R1.size;have BE9:Hid (Below w1.heap.size w1 w99):=R1.trans (q9.mono l9);obtain ⟨k1,n1,k2,n2,k3,n3,k4,n4,k5,n5,k6,n6,k7,n7,rfl,n9⟩:=qbm.of o9;obtain ⟨-,⟨r0,r1,r2,r3,r4,r5,r6,r7⟩,rf,l1⟩:=HRB.out w99 BE9.out;have HE:Hid (qba w99 w1.heap.size x.s.y x.h.z (.agg #[.slice k1 x.s.y.pn n1,.slice k2 x.s.y.sn n2,.slice k3 x.s.y.wn n3,.slice k4 x.s.y.hn n4,.bool x.h.z.on,.slice k5 x.h.z.cn n5,.slice k6 x.h.z.ol n6,.slice k7 x.h.z.kn n7])/\w1.heap.size<=w1.heap.size):=⟨o9,l9⟩
  clear o9 q9 n9 l9;go_wp2
  exact bodyPost_ret (v := .tuple #[.agg #[.slice k1 x.s.y.pn n1, .slice k2 x.s.y.sn n2, .slice k3 x.s.y.wn n3, .slice k4 x.s.y.hn n4, .bool x.h.z.on, .slice k5 x.h.z.cn n5, .slice k6 x.h.z.ol n6, .slice k7 x.h.z.kn n7], .int .i64 4]) (by simp [results, results13, go_sem, r0, r1, r2, r3, r4, r5, r6, r7]) rfl ⟨_, by rw [HV.1], by
   rw [HV.2.1,HV.2.2]
   exact (HE.1.set8 (by have:=LR.out;have:=HE.2;omega) _ _ _ _ _ _ _ _).base (zO LN.out HE.2),qax (B1.1.trans (BE9.mono B1.1.size)) hM _ _ _ _ _ _ _ _⟩
 have HOnT:Hid (x.h.z.on=true):=hon;by_cases hL0:x.s.wL J=0
 ·have h0:x.s.y.MkF (x.s.y.wy A B)=false:=by
   rw [HJe.out];apply Bool.eq_false_iff.2;intro h;simp only [Sy.MkF,nH,nI] at h;exact h.1 hL0
  have HV:Hid (mrC x.s.y x.h.z A B=4/\mrY x.s.y x.h.z A B=x.s.y/\mrQ x.s.y x.h.z A B=x.h.z):=by
   have h1:mrC x.s.y x.h.z A B=4:=(nB (by rw [HT.out];decide)).trans ((nB (not_not_intro HPn.2)).trans (nC h0));exact ⟨h1,(nB (by rw [h1];decide)).trans (nB (by rw [h1];decide)),(nB (by rw [h1];decide)).trans (nB (by rw [h1];decide))⟩
  have t0:((x.s.wL J:Int) == 0)=true:=by simp [hL0]
  rw [ex] at b2;go_upto_region 7 with fail
  rw [hon] at *;clear hon b0 b1 b2 b3 b4 b5 b6 b7 ex cx t0 h0;obtain ⟨b0,b1,b2,b3,b4,b5,b6,b7⟩:=(HRB.out w1 R1.out).1;go_wp2_with fail
  clear b0 b1 b2 b3 b4 b5 b6 b7;refine (HCp.out w1 (B1.1.trans (R1.mono B1.1.size))).mono ?_;rintro e w99 ⟨v9,rfl,o9,q9⟩;have l9:=R1.size;have BE9:Hid (Below w1.heap.size w1 w99):=R1.trans (q9.mono l9);obtain ⟨k1,n1,k2,n2,k3,n3,k4,n4,k5,n5,k6,n6,k7,n7,rfl,n9⟩:=qbm.of o9;obtain ⟨-,⟨r0,r1,r2,r3,r4,r5,r6,r7⟩,rf,l1⟩:=HRB.out w99 BE9.out;have HE:Hid (qba w99 w1.heap.size x.s.y x.h.z (.agg #[.slice k1 x.s.y.pn n1,.slice k2 x.s.y.sn n2,.slice k3 x.s.y.wn n3,.slice k4 x.s.y.hn n4,.bool x.h.z.on,.slice k5 x.h.z.cn n5,.slice k6 x.h.z.ol n6,.slice k7 x.h.z.kn n7])/\w1.heap.size<=w1.heap.size):=⟨o9,l9⟩
  clear o9 q9 n9 l9;go_wp2
  exact bodyPost_ret (v := .tuple #[.agg #[.slice k1 x.s.y.pn n1, .slice k2 x.s.y.sn n2, .slice k3 x.s.y.wn n3, .slice k4 x.s.y.hn n4, .bool x.h.z.on, .slice k5 x.h.z.cn n5, .slice k6 x.h.z.ol n6, .slice k7 x.h.z.kn n7], .int .i64 4]) (by simp [results, results13, go_sem, r0, r1, r2, r3, r4, r5, r6, r7]) rfl ⟨_, by rw [HV.1], by
   rw [HV.2.1,HV.2.2]
   exact (HE.1.set8 (by have:=LR.out;have:=HE.2;omega) _ _ _ _ _ _ _ _).base (zO LN.out HE.2),qax (B1.1.trans (BE9.mono B1.1.size)) hM _ _ _ _ _ _ _ _⟩
 have t0:((x.s.wL J:Int) == 0)=false:=by simp;omega
 have hpos:(0:Int)<(x.s.wL J:Int):=by omega
 obtain ⟨bi,oi,ei,hbi,hIt⟩:∃ bi oi,x.s.wA J=some ⟨bi,oi,none⟩/\bi<w1.heap.size/\ItAt w1 bi oi (x.s.wL J) (x.s.wH J):=by
  rcases (HG.1.bw B1.1).s.wi J HJw.out with h | ⟨bi,oi,ei,hbi,hIt⟩
  ·exact absurd h hL0
  ·exact ⟨bi,oi,ei,hbi,hIt⟩
 obtain ⟨i0,-⟩:=hIt 0 (by omega);simp only [Nat.zero_mul,nP] at i0;rw [ex] at b2;rw [ei] at cx;generalize hm:(x.s.wH J 0).m=T at i0;cases T
 case false=>
  have h0:x.s.y.MkF (x.s.y.wy A B)=false:=by
   rw [HJe.out];apply Bool.eq_false_iff.2;intro h;simp only [Sy.MkF,nH,nI] at h;have h9:(x.s.wH J 0).m=true:=h.2;rw [hm] at h9;cases h9
  have HV:Hid (mrC x.s.y x.h.z A B=4/\mrY x.s.y x.h.z A B=x.s.y/\mrQ x.s.y x.h.z A B=x.h.z):=by
   have h1:mrC x.s.y x.h.z A B=4:=(nB (by rw [HT.out];decide)).trans ((nB (not_not_intro HPn.2)).trans (nC h0));exact ⟨h1,(nB (by rw [h1];decide)).trans (nB (by rw [h1];decide)),(nB (by rw [h1];decide)).trans (nB (by rw [h1];decide))⟩
  go_upto_region 7 with fail
  rw [hon] at *;clear hon b0 b1 b2 b3 b4 b5 b6 b7 ex cx t0 h0 ei hIt i0 hm;obtain ⟨b0,b1,b2,b3,b4,b5,b6,b7⟩:=(HRB.out w1 R1.out).1;go_wp2_with fail
  clear b0 b1 b2 b3 b4 b5 b6 b7;refine (HCp.out w1 (B1.1.trans (R1.mono B1.1.size))).mono ?_;rintro e w99 ⟨v9,rfl,o9,q9⟩;have l9:=R1.size;have BE9:Hid (Below w1.heap.size w1 w99):=R1.trans (q9.mono l9);obtain ⟨k1,n1,k2,n2,k3,n3,k4,n4,k5,n5,k6,n6,k7,n7,rfl,n9⟩:=qbm.of o9;obtain ⟨-,⟨r0,r1,r2,r3,r4,r5,r6,r7⟩,rf,l1⟩:=HRB.out w99 BE9.out;have HE:Hid (qba w99 w1.heap.size x.s.y x.h.z (.agg #[.slice k1 x.s.y.pn n1,.slice k2 x.s.y.sn n2,.slice k3 x.s.y.wn n3,.slice k4 x.s.y.hn n4,.bool x.h.z.on,.slice k5 x.h.z.cn n5,.slice k6 x.h.z.ol n6,.slice k7 x.h.z.kn n7])/\w1.heap.size<=w1.heap.size):=⟨o9,l9⟩
  clear o9 q9 n9 l9;go_wp2
  exact bodyPost_ret (v := .tuple #[.agg #[.slice k1 x.s.y.pn n1, .slice k2 x.s.y.sn n2, .slice k3 x.s.y.wn n3, .slice k4 x.s.y.hn n4, .bool x.h.z.on, .slice k5 x.h.z.cn n5, .slice k6 x.h.z.ol n6, .slice k7 x.h.z.kn n7], .int .i64 4]) (by simp [results, results13, go_sem, r0, r1, r2, r3, r4, r5, r6, r7]) rfl ⟨_, by rw [HV.1], by
   rw [HV.2.1,HV.2.2]
   exact (HE.1.set8 (by have:=LR.out;have:=HE.2;omega) _ _ _ _ _ _ _ _).base (zO LN.out HE.2),qax (B1.1.trans (BE9.mono B1.1.size)) hM _ _ _ _ _ _ _ _⟩
 have HMF:Hid (x.s.y.MkF (x.s.y.wy A B)=true/\0<x.s.wL J):=by
  refine ⟨?_,by omega⟩;rw [HJe.out];simp only [Sy.MkF,nH,nI];exact ⟨hL0,hm⟩
 go_upto_region 8 with fail
 clear b0 b1 b2 b3 b4 b5 b6 b7 ex cx t0 ei hIt i0 hm hbi hon;obtain ⟨b0,b1,b2,b3,b4,b5,b6,b7⟩:=B1.2.1;go_wp2_with fail
 clear b0 b1 b2 b3 b4 b5 b6 b7;refine (HCp.out w1 B1.1).mono ?_;rintro e w2 ⟨v2,rfl,o2,q2⟩;obtain ⟨a1,m1,a2,m2,a3,m3,a4,m4,a5,m5,a6,m6,a7,m7,hv2,F2⟩:=PrL.ofLv q2 o2
 rewrite [HOnT.out] at hv2
 subst hv2;clear o2
 obtain ⟨g3,rfl⟩:∃ g3,a3=some ⟨g3,0,none⟩:=by
  obtain ⟨c,h1,-,-,-,-⟩:=F2.ow;obtain ⟨vp,v2,vw,vh,up,us,uw,uh,ev,o⟩:=h1 rfl;simp only [Value.agg.injEq,Array.mk.injEq,List.cons.injEq,and_true] at ev;obtain ⟨rfl,rfl,rfl,rfl⟩:=ev;exact qbu o.t.row (by have:=HD.out;rw [this.2.2.2.2.2.1];exact Nat.mul_pos this.2.2.2.2.1 this.2.2.2.2.1)
 obtain ⟨g5,rfl⟩:∃ g5,a5=some ⟨g5,0,none⟩:=by
  obtain ⟨c,-,h2,-,-,-⟩:=F2.ow;exact qbu (h2 rfl).1 (by have:=HD.out;omega)
 obtain ⟨g6,rfl⟩:∃ g6,a6=some ⟨g6,0,none⟩:=by
  obtain ⟨c,-,-,h3,-,-⟩:=F2.ow;exact qbu (h3 rfl).1 (by have:=HD.out;rw [this.2.1,this.2.2.2.2.2.1];exact Nat.mul_pos this.2.2.2.2.1 this.2.2.2.2.1)
 have X4:Hid (PrL w1 w1.heap.size x.s.y x.h.z true true true true (.agg #[.slice a1 x.s.y.pn m1,.slice a2 x.s.y.sn m2,.slice (some ⟨g3,0,none⟩) x.s.y.wn m3,.slice a4 x.s.y.hn m4]) (sG g5 x.h.z.cn m5) (sG g6 x.h.z.ol m6) (.slice a7 x.h.z.kn m7) (fun k=>k=w2.heap.size) (w2.alloc (oQ7 a1 x.s.y.pn m1 a2 x.s.y.sn m2 (some ⟨g3,0,none⟩) x.s.y.wn m3 a4 x.s.y.hn m4 true (some ⟨g5,0,none⟩) x.h.z.cn m5 (some ⟨g6,0,none⟩) x.h.z.ol m6 a7 x.h.z.kn m7))/\BoxH (w2.alloc (oQ7 a1 x.s.y.pn m1 a2 x.s.y.sn m2 (some ⟨g3,0,none⟩) x.s.y.wn m3 a4 x.s.y.hn m4 true (some ⟨g5,0,none⟩) x.h.z.cn m5 (some ⟨g6,0,none⟩) x.h.z.ol m6 a7 x.h.z.kn m7)) w2.heap.size (.slice a1 x.s.y.pn m1) (.slice a2 x.s.y.sn m2) (sG g3 x.s.y.wn m3) (.slice a4 x.s.y.hn m4) (.bool true) (sG g5 x.h.z.cn m5) (sG g6 x.h.z.ol m6) (.slice a7 x.h.z.kn m7)/\(∀ j,(w2.alloc (oQ7 a1 x.s.y.pn m1 a2 x.s.y.sn m2 (some ⟨g3,0,none⟩) x.s.y.wn m3 a4 x.s.y.hn m4 true (some ⟨g5,0,none⟩) x.h.z.cn m5 (some ⟨g6,0,none⟩) x.h.z.ol m6 a7 x.h.z.kn m7)).frozen? ⟨w2.heap.size,j,none⟩=false)/\w1.heap.size<=w2.heap.size):=⟨F2.box _ _ fun k hk=>.inr hk,BoxH.new w2 _ _ _ _ _ _ _ _ _,(fun j=>yA _ _ _ _ rfl),q2.size⟩
 go_upto_region 9 with fail
 clear q2 F2;generalize hNN:w2.heap.size=N at *;clear hNN;generalize w2.alloc (oQ7 a1 x.s.y.pn m1 a2 x.s.y.sn m2 (some ⟨g3,0,none⟩) x.s.y.wn m3 a4 x.s.y.hn m4 true (some ⟨g5,0,none⟩) x.h.z.cn m5 (some ⟨g6,0,none⟩) x.h.z.ol m6 a7 x.h.z.kn m7)=w4 at *;have hJw:J<x.s.y.wn:=HJw.out;have hJi':(J:Int)<(x.s.y.wn:Int):=hJi;obtain ⟨aw,cbw,cJ,oJ,ng,nX,lg,fg⟩:=PrL.way X4.1 (J:=J) hJw;obtain ⟨bw,cb2,euw2,hbw,hIt,hcapw⟩:=atT oJ (qtn oJ HMF.2);simp only [Value.slice.injEq,true_and] at euw2;obtain ⟨rfl,rfl⟩:=euw2
 have hwp:(1:Int)<=(x.s.y.wL J:Int):=show (1:Int)<=(x.s.wL J:Int) by omega
 have hwc:(x.s.y.wL J:Int)<=(cbw:Int):=by omega
 have hw12:x.s.y.wL J<=12:=Sy.ok_wL HO.2 J hJw;have hl1:(x.s.y.wL J:Int) - 1=((x.s.y.wL J - 1:Nat):Int):=by omega
 have wr1:IntKind.i64.wrap (M:Int)=(M:Int):=by rw [IntKind.wrap_i64];omega
 have wr2:IntKind.i64.wrap (J:Int)=(J:Int):=by rw [IntKind.wrap_i64];omega
 have SR2:Hid (Src w4 (some ⟨bw,2,none⟩) (fT (fun i=>x.s.y.wH J (i+1)) (x.s.y.wL J - 1))):=by
  refine qvu (sz:=2) hbw (by omega) (fun _ _=>rfl) fun i hi j hj=>?_;obtain ⟨h0,h1⟩:=hIt (i+1) (by omega)
  match j,hj with
  | 0,_=>rw [show 2+(i*2+0)=0+(i+1)*2 by omega];exact h0
  | 1,_=>rw [show 2+(i*2+1)=0+(i+1)*2+1 by omega];exact h1
 have N2:=X4.2.1.2.2.1;have lN:=X4.2.1.lt;go_wp2_with fail
 refine qa1 (fun w'=>w'.cell? ⟨N,2,none⟩=some (sG g3 x.s.y.wn m3)/\w'.cell? ⟨g3,J,none⟩=some (sG bw (x.s.y.wL J) cbw)) (fun i=>i == 22) (by kernel_rfl) ?_;have hHeld:=And.intro N2 cJ;refine qcn [0,1,2,3,4,5,6,7,9,10,11,12,13,14,15,16,17,18,19] ?_;iterate 19 (refine qdl rfl hHeld ?_)
 refine qb0 ?_;refine yW 8 rfl fun K hK=>?_;go_simp;have ba:Below w4.heap.size w4 (w4.drew.alloc (.cells #[] 74)):=(nE w4.heap.size w4).drew.trans (zP w4.drew _);have hca:=(qap ba).1;refine hK.out _ _ (fun _=>⟨(hca _ _ lN).trans N2,(hca _ _ lg).trans cJ⟩) ?_;clear hca ba;clear hK K
 (try simp only [Act.put,zD,zE,zF])
 refine yW 20 rfl fun K hK=>?_
 refine qcm kndT w4.drew rfl rfl _ _ rfl _ (x.s.y.wL J - 1) _ (fT (fun i => x.s.y.wH J (i + 1)) (x.s.y.wL J - 1)) rfl rfl (qrp _ _) (by
  by_cases hcb:cbw=1
  ·exact .inl (by rw [show x.s.y.wL J - 1=0 by omega];rfl)
  ·have h:Src w4.drew (some ⟨bw,2,none⟩) (fT (fun i=>x.s.y.wH J (i+1)) (x.s.y.wL J - 1)):=SR2.out
   simpa [hcb] using h) (qrq _ _) (by omega) ?_
 intro v5 w5 o5 d5 n5;obtain ⟨a9,c9,rfl⟩:=zT o5;have q5:Below w4.heap.size w4 w5:=(nE w4.heap.size w4).drew.trans d5;have hc5:=(qap q5).1;have hHeld:=And.intro ((hc5 _ _ lN).trans N2) ((hc5 _ _ lg).trans cJ);have hfw:∀ j,w5.frozen? ⟨g3,j,none⟩=false:=fun j=>((qap q5).2 _ j lg).trans (fg j);have hNg:N≠g3:=PrL.ne3 X4.1 rfl;have hN5:(w5.setCell ⟨g3,J,none⟩ (.slice a9 (x.s.y.wL J - 1) c9)).heap[N]? = w4.heap[N]?:=(zN _ _ _ _ fun e=>hNg e).trans (q5.block N lN);have X5:Hid (PrL w1 w1.heap.size (x.s.y.cutW J) x.h.z true true true true (.agg #[.slice a1 x.s.y.pn m1,.slice a2 x.s.y.sn m2,.slice (some ⟨g3,0,none⟩) x.s.y.wn m3,.slice a4 x.s.y.hn m4]) (sG g5 x.h.z.cn m5) (sG g6 x.h.z.ol m6) (.slice a7 x.h.z.kn m7) (fun k=>k=N) (w5.setCell ⟨g3,J,none⟩ (.slice a9 (x.s.y.wL J - 1) c9))/\BoxH (w5.setCell ⟨g3,J,none⟩ (.slice a9 (x.s.y.wL J - 1) c9)) N (.slice a1 x.s.y.pn m1) (.slice a2 x.s.y.sn m2) (sG g3 x.s.y.wn m3) (.slice a4 x.s.y.hn m4) (.bool true) (sG g5 x.h.z.cn m5) (sG g6 x.h.z.ol m6) (.slice a7 x.h.z.kn m7)/\(∀ j,(w5.setCell ⟨g3,J,none⟩ (.slice a9 (x.s.y.wL J - 1) c9)).frozen? ⟨N,j,none⟩=false)/\w1.heap.size<=N):=⟨PrL.wayPut X4.1 hJw q5 o5,X4.2.1.blk hN5,fun j=>(zI hN5).trans (X4.2.2.1 j),X4.2.2.2⟩
 refine hK.out _ _ (fun _=>hHeld) ?_;clear o5 d5 q5 n5 hc5 hNg hN5 X4 SR2 hIt oJ ng nX;clear hK K;refine qgu 21 rfl hHeld ?_;refine yW 22 rfl fun K hK=>?_;have hcN:=hHeld.2;have hfN:=hfw J;go_simp;refine hK.out _ _ (fun h=>absurd h (by decide)) ?_;clear hK K
 (try simp only [Act.put])
 refine yX ?_ _;generalize (if cbw=1 then some (⟨bw,0,none⟩:Addr) else some ⟨bw,2,none⟩)=az;clear hcN hfN hfw hHeld cJ fg lg N2 lN hwp hwc hl1 hw12 hbw hcapw;generalize w5.setCell ⟨g3,J,none⟩ (.slice a9 (x.s.y.wL J - 1) c9)=w6 at *;have B6:Hid (Below w1.heap.size w1 w6):=X5.1.be;obtain ⟨b0,b1,b2,b3,b4,b5,b6,b7⟩:=(HRB.out w6 B6.out).1
 have hBc:B<x.h.cn:=by
  have h9:x.h.cn=x.s.pn:=HD.1;have:=HPn.1.2;omega
 have hBi:(B:Int)<(x.h.cn:Int):=by omega
 obtain ⟨bc,oc,ec,-,cc⟩:=(HG.1.bw (B1.1.trans (B6.mono B1.1.size))).h.c.at hBc;rw [ec] at b5;have hdr:-1<=x.h.cH B:=(HO.1.d B hBc).1;by_cases hcB:x.h.cH B = -1
 case' pos=>
  have t0:x.h.cH B<0:=by omega
  obtain ⟨p0,p1,p2,p3,p4,p5,p6,p7⟩:=X5.2.1;go_wp2_with fail
  clear p0 p1 p2 p3 p4 p5 p6 p7 b0 b1 b2 b3 b4 b5 b6 b7 ec cc t0;have hdi:=qlb w1 (x.s.y.cutW J) x.h.z (fun k=>k=N) w6 B g3 g5 g6 m5 m6 m1 m2 m3 m4 m7 a1 a2 a4 a7 X5.1 HPn.1.2 HD.2.2.2.1 HD.2.2.2.2.2.1 HD.2.2.2.2.2.2 HD.1 HD.2.1 (Sy.cutW_wL HO.2 J) (HG.2.s.h.2 B (by have:=HPn.1.2;have:=HD.out;show B<x.s.y.hn;rw [this.2.2.2.2.2.2];exact HPn.1.2))
  rewrite [HOnT.out] at hdi
  simp only [show (x.s.y.cutW J).pn=x.s.y.pn from rfl,show (x.s.y.cutW J).sn=x.s.y.sn from rfl,show (x.s.y.cutW J).wn=x.s.y.wn from rfl,show (x.s.y.cutW J).hn=x.s.y.hn from rfl] at hdi;refine hdi.mono ?_;clear hdi;rintro e w7 ⟨be7,⟨hf,rfl⟩ | ⟨hf,rfl,F7,k7⟩⟩
  case inl=>
   have h5:x.h.z.cH (B:Int).toNat = -1/\pB ((x.s.y.cutW (x.s.y.wy A B)).HasFull (B:Int).toNat)=true:=⟨by rw [nF];exact hcB,by rw [HJe.out,nF];exact qbl hf⟩
   have HV:Hid (mrC x.s.y x.h.z A B=5/\mrY x.s.y x.h.z A B=x.s.y/\mrQ x.s.y x.h.z A B=x.h.z):=by
    have h1:mrC x.s.y x.h.z A B=5:=(nB (by rw [HT.out];decide)).trans ((nB (not_not_intro HPn.2)).trans ((nB (by rw [HMF.1];decide)).trans (nC h5)));exact ⟨h1,(nB (by rw [h1];decide)).trans (nB (by rw [h1];decide)),(nB (by rw [h1];decide)).trans (nB (by rw [h1];decide))⟩
   have B8:Hid (Below w1.heap.size w1 (w7.alloc (oQ7 a1 x.s.y.pn m1 a2 x.s.y.sn m2 (some ⟨g3,0,none⟩) x.s.y.wn m3 a4 x.s.y.hn m4 true (some ⟨g5,0,none⟩) x.h.z.cn m5 (some ⟨g6,0,none⟩) x.h.z.ol m6 a7 x.h.z.kn m7))):=be7.alloc be7.size _;go_upto_region 13 with fail
   clear be7 hf hcB h5;generalize w7.alloc (oQ7 a1 x.s.y.pn m1 a2 x.s.y.sn m2 (some ⟨g3,0,none⟩) x.s.y.wn m3 a4 x.s.y.hn m4 true (some ⟨g5,0,none⟩) x.h.z.cn m5 (some ⟨g6,0,none⟩) x.h.z.ol m6 a7 x.h.z.kn m7)=w8 at *;obtain ⟨b0,b1,b2,b3,b4,b5,b6,b7⟩:=(HRB.out w8 B8.out).1;go_wp2_with fail
   clear b0 b1 b2 b3 b4 b5 b6 b7;refine (HCp.out w8 (B1.1.trans (B8.mono B1.1.size))).mono ?_;rintro e w99 ⟨v9,rfl,o9,q9⟩;have l9:=B8.size;have BE9:Hid (Below w1.heap.size w1 w99):=B8.trans (q9.mono l9);obtain ⟨k1,n1,k2,n2,k3,n3,k4,n4,k5,n5,k6,n6,k7,n7,rfl,n9⟩:=qbm.of o9;obtain ⟨-,⟨r0,r1,r2,r3,r4,r5,r6,r7⟩,rf,l1⟩:=HRB.out w99 BE9.out;have HE:Hid (qba w99 w8.heap.size x.s.y x.h.z (.agg #[.slice k1 x.s.y.pn n1,.slice k2 x.s.y.sn n2,.slice k3 x.s.y.wn n3,.slice k4 x.s.y.hn n4,.bool x.h.z.on,.slice k5 x.h.z.cn n5,.slice k6 x.h.z.ol n6,.slice k7 x.h.z.kn n7])/\w1.heap.size<=w8.heap.size):=⟨o9,l9⟩
   clear o9 q9 n9 l9;go_wp2
   exact bodyPost_ret (v := .tuple #[.agg #[.slice k1 x.s.y.pn n1, .slice k2 x.s.y.sn n2, .slice k3 x.s.y.wn n3, .slice k4 x.s.y.hn n4, .bool x.h.z.on, .slice k5 x.h.z.cn n5, .slice k6 x.h.z.ol n6, .slice k7 x.h.z.kn n7], .int .i64 5]) (by simp [results, results13, go_sem, r0, r1, r2, r3, r4, r5, r6, r7]) rfl ⟨_, by rw [HV.1], by
    rw [HV.2.1,HV.2.2]
    exact (HE.1.set8 (by have:=LR.out;have:=HE.2;omega) _ _ _ _ _ _ _ _).base (zO LN.out HE.2),qax (B1.1.trans (BE9.mono B1.1.size)) hM _ _ _ _ _ _ _ _⟩
  have HV:Hid (mrC x.s.y x.h.z A B=0/\mrY x.s.y x.h.z A B=(x.s.y.cutW J).dwn B x.s.y.pn/\mrQ x.s.y x.h.z A B=Sh.shutW (x.h.z.drawn B (x.s.y.hL B:Int)) J):=by
   have h5:¬ (x.h.z.cH (B:Int).toNat = -1/\pB ((x.s.y.cutW (x.s.y.wy A B)).HasFull (B:Int).toNat)=true):=by
    rw [HJe.out,nF,qak hf];simp
   have h1:mrC x.s.y x.h.z A B=0:=(nB (by rw [HT.out];decide)).trans ((nB (not_not_intro HPn.2)).trans ((nB (by rw [HMF.1];decide)).trans (nB h5)));have hcB':x.h.z.cH (B:Int).toNat = -1:=hcB;refine ⟨h1,?_,?_⟩
   ·unfold mrY
    rw [nB (by rw [h1];decide),nC h1,nC hcB',HJe.out];rfl
   ·unfold mrQ
    rw [nB (by rw [h1];decide),nC h1,nC hcB',HJe.out];rfl
  have hN7 : (w7.alloc (oQ7 a1 x.s.y.pn m1 a2 x.s.y.sn m2 (some ⟨g3, 0, none⟩) x.s.y.wn m3 a4 x.s.y.hn m4 true (some ⟨g5, 0, none⟩) x.h.z.cn m5 (some ⟨g6, 0, none⟩) x.h.z.ol m6 a7 x.h.z.kn m7)).heap[N]? = w6.heap[N]? := ((zP w7 _).block N (by
   obtain ⟨ck,-,-,-,-,h5⟩:=F7.ow
   exact (h5 N rfl).1)).trans (k7 N rfl)
  have X8 : Hid (PrL w1 w1.heap.size ((x.s.y.cutW J).dwn B x.s.y.pn) (x.h.z.drawn B (x.s.y.hL B : Int)) true true true true (.agg #[.slice a1 x.s.y.pn m1, .slice a2 x.s.y.sn m2, .slice (some ⟨g3, 0, none⟩) x.s.y.wn m3, .slice a4 x.s.y.hn m4]) (.slice (some ⟨g5, 0, none⟩) x.h.z.cn m5) (.slice (some ⟨g6, 0, none⟩) x.h.z.ol m6) (.slice a7 x.h.z.kn m7) (fun k => k = N ∨ k = w7.heap.size) (w7.alloc (oQ7 a1 x.s.y.pn m1 a2 x.s.y.sn m2 (some ⟨g3, 0, none⟩) x.s.y.wn m3 a4 x.s.y.hn m4 true (some ⟨g5, 0, none⟩) x.h.z.cn m5 (some ⟨g6, 0, none⟩) x.h.z.ol m6 a7 x.h.z.kn m7)) ∧ BoxH (w7.alloc (oQ7 a1 x.s.y.pn m1 a2 x.s.y.sn m2 (some ⟨g3, 0, none⟩) x.s.y.wn m3 a4 x.s.y.hn m4 true (some ⟨g5, 0, none⟩) x.h.z.cn m5 (some ⟨g6, 0, none⟩) x.h.z.ol m6 a7 x.h.z.kn m7)) N (.slice a1 x.s.y.pn m1) (.slice a2 x.s.y.sn m2) (.slice (some ⟨g3, 0, none⟩) x.s.y.wn m3) (.slice a4 x.s.y.hn m4) (.bool true) (.slice (some ⟨g5, 0, none⟩) x.h.z.cn m5) (.slice (some ⟨g6, 0, none⟩) x.h.z.ol m6) (.slice a7 x.h.z.kn m7) ∧ (∀ j, (w7.alloc (oQ7 a1 x.s.y.pn m1 a2 x.s.y.sn m2 (some ⟨g3, 0, none⟩) x.s.y.wn m3 a4 x.s.y.hn m4 true (some ⟨g5, 0, none⟩) x.h.z.cn m5 (some ⟨g6, 0, none⟩) x.h.z.ol m6 a7 x.h.z.kn m7)).frozen? ⟨N, j, none⟩ = false) ∧ w1.heap.size ≤ N ∧ BoxH (w7.alloc (oQ7 a1 x.s.y.pn m1 a2 x.s.y.sn m2 (some ⟨g3, 0, none⟩) x.s.y.wn m3 a4 x.s.y.hn m4 true (some ⟨g5, 0, none⟩) x.h.z.cn m5 (some ⟨g6, 0, none⟩) x.h.z.ol m6 a7 x.h.z.kn m7)) w7.heap.size (.slice a1 x.s.y.pn m1) (.slice a2 x.s.y.sn m2) (.slice (some ⟨g3, 0, none⟩) x.s.y.wn m3) (.slice a4 x.s.y.hn m4) (.bool true) (.slice (some ⟨g5, 0, none⟩) x.h.z.cn m5) (.slice (some ⟨g6, 0, none⟩) x.h.z.ol m6) (.slice a7 x.h.z.kn m7) ∧ N ≠ w7.heap.size) := ⟨F7.box _ _ fun k hk => hk, X5.2.1.blk hN7, fun j => (World.frozen?_of_block hN7).trans (X5.2.2.1 j), X5.2.2.2, BoxH.new w7 _ _ _ _ _ _ _ _ _, fun e => by
   obtain ⟨ck,-,-,-,-,h5⟩:=F7.ow;have:=(h5 N rfl).1
   omega⟩
  go_upto_region 14 with fail
  clear be7 hf F7 k7 hN7 X5 B6 hcB;generalize hN2:w7.heap.size=N2 at *;clear hN2;generalize w7.alloc (oQ7 a1 x.s.y.pn m1 a2 x.s.y.sn m2 (some ⟨g3,0,none⟩) x.s.y.wn m3 a4 x.s.y.hn m4 true (some ⟨g5,0,none⟩) x.h.z.cn m5 (some ⟨g6,0,none⟩) x.h.z.ol m6 a7 x.h.z.kn m7)=w8 at *;obtain ⟨p0,p1,p2,p3,p4,p5,p6,p7⟩:=X8.2.2.2.2.1;obtain ⟨r0,r1,r2,r3,r4,r5,r6,r7⟩:=X8.2.1;have rf:=X8.2.2.1;have rl:=X8.2.1.lt;go_upto_region 15 with fail
  have X13:Hid (PrL w1 w1.heap.size ((x.s.y.cutW J).dwn B x.s.y.pn) (x.h.z.drawn B (x.s.y.hL B:Int)) true true true true (.agg #[.slice a1 x.s.y.pn m1,.slice a2 x.s.y.sn m2,.slice (some ⟨g3,0,none⟩) x.s.y.wn m3,.slice a4 x.s.y.hn m4]) (sG g5 x.h.z.cn m5) (sG g6 x.h.z.ol m6) (.slice a7 x.h.z.kn m7) (fun k=>k=N) (set8 w8 N (.slice a1 x.s.y.pn m1) (.slice a2 x.s.y.sn m2) (sG g3 x.s.y.wn m3) (.slice a4 x.s.y.hn m4) (.bool true) (sG g5 x.h.z.cn m5) (sG g6 x.h.z.ol m6) (.slice a7 x.h.z.kn m7))/\BoxH (set8 w8 N (.slice a1 x.s.y.pn m1) (.slice a2 x.s.y.sn m2) (sG g3 x.s.y.wn m3) (.slice a4 x.s.y.hn m4) (.bool true) (sG g5 x.h.z.cn m5) (sG g6 x.h.z.ol m6) (.slice a7 x.h.z.kn m7)) N (.slice a1 x.s.y.pn m1) (.slice a2 x.s.y.sn m2) (sG g3 x.s.y.wn m3) (.slice a4 x.s.y.hn m4) (.bool true) (sG g5 x.h.z.cn m5) (sG g6 x.h.z.ol m6) (.slice a7 x.h.z.kn m7)/\(∀ j,(set8 w8 N (.slice a1 x.s.y.pn m1) (.slice a2 x.s.y.sn m2) (sG g3 x.s.y.wn m3) (.slice a4 x.s.y.hn m4) (.bool true) (sG g5 x.h.z.cn m5) (sG g6 x.h.z.ol m6) (.slice a7 x.h.z.kn m7)).frozen? ⟨N,j,none⟩=false)/\w1.heap.size<=N):=⟨(X8.1.put8 (.inl rfl) X8.2.2.2.1 _ _ _ _ _ _ _ _).sub fun k hk=>.inl hk,qfj X8.2.1 _ _ _ _ _ _ _ _,fun i=>by unfold set8;simp only [World.frozen?_setCell];exact X8.2.2.1 i,X8.2.2.2.1⟩
  unfold set8 at X13;clear p0 p1 p2 p3 p4 p5 p6 p7 r0 r1 r2 r3 r4 r5 r6 r7 rf rl X8;generalize ((((((((w8.setCell ⟨N,0,none⟩ (.slice a1 x.s.y.pn m1)).setCell ⟨N,1,none⟩ (.slice a2 x.s.y.sn m2)).setCell ⟨N,2,none⟩ (sG g3 x.s.y.wn m3)).setCell ⟨N,3,none⟩ (.slice a4 x.s.y.hn m4)).setCell ⟨N,4,none⟩ (.bool true)).setCell ⟨N,5,none⟩ (sG g5 x.h.z.cn m5)).setCell ⟨N,6,none⟩ (sG g6 x.h.z.ol m6)).setCell ⟨N,7,none⟩ (.slice a7 x.h.z.kn m7))=w13 at *
 case' neg=>
  have t0:¬ x.h.cH B<0:=by omega
  have HV:Hid (mrC x.s.y x.h.z A B=0/\mrY x.s.y x.h.z A B=x.s.y.cutW J/\mrQ x.s.y x.h.z A B=Sh.shutW x.h.z J):=by
   have hcB':¬ x.h.z.cH (B:Int).toNat = -1:=hcB;have h5:¬ (x.h.z.cH (B:Int).toNat = -1/\pB ((x.s.y.cutW (x.s.y.wy A B)).HasFull (B:Int).toNat)=true):=fun h=>hcB' h.1;have h1:mrC x.s.y x.h.z A B=0:=(nB (by rw [HT.out];decide)).trans ((nB (not_not_intro HPn.2)).trans ((nB (by rw [HMF.1];decide)).trans (nB h5)));refine ⟨h1,?_,?_⟩
   ·unfold mrY
    rw [nB (by rw [h1];decide),nC h1,nB hcB',HJe.out]
   ·unfold mrQ
    rw [nB (by rw [h1];decide),nC h1,nB hcB',HJe.out]
  go_upto_region 15 with fail
  clear b0 b1 b2 b3 b4 b5 b6 b7 ec cc t0 hcB;have X13:Hid (PrL w1 w1.heap.size (x.s.y.cutW J) { x.h.z with on:=true } true true true true (.agg #[.slice a1 x.s.y.pn m1,.slice a2 x.s.y.sn m2,.slice (some ⟨g3,0,none⟩) x.s.y.wn m3,.slice a4 x.s.y.hn m4]) (sG g5 x.h.z.cn m5) (sG g6 x.h.z.ol m6) (.slice a7 x.h.z.kn m7) (fun k=>k=N) w6/\BoxH w6 N (.slice a1 x.s.y.pn m1) (.slice a2 x.s.y.sn m2) (sG g3 x.s.y.wn m3) (.slice a4 x.s.y.hn m4) (.bool true) (sG g5 x.h.z.cn m5) (sG g6 x.h.z.ol m6) (.slice a7 x.h.z.kn m7)/\(∀ j,w6.frozen? ⟨N,j,none⟩=false)/\w1.heap.size<=N):=⟨PrL.onAs X5.1 true,X5.2⟩
  clear X5 B6;obtain ⟨w13,hw13⟩:∃ w13,w13=w6:=⟨_,rfl⟩
  subst hw13
 all_goals
  have hJo:J<x.h.z.ol:=by rw [HD.2.1];exact hJw
  have hJoi:(J:Int)<(x.h.z.ol:Int):=by omega
  have ho16:(x.h.z.ol:Int)<=16:=by
   have h9:x.h.z.ol=x.s.wn:=HD.2.1;omega
  obtain ⟨⟨u6,cg⟩,cf⟩:=PrL.cell6 X13.1 (J:=J) hJo;obtain ⟨p0,p1,p2,p3,p4,p5,p6,p7⟩:=X13.2.1;have hNg:N≠g6:=fun e=>X13.1.ne6 rfl (by rw [e];rfl);have hN6:(w13.setCell ⟨g6,J,none⟩ (.bool false)).heap[N]? = w13.heap[N]?:=zN _ _ _ _ fun e=>hNg e;have X14:Hid (_/\BoxH (w13.setCell ⟨g6,J,none⟩ (.bool false)) N (.slice a1 x.s.y.pn m1) (.slice a2 x.s.y.sn m2) (sG g3 x.s.y.wn m3) (.slice a4 x.s.y.hn m4) (.bool true) (sG g5 x.h.z.cn m5) (sG g6 x.h.z.ol m6) (.slice a7 x.h.z.kn m7)):=⟨PrL.openAt X13.1 J false,X13.2.1.blk hN6⟩
  go_upto_region 16 with fail
  clear cg cf p0 p1 p2 p3 p4 p5 p6 p7 hNg hN6 X13;generalize w13.setCell ⟨g6,J,none⟩ (.bool false)=w14 at *;obtain ⟨p0,p1,p2,p3,p4,p5,p6,p7⟩:=X14.2;obtain ⟨-,⟨r0,r1,r2,r3,r4,r5,r6,r7⟩,rf,l1⟩:=HRB.out _ X14.1.be;obtain ⟨vp,v2,vw,vh,ev,OL⟩:=X14.1.live;simp only [Value.agg.injEq,Array.mk.injEq,List.cons.injEq,and_true] at ev;obtain ⟨rfl,rfl,rfl,rfl⟩:=ev;have HE:Hid (qba w14 w1.heap.size _ _ (.agg #[.slice a1 x.s.y.pn m1,.slice a2 x.s.y.sn m2,.slice (some ⟨g3,0,none⟩) x.s.y.wn m3,.slice a4 x.s.y.hn m4,.bool true,.slice (some ⟨g5,0,none⟩) x.h.z.cn m5,.slice (some ⟨g6,0,none⟩) x.h.z.ol m6,.slice a7 x.h.z.kn m7])/\Below w1.heap.size w1 w14):=⟨OL,X14.1.be⟩
  clear OL X14;go_wp2
  exact bodyPost_ret (v := .tuple #[.agg #[.slice a1 x.s.y.pn m1, .slice a2 x.s.y.sn m2, .slice (some ⟨g3, 0, none⟩) x.s.y.wn m3, .slice a4 x.s.y.hn m4, .bool true, .slice (some ⟨g5, 0, none⟩) x.h.z.cn m5, .slice (some ⟨g6, 0, none⟩) x.h.z.ol m6, .slice a7 x.h.z.kn m7], .int .i64 0]) (by simp [results, results13, go_sem, r0, r1, r2, r3, r4, r5, r6, r7]) rfl ⟨_, by rw [HV.1], by
   rw [HV.2.1,HV.2.2]
   exact (HE.1.set8 LR.out _ _ _ _ _ _ _ _).base LN.out,qax (B1.1.trans (HE.2.mono B1.1.size)) hM _ _ _ _ _ _ _ _⟩
theorem qlq (x:LvIn) (z1:Int) (z2:Int) (W:World) (hs:x.size<=1048576) (hA:x.Ok W) (hV:W.cell? ⟨0,0,none⟩=some (.iface 300 (.agg #[.pointer (some ⟨1,269,none⟩)]))):
  Calls prog 4 #[x.v,.int .i64 z1,.int .i64 z2] W (rB W (.bool true)):=by
 have HS:Hid (x.size<=1048576):=hs;have HA:Hid (x.Ok W):=hA;have HV:Hid (W.cell? ⟨0,0,none⟩=some (.iface 300 (.agg #[.pointer (some ⟨1,269,none⟩)]))):=hV;have HV0:Hid (0<W.heap.size):=zJ W _ hV;have hsz:¬ (1048576 - (x.size:Int)<0):=by omega
 have X0:Hid (LvX W (W.alloc (oQ5 x.s.pa x.s.pn x.s.pc x.s.sa x.s.sn x.s.sc x.s.wa x.s.wn x.s.wc x.s.ha x.s.hn x.s.hc x.h.on x.h.ca x.h.cn x.h.cc x.h.oa x.h.ol x.h.oc x.h.ka x.h.kn x.h.kc)) x):=LvX.new _ _ _;have HSM:Hid ((mrY x.s.y x.h.z z1 z2).Sm/\(mrQ x.s.y x.h.z z1 z2).Sums):=qzs x.s.y x.h.z z1 z2 (Sh.sums_of hs);clear hs hA hV;obtain ⟨Y,hY⟩:∃ Y,mrY x.s.y x.h.z z1 z2=Y:=⟨_,rfl⟩
 obtain ⟨Q,hQ⟩:∃ Q,mrQ x.s.y x.h.z z1 z2=Q:=⟨_,rfl⟩
 obtain ⟨C,hC⟩:∃ C,mrC x.s.y x.h.z z1 z2=C:=⟨_,rfl⟩
 rw [hY,hQ] at HSM;have HYC:Hid (mrY x.s.y x.h.z z1 z2=Y/\mrQ x.s.y x.h.z z1 z2=Q/\mrC x.s.y x.h.z z1 z2=C):=⟨hY,hQ,hC⟩
 have hCC:(C != C)=false:=by simp
 clear hY hQ hC
 go_enter func4,ntmps4
 go_wp2_with fail
 generalize W.alloc (oQ5 x.s.pa x.s.pn x.s.pc x.s.sa x.s.sn x.s.sc x.s.wa x.s.wn x.s.wc x.s.ha x.s.hn x.s.hc x.h.on x.h.ca x.h.cn x.h.cc x.h.oa x.h.ol x.h.oc x.h.ka x.h.kn x.h.kc)=wA at *;refine (qow x wA (HA.row.bw X0.1) HS.out).mono ?_;rintro e w0 ⟨rfl,b0⟩;have X1:Hid (LvX W w0 x):=X0.bw b0;clear b0 X0;obtain ⟨-,p0,p1,p2,p3,p4,p5,p6,p7⟩:=X1.out;go_wp2_with fail
 clear p0 p1 p2 p3 p4 p5 p6 p7;refine (qep x W w0 HS.out HA.out X1.1).mono ?_;rintro e w1 ⟨v1,rfl,o1,b1⟩;obtain ⟨x1,rfl,g1,y1,z1',cp1,nn1,nk1⟩:=o1.g3;have O1:Hid (LvG w1 x1/\x1.s.y=x.s.y/\x1.h.z=x.h.z/\∀ i,i<x1.s.hn->x1.s.hL i<=x1.s.hC i):=⟨g1,y1,z1',cp1⟩
 have X2:Hid (LvX W w1 x):=X1.bw b1;clear b1 X1 o1 g1 y1 z1' cp1 nn1 nk1;go_wp2_with fail
 refine (qom x1 z1 z2 w1 O1.1 (LvIn.len_of HS.out O1.2.1 O1.2.2.1) O1.2.2.2).mono ?_;rintro e w2 ⟨v2,rfl,o2,b2⟩;rw [O1.2.1,O1.2.2.1,HYC.1,HYC.2.1] at o2;rw [O1.2.1,O1.2.2.1,HYC.2.2];obtain ⟨a1,ac1,a2,ac2,a3,ac3,a4,ac4,a5,ac5,a6,ac6,a7,ac7,rfl,n2⟩:=qbm.of o2;have ba:=qad w2 (oQ7 a1 Y.pn ac1 a2 Y.sn ac2 a3 Y.wn ac3 a4 Y.hn ac4 Q.on a5 Q.cn ac5 a6 Q.ol ac6 a7 Q.kn ac7);have X3:Hid (LvX W (w2.alloc (oQ7 a1 Y.pn ac1 a2 Y.sn ac2 a3 Y.wn ac3 a4 Y.hn ac4 Q.on a5 Q.cn ac5 a6 Q.ol ac6 a7 Q.kn ac7)) x/\qbm (w2.alloc (oQ7 a1 Y.pn ac1 a2 Y.sn ac2 a3 Y.wn ac3 a4 Y.hn ac4 Q.on a5 Q.cn ac5 a6 Q.ol ac6 a7 Q.kn ac7)) w1.heap.size w2.heap.size Y Q (.slice a1 Y.pn ac1) (.slice a2 Y.sn ac2) (.slice a3 Y.wn ac3) (.slice a4 Y.hn ac4) (.slice a5 Q.cn ac5) (.slice a6 Q.ol ac6) (.slice a7 Q.kn ac7)/\BoxH (w2.alloc (oQ7 a1 Y.pn ac1 a2 Y.sn ac2 a3 Y.wn ac3 a4 Y.hn ac4 Q.on a5 Q.cn ac5 a6 Q.ol ac6 a7 Q.kn ac7)) w2.heap.size (.slice a1 Y.pn ac1) (.slice a2 Y.sn ac2) (.slice a3 Y.wn ac3) (.slice a4 Y.hn ac4) (.bool Q.on) (.slice a5 Q.cn ac5) (.slice a6 Q.ol ac6) (.slice a7 Q.kn ac7)/\W.heap.size<w1.heap.size/\w1.heap.size<=w2.heap.size/\w2.heap.size<(w2.alloc (oQ7 a1 Y.pn ac1 a2 Y.sn ac2 a3 Y.wn ac3 a4 Y.hn ac4 Q.on a5 Q.cn ac5 a6 Q.ol ac6 a7 Q.kn ac7)).heap.size):=⟨(X2.bw b2).bw ba,n2.bw ba,BoxH.new w2 _ _ _ _ _ _ _ _ _,X2.lt,b2.size,by simp⟩
 go_upto_region 6 with fail
 clear b2 X2 o2 n2 O1 ba;generalize hN1:w1.heap.size=N1 at *;generalize hT8:w2.heap.size=T8 at *;clear hN1 hT8;generalize w2.alloc (oQ7 a1 Y.pn ac1 a2 Y.sn ac2 a3 Y.wn ac3 a4 Y.hn ac4 Q.on a5 Q.cn ac5 a6 Q.ol ac6 a7 Q.kn ac7)=w2a at *;obtain ⟨-,p0,p1,p2,p3,p4,p5,p6,p7⟩:=X3.1;go_wp2_with fail
 clear p0 p1 p2 p3 p4 p5 p6 p7;refine (qep x W w2a HS.out HA.out X3.1.1).mono ?_;rintro e w3 ⟨v3,rfl,o3,b3⟩;obtain ⟨x3,rfl,g3,y3,z3,cp3,nn3,nk3⟩:=o3.g4;have ba:=qad w3 (oQ7 x3.s.pa x3.s.pn x3.s.pc x3.s.sa x3.s.sn x3.s.sc x3.s.wa x3.s.wn x3.s.wc x3.s.ha x3.s.hn x3.s.hc x3.h.on x3.h.ca x3.h.cn x3.h.cc x3.h.oa x3.h.ol x3.h.oc x3.h.ka x3.h.kn x3.h.kc);have F3:Hid (LvX W (w3.alloc (oQ7 x3.s.pa x3.s.pn x3.s.pc x3.s.sa x3.s.sn x3.s.sc x3.s.wa x3.s.wn x3.s.wc x3.s.ha x3.s.hn x3.s.hc x3.h.on x3.h.ca x3.h.cn x3.h.cc x3.h.oa x3.h.ol x3.h.oc x3.h.ka x3.h.kn x3.h.kc)) x/\qbm (w3.alloc (oQ7 x3.s.pa x3.s.pn x3.s.pc x3.s.sa x3.s.sn x3.s.sc x3.s.wa x3.s.wn x3.s.wc x3.s.ha x3.s.hn x3.s.hc x3.h.on x3.h.ca x3.h.cn x3.h.cc x3.h.oa x3.h.ol x3.h.oc x3.h.ka x3.h.kn x3.h.kc)) N1 T8 Y Q (.slice a1 Y.pn ac1) (.slice a2 Y.sn ac2) (.slice a3 Y.wn ac3) (.slice a4 Y.hn ac4) (.slice a5 Q.cn ac5) (.slice a6 Q.ol ac6) (.slice a7 Q.kn ac7)/\BoxH (w3.alloc (oQ7 x3.s.pa x3.s.pn x3.s.pc x3.s.sa x3.s.sn x3.s.sc x3.s.wa x3.s.wn x3.s.wc x3.s.ha x3.s.hn x3.s.hc x3.h.on x3.h.ca x3.h.cn x3.h.cc x3.h.oa x3.h.ol x3.h.oc x3.h.ka x3.h.kn x3.h.kc)) T8 (.slice a1 Y.pn ac1) (.slice a2 Y.sn ac2) (.slice a3 Y.wn ac3) (.slice a4 Y.hn ac4) (.bool Q.on) (.slice a5 Q.cn ac5) (.slice a6 Q.ol ac6) (.slice a7 Q.kn ac7)/\qb1 (w3.alloc (oQ7 x3.s.pa x3.s.pn x3.s.pc x3.s.sa x3.s.sn x3.s.sc x3.s.wa x3.s.wn x3.s.wc x3.s.ha x3.s.hn x3.s.hc x3.h.on x3.h.ca x3.h.cn x3.h.cc x3.h.oa x3.h.ol x3.h.oc x3.h.ka x3.h.kn x3.h.kc)) w2a.heap.size w3.heap.size x x3.v/\BoxH (w3.alloc (oQ7 x3.s.pa x3.s.pn x3.s.pc x3.s.sa x3.s.sn x3.s.sc x3.s.wa x3.s.wn x3.s.wc x3.s.ha x3.s.hn x3.s.hc x3.h.on x3.h.ca x3.h.cn x3.h.cc x3.h.oa x3.h.ol x3.h.oc x3.h.ka x3.h.kn x3.h.kc)) w3.heap.size (.slice x3.s.pa x3.s.pn x3.s.pc) (.slice x3.s.sa x3.s.sn x3.s.sc) (.slice x3.s.wa x3.s.wn x3.s.wc) (.slice x3.s.ha x3.s.hn x3.s.hc) (.bool x3.h.on) (.slice x3.h.ca x3.h.cn x3.h.cc) (.slice x3.h.oa x3.h.ol x3.h.oc) (.slice x3.h.ka x3.h.kn x3.h.kc)):=⟨(X3.1.bw b3).bw ba,(X3.2.1.bw b3).bw ba,(X3.2.2.1.bw b3).bw ba,o3.bw ba (nA _),BoxH.new w3 _ _ _ _ _ _ _ _ _⟩
 have LT:Hid (W.heap.size<N1/\N1<=T8/\T8<w2a.heap.size/\w2a.heap.size<=w3.heap.size/\w3.heap.size<(w3.alloc (oQ7 x3.s.pa x3.s.pn x3.s.pc x3.s.sa x3.s.sn x3.s.sc x3.s.wa x3.s.wn x3.s.wc x3.s.ha x3.s.hn x3.s.hc x3.h.on x3.h.ca x3.h.cn x3.h.cc x3.h.oa x3.h.ol x3.h.oc x3.h.ka x3.h.kn x3.h.kc)).heap.size):=⟨X3.2.2.2.1,X3.2.2.2.2.1,X3.2.2.2.2.2,b3.size,by simp⟩
 have Ga:Hid (LvG (w3.alloc (oQ7 x3.s.pa x3.s.pn x3.s.pc x3.s.sa x3.s.sn x3.s.sc x3.s.wa x3.s.wn x3.s.wc x3.s.ha x3.s.hn x3.s.hc x3.h.on x3.h.ca x3.h.cn x3.h.cc x3.h.oa x3.h.ol x3.h.oc x3.h.ka x3.h.kn x3.h.kc)) x3/\x3.s.y=x.s.y/\x3.h.z=x.h.z/\(x3.s.Nn true/\x3.s.Wz)/\x3.h.Nk/\∀ i,i<x3.s.hn->x3.s.hL i<=x3.s.hC i):=⟨g3.bw ba,y3,z3,nn3,nk3,cp3⟩
 go_upto_region 7 with fail
 clear b3 o3 g3 y3 z3 cp3 nn3 nk3 ba X3;generalize hlo:w2a.heap.size=lo at *;generalize hT10:w3.heap.size=T10 at *;clear hlo hT10;generalize w3.alloc (oQ7 x3.s.pa x3.s.pn x3.s.pc x3.s.sa x3.s.sn x3.s.sc x3.s.wa x3.s.wn x3.s.wc x3.s.ha x3.s.hn x3.s.hc x3.h.on x3.h.ca x3.h.cn x3.h.cc x3.h.oa x3.h.ol x3.h.oc x3.h.ka x3.h.kn x3.h.kc)=wB at *;obtain ⟨p0,p1,p2,p3,p4,p5,p6,p7⟩:=F3.2.2.2.2;go_wp2_with fail
 clear p0 p1 p2 p3 p4 p5 p6 p7;refine (qhb x3 z1 z2 wB Ga.1 (LvIn.len_of HS.out Ga.2.1 Ga.2.2.1) (Ga.2.2.2.1.1.no2) Ga.2.2.2.1.2 Ga.2.2.2.2.1 ((F3.1.1.cell (p:=⟨0,0,none⟩) HV0.out).trans HV.out)).mono ?_;rintro e w4 ⟨v4,rfl,o4,b4⟩;rw [Ga.2.1,Ga.2.2.1,HYC.1,HYC.2.1] at o4;rw [Ga.2.1,Ga.2.2.1,HYC.2.2];obtain ⟨g1,gc1,g2,gc2,g3,gc3,g4,gc4,g5,gc5,g6,gc6,g7,gc7,rfl,n4⟩:=qbm.of o4;have ba:=qad w4 (oQ7 g1 Y.pn gc1 g2 Y.sn gc2 g3 Y.wn gc3 g4 Y.hn gc4 Q.on g5 Q.cn gc5 g6 Q.ol gc6 g7 Q.kn gc7);have q4:=b4.trans (ba.mono b4.size);have F4:Hid (BnF W x Y Q x3 N1 T8 lo T10 wB.heap.size w4.heap.size (.slice a1 Y.pn ac1) (.slice a2 Y.sn ac2) (.slice a3 Y.wn ac3) (.slice a4 Y.hn ac4) (.slice a5 Q.cn ac5) (.slice a6 Q.ol ac6) (.slice a7 Q.kn ac7) (.slice g1 Y.pn gc1) (.slice g2 Y.sn gc2) (.slice g3 Y.wn gc3) (.slice g4 Y.hn gc4) (.slice g5 Q.cn gc5) (.slice g6 Q.ol gc6) (.slice g7 Q.kn gc7) (w4.alloc (oQ7 g1 Y.pn gc1 g2 Y.sn gc2 g3 Y.wn gc3 g4 Y.hn gc4 Q.on g5 Q.cn gc5 g6 Q.ol gc6 g7 Q.kn gc7))):=⟨F3.1.bw q4,F3.2.1.bw q4,F3.2.2.1.bw q4,F3.2.2.2.1.bw q4 (nJ LT.2.2.2.2),F3.2.2.2.2.bw q4,n4.bw ba,BoxH.new w4 _ _ _ _ _ _ _ _ _⟩
 have LT2:Hid ((W.heap.size<N1/\N1<=T8/\T8<lo/\lo<=T10/\T10<wB.heap.size)/\wB.heap.size<=w4.heap.size):=⟨LT.out,b4.size⟩
 go_upto_region 8 with fail
 clear b4 o4 n4 ba q4 F3 LT Ga;generalize hB4:wB.heap.size=B4 at *;generalize hT11:w4.heap.size=T11 at *;clear hB4 hT11;generalize w4.alloc (oQ7 g1 Y.pn gc1 g2 Y.sn gc2 g3 Y.wn gc3 g4 Y.hn gc4 Q.on g5 Q.cn gc5 g6 Q.ol gc6 g7 Q.kn gc7)=wC at *;obtain ⟨p0,p1,p2,p3,p4,p5,p6,p7⟩:=F4.b8;obtain ⟨q0,q1,q2,q3,q4,q5,q6,q7⟩:=F4.b11;go_wp2_with fail
 clear p0 p1 p2 p3 p4 p5 p6 p7 q0 q1 q2 q3 q4 q5 q6 q7;refine (qkv Y Q B4 N1 _ _ wC HSM.1.len HSM.2 F4.o4.lv F4.o2.lv).mono ?_;rintro e w5 ⟨rfl,b5⟩;have F5:Hid (BnF W x Y Q x3 N1 T8 lo T10 B4 T11 (.slice a1 Y.pn ac1) (.slice a2 Y.sn ac2) (.slice a3 Y.wn ac3) (.slice a4 Y.hn ac4) (.slice a5 Q.cn ac5) (.slice a6 Q.ol ac6) (.slice a7 Q.kn ac7) (.slice g1 Y.pn gc1) (.slice g2 Y.sn gc2) (.slice g3 Y.wn gc3) (.slice g4 Y.hn gc4) (.slice g5 Q.cn gc5) (.slice g6 Q.ol gc6) (.slice g7 Q.kn gc7) w5):=F4.bw b5;clear b5 F4;obtain ⟨-,p0,p1,p2,p3,p4,p5,p6,p7⟩:=F5.px;obtain ⟨q0,q1,q2,q3,q4,q5,q6,q7⟩:=F5.b10;have lq:=F5.b10.lt;have lt:=F5.px.lt;go_wp2_with fail
 first|(go_region_with (first|(go_at_call 8;refine (qep x W _ HS.out HA.out (by exact F5.px.1.drew)).mono ?_;rintro e w6 ⟨v6,rfl,o6,b6⟩;have q6b:Below w5.heap.size w5 w6:=(nE w5.heap.size w5).drew.trans b6;have T6:Hid (∃ l,qb1 w6 l w6.heap.size x v6):=⟨_,o6⟩;obtain ⟨r0,r1,r2,r3,r4,r5,r6,r7⟩:=F5.b10.bw q6b;have Q6:Hid (Below w5.heap.size w5 w6):=q6b;clear o6 b6 q6b)|(go_at_call 10;refine (qpz x lo T10 T6.choose _ _ v6 w6 HS.out (F5.s3.bw Q6.out (nJ F5.b10.lt)) T6.choose_spec).mono ?_;rintro e w7 ⟨rfl,b7⟩;have Q7:Hid (Below w5.heap.size w5 w7):=Q6.trans (b7.mono Q6.size);clear b7))) | fail
 all_goals
  clear r0 r1 r2 r3 r4 r5 r6 r7 p0 p1 p2 p3 p4 p5 p6 p7 q0 q1 q2 q3 q4 q5 q6 q7 lq lt T6 Q6;have F7:Hid (BnF W x Y Q x3 N1 T8 lo T10 B4 T11 (.slice a1 Y.pn ac1) (.slice a2 Y.sn ac2) (.slice a3 Y.wn ac3) (.slice a4 Y.hn ac4) (.slice a5 Q.cn ac5) (.slice a6 Q.ol ac6) (.slice a7 Q.kn ac7) (.slice g1 Y.pn gc1) (.slice g2 Y.sn gc2) (.slice g3 Y.wn gc3) (.slice g4 Y.hn gc4) (.slice g5 Q.cn gc5) (.slice g6 Q.ol gc6) (.slice g7 Q.kn gc7) w7):=F5.bw Q7.out;clear Q7 F5;obtain ⟨q0,q1,q2,q3,q4,q5,q6,q7⟩:=F7.b10;go_wp2_with fail
  clear q0 q1 q2 q3 q4 q5 q6 q7;refine (qn0 x _ _ _ w7 HS.out F7.s3).mono ?_;rintro e w8 ⟨⟨z,rfl,hz⟩,t8⟩;have F8:Hid (BnG W x Y Y Q Q N1 T8 B4 T11 (.slice a1 Y.pn ac1) (.slice a2 Y.sn ac2) (.slice a3 Y.wn ac3) (.slice a4 Y.hn ac4) (.slice a5 Q.cn ac5) (.slice a6 Q.ol ac6) (.slice a7 Q.kn ac7) (.slice g1 Y.pn gc1) (.slice g2 Y.sn gc2) (.slice g3 Y.wn gc3) (.slice g4 Y.hn gc4) (.slice g5 Q.cn gc5) (.slice g6 Q.ol gc6) (.slice g7 Q.kn gc7) w8):=F7.mark t8 (by have:=LT2.out;omega) (by have:=LT2.out;omega) (by have:=LT2.out;omega) LT2.2;clear t8 F7;obtain ⟨p0,p1,p2,p3,p4,p5,p6,p7⟩:=F8.b8;obtain ⟨q0,q1,q2,q3,q4,q5,q6,q7⟩:=F8.b11;go_wp2_with fail
  clear p0 p1 p2 p3 p4 p5 p6 p7 q0 q1 q2 q3 q4 q5 q6 q7;refine (qkv Y Q B4 N1 _ _ w8 HSM.1.len HSM.2 F8.o4.lv F8.o2.lv).mono ?_;rintro e w9 ⟨rfl,b9⟩;have F9:Hid (BnG W x Y Y Q Q N1 T8 B4 T11 (.slice a1 Y.pn ac1) (.slice a2 Y.sn ac2) (.slice a3 Y.wn ac3) (.slice a4 Y.hn ac4) (.slice a5 Q.cn ac5) (.slice a6 Q.ol ac6) (.slice a7 Q.kn ac7) (.slice g1 Y.pn gc1) (.slice g2 Y.sn gc2) (.slice g3 Y.wn gc3) (.slice g4 Y.hn gc4) (.slice g5 Q.cn gc5) (.slice g6 Q.ol gc6) (.slice g7 Q.kn gc7) w9):=F8.bw b9;clear b9 F8;obtain ⟨q0,q1,q2,q3,q4,q5,q6,q7⟩:=F9.b11;go_wp2_with fail
  clear q0 q1 q2 q3 q4 q5 q6 q7;refine (qtk Y Q B4 T11 _ _ _ _ _ _ _ w9 HSM.1.sums HSM.2 F9.o4).mono ?_;rintro e w10 ⟨rfl,o10,t10⟩;have F10:Hid (BnG W x Y (mkY Y 1) Q (mkSh Q (mkZ5 Y 1)) N1 T8 B4 T11 (.slice a1 Y.pn ac1) (.slice a2 Y.sn ac2) (.slice a3 Y.wn ac3) (.slice a4 Y.hn ac4) (.slice a5 Q.cn ac5) (.slice a6 Q.ol ac6) (.slice a7 Q.kn ac7) (.slice g1 Y.pn gc1) (.slice g2 Y.sn gc2) (.slice g3 Y.wn gc3) (.slice g4 Y.hn gc4) (.slice g5 Q.cn gc5) (.slice g6 Q.ol gc6) (.slice g7 Q.kn gc7) w10):=F9.mark t10 o10 (by have:=LT2.out;omega) (by have:=LT2.out;omega)
  have HZ:Hid (¬ shZ Q (mkZ5 Y 1)<0):=by
   have:=(qn2 HSM.1.sums).2.2.2;show ¬ shZ Q (mkZ5 Y 1)<0;unfold shZ;omega
  clear t10 o10 F9;obtain ⟨q0,q1,q2,q3,q4,q5,q6,q7⟩:=F10.b11;go_wp2_with fail
  clear q0 q1 q2 q3 q4 q5 q6 q7;refine (qj3 Y Q B4 T11 _ _ _ _ _ _ _ w10 HSM.1.sums HSM.2 F10.o4).mono ?_;rintro e w11 ⟨rfl,b11⟩;have F11:Hid (BnG W x Y (mkY Y 1) Q (mkSh Q (mkZ5 Y 1)) N1 T8 B4 T11 (.slice a1 Y.pn ac1) (.slice a2 Y.sn ac2) (.slice a3 Y.wn ac3) (.slice a4 Y.hn ac4) (.slice a5 Q.cn ac5) (.slice a6 Q.ol ac6) (.slice a7 Q.kn ac7) (.slice g1 Y.pn gc1) (.slice g2 Y.sn gc2) (.slice g3 Y.wn gc3) (.slice g4 Y.hn gc4) (.slice g5 Q.cn gc5) (.slice g6 Q.ol gc6) (.slice g7 Q.kn gc7) w11):=F10.bw b11;clear b11 F10;obtain ⟨-,p0,p1,p2,p3,p4,p5,p6,p7⟩:=F11.px;have hz5:=HZ.out;go_wp2_with fail
  clear p0 p1 p2 p3 p4 p5 p6 p7 hz5;refine (qep x W w11 HS.out HA.out F11.px.1).mono ?_;rintro e w12 ⟨v12,rfl,o12,b12⟩;obtain ⟨x12,rfl,g12,y12,z12,cp12,nn12,nk12⟩:=o12.g4;have S12:Hid (LvG w12 x12/\x12.s.y=x.s.y/\x12.h.z=x.h.z/\(x12.s.Nn true/\x12.s.Wz)/\x12.h.Nk/\∀ i,i<x12.s.hn->x12.s.hL i<=x12.s.hC i):=⟨g12,y12,z12,nn12,nk12,cp12⟩
  have F12:Hid (BnG W x Y (mkY Y 1) Q (mkSh Q (mkZ5 Y 1)) N1 T8 B4 T11 (.slice a1 Y.pn ac1) (.slice a2 Y.sn ac2) (.slice a3 Y.wn ac3) (.slice a4 Y.hn ac4) (.slice a5 Q.cn ac5) (.slice a6 Q.ol ac6) (.slice a7 Q.kn ac7) (.slice g1 Y.pn gc1) (.slice g2 Y.sn gc2) (.slice g3 Y.wn gc3) (.slice g4 Y.hn gc4) (.slice g5 Q.cn gc5) (.slice g6 Q.ol gc6) (.slice g7 Q.kn gc7) w12):=F11.bw b12;clear b12 F11 o12 g12 y12 z12 nn12 nk12 cp12;go_wp2_with fail
  refine (qhb x12 z1 z2 w12 S12.1 (LvIn.len_of HS.out S12.2.1 S12.2.2.1) (S12.2.2.2.1.1.no2) S12.2.2.2.1.2 S12.2.2.2.2.1 ((F12.px.1.cell (p:=⟨0,0,none⟩) HV0.out).trans HV.out)).mono ?_;rintro e w13 ⟨v13,rfl,o13,b13⟩;rw [S12.2.1,S12.2.2.1,HYC.1,HYC.2.1] at o13;rw [S12.2.1,S12.2.2.1,HYC.2.2];obtain ⟨k1,kc1,k2,kc2,k3,kc3,k4,kc4,k5,kc5,k6,kc6,k7,kc7,rfl,n13⟩:=qbm.of o13;have ba:=qad w13 (oQ7 k1 Y.pn kc1 k2 Y.sn kc2 k3 Y.wn kc3 k4 Y.hn kc4 Q.on k5 Q.cn kc5 k6 Q.ol kc6 k7 Q.kn kc7);have q13:=b13.trans (ba.mono b13.size);have F13:Hid (BnG W x Y (mkY Y 1) Q (mkSh Q (mkZ5 Y 1)) N1 T8 B4 T11 (.slice a1 Y.pn ac1) (.slice a2 Y.sn ac2) (.slice a3 Y.wn ac3) (.slice a4 Y.hn ac4) (.slice a5 Q.cn ac5) (.slice a6 Q.ol ac6) (.slice a7 Q.kn ac7) (.slice g1 Y.pn gc1) (.slice g2 Y.sn gc2) (.slice g3 Y.wn gc3) (.slice g4 Y.hn gc4) (.slice g5 Q.cn gc5) (.slice g6 Q.ol gc6) (.slice g7 Q.kn gc7) (w13.alloc (oQ7 k1 Y.pn kc1 k2 Y.sn kc2 k3 Y.wn kc3 k4 Y.hn kc4 Q.on k5 Q.cn kc5 k6 Q.ol kc6 k7 Q.kn kc7))/\qbm (w13.alloc (oQ7 k1 Y.pn kc1 k2 Y.sn kc2 k3 Y.wn kc3 k4 Y.hn kc4 Q.on k5 Q.cn kc5 k6 Q.ol kc6 k7 Q.kn kc7)) w12.heap.size w13.heap.size Y Q (.slice k1 Y.pn kc1) (.slice k2 Y.sn kc2) (.slice k3 Y.wn kc3) (.slice k4 Y.hn kc4) (.slice k5 Q.cn kc5) (.slice k6 Q.ol kc6) (.slice k7 Q.kn kc7)/\BoxH (w13.alloc (oQ7 k1 Y.pn kc1 k2 Y.sn kc2 k3 Y.wn kc3 k4 Y.hn kc4 Q.on k5 Q.cn kc5 k6 Q.ol kc6 k7 Q.kn kc7)) w13.heap.size (.slice k1 Y.pn kc1) (.slice k2 Y.sn kc2) (.slice k3 Y.wn kc3) (.slice k4 Y.hn kc4) (.bool Q.on) (.slice k5 Q.cn kc5) (.slice k6 Q.ol kc6) (.slice k7 Q.kn kc7)):=⟨F12.bw q13,n13.bw ba,BoxH.new w13 _ _ _ _ _ _ _ _ _⟩
  go_upto_region 25 with fail
  clear b13 o13 n13 ba q13 F12 S12;generalize hN12:w12.heap.size=N12 at *;generalize hT16:w13.heap.size=T16 at *;clear hN12 hT16;generalize w13.alloc (oQ7 k1 Y.pn kc1 k2 Y.sn kc2 k3 Y.wn kc3 k4 Y.hn kc4 Q.on k5 Q.cn kc5 k6 Q.ol kc6 k7 Q.kn kc7)=wD at *;obtain ⟨p0,p1,p2,p3,p4,p5,p6,p7⟩:=F13.1.b8;obtain ⟨q0,q1,q2,q3,q4,q5,q6,q7⟩:=F13.2.2;go_wp2_with fail
  clear p0 p1 p2 p3 p4 p5 p6 p7 q0 q1 q2 q3 q4 q5 q6 q7;refine (qkv Y Q N12 N1 _ _ wD HSM.1.len HSM.2 F13.2.1.lv F13.1.o2.lv).mono ?_;rintro e w14 ⟨rfl,b14⟩;have F14:Hid (BnG W x Y (mkY Y 1) Q (mkSh Q (mkZ5 Y 1)) N1 T8 B4 T11 (.slice a1 Y.pn ac1) (.slice a2 Y.sn ac2) (.slice a3 Y.wn ac3) (.slice a4 Y.hn ac4) (.slice a5 Q.cn ac5) (.slice a6 Q.ol ac6) (.slice a7 Q.kn ac7) (.slice g1 Y.pn gc1) (.slice g2 Y.sn gc2) (.slice g3 Y.wn gc3) (.slice g4 Y.hn gc4) (.slice g5 Q.cn gc5) (.slice g6 Q.ol gc6) (.slice g7 Q.kn gc7) w14):=F13.1.bw b14;clear b14 F13;obtain ⟨q0,q1,q2,q3,q4,q5,q6,q7⟩:=F14.b11;go_wp2_with fail
  clear q0 q1 q2 q3 q4 q5 q6 q7;refine (qj3 Y Q B4 T11 _ _ _ _ _ _ _ w14 HSM.1.sums HSM.2 F14.o4).mono ?_;rintro e w15 ⟨rfl,b15⟩;have F15:Hid (BnG W x Y (mkY Y 1) Q (mkSh Q (mkZ5 Y 1)) N1 T8 B4 T11 (.slice a1 Y.pn ac1) (.slice a2 Y.sn ac2) (.slice a3 Y.wn ac3) (.slice a4 Y.hn ac4) (.slice a5 Q.cn ac5) (.slice a6 Q.ol ac6) (.slice a7 Q.kn ac7) (.slice g1 Y.pn gc1) (.slice g2 Y.sn gc2) (.slice g3 Y.wn gc3) (.slice g4 Y.hn gc4) (.slice g5 Q.cn gc5) (.slice g6 Q.ol gc6) (.slice g7 Q.kn gc7) w15):=F14.bw b15;clear b15 F14;have hz5:=HZ.out;go_wp2;go_ret;exact ⟨rfl,F15.px.1⟩
theorem qlp (x:LvIn) (z1:Int) (z2:Int) (W:World) (hr:x.Row W) (hm:x.Max) (hs:1048576<x.size):
  Calls prog 4 #[x.v,.int .i64 z1,.int .i64 z2] W (rB W (.bool true)):=by
 have HR:Hid (x.Row W):=hr;have HM:Hid x.Max:=hm;have HS:Hid (1048576<x.size):=hs;clear hr hm hs
 go_enter func4,ntmps4
 go_wp2_with fail
 refine (qov x _ (HR.bw (qad _ _)) HM.out HS.out).mono ?_;rintro e w0 ⟨rfl,b0⟩;have B0:Hid (Below W.heap.size W w0):=(qad _ _).trans (b0.mono (by simp));clear b0;go_wp2;go_ret;exact ⟨rfl,B0.out⟩
