import Derived.Test.YtmnajpgicdomcaaGreatDoorRl25
import Derived.Test.YtmnajpgicdomcaaGreatDoorRl24
import Derived.Test.YtmnajpgicdomcaaGreatDoorRl26
namespace Go.Proofs.YtmnajpgicdomcaaGreatDoor
set_option maxRecDepth 100000
set_option maxHeartbeats 16000000
open Go.ChangeShapes Go.WideShapes Go.ChangeAt Go.RowKit Go.Deep
theorem qpt (y:Sy) (p f:Int) (w:World) (B:Nat) (v:Value) (o:qac true w B y v) (hB:B<=w.heap.size) (hn:y.pn<=1048576) (t1:inB p 0 ((y.pn:Int) - 1)=false):
  Calls Tryz.prog 132 #[v,.int .i64 p,.int .i64 f] w fun e w'=>e=.returned (.tuple #[v,.int .i64 2])/\Below B w w'/\qac true w' B y v:=by
 obtain ⟨c,vp,vs,vw,vh,up,us,uw,uh,rfl,o⟩:=o;obtain ⟨pa,pc,rfl⟩:=zU o.p.row;obtain ⟨sa,sc,rfl⟩:=zU o.s.row;obtain ⟨wa,wc,rfl⟩:=zU o.t.row;obtain ⟨ha,hc,rfl⟩:=zU o.h.row;have hpn:(y.pn:Int)<=1048576:=by omega
 have hM:B<=w.heap.size+1:=by omega
 have BW:Hid (Below w.heap.size w ((w.alloc (oQ4 pa y.pn pc sa y.sn sc wa y.wn wc ha y.hn hc)).alloc (zQ3))):=(zQ _ _).trans ((zQ _ _).mono (by simp));have NB:Hid (BoxC ((w.alloc (oQ4 pa y.pn pc sa y.sn sc wa y.wn wc ha y.hn hc)).alloc (zQ3)) w.heap.size (.slice pa y.pn pc) (.slice sa y.sn sc) (.slice wa y.wn wc) (.slice ha y.hn hc)):=(BoxC.new w _ _ _ _ _).below (zQ _ _);have RB:Hid (BoxC ((w.alloc (oQ4 pa y.pn pc sa y.sn sc wa y.wn wc ha y.hn hc)).alloc (zQ3)) (w.heap.size+1) (.slice none 0 0) (.slice none 0 0) (.slice none 0 0) (.slice none 0 0)/\∀ j,((w.alloc (oQ4 pa y.pn pc sa y.sn sc wa y.wn wc ha y.hn hc)).alloc (zQ3)).frozen? ⟨w.heap.size+1,j,none⟩=false):=⟨⟨zW _ _ _ 0 (by simp),zW _ _ _ 1 (by simp),zW _ _ _ 2 (by simp),zW _ _ _ 3 (by simp)⟩,fun j=>yD _ _ _ _ (by simp)⟩
 have l1:w.heap.size+1<((w.alloc (oQ4 pa y.pn pc sa y.sn sc wa y.wn wc ha y.hn hc)).alloc (zQ3)).heap.size:=by simp
 have OO:Hid (OwnS true w B c y (.slice pa y.pn pc) (.slice sa y.sn sc) (.slice wa y.wn wc) (.slice ha y.hn hc) up us uw uh):=o;clear o
 go_enter Tryz.func132,Tryz.ntmps132
 go_wp2_with fail
 refine (l1In_any _ _ _ _).mono ?_;rintro e w1 ⟨rfl,rfl⟩;rw [t1];generalize (w.alloc (oQ4 pa y.pn pc sa y.sn sc wa y.wn wc ha y.hn hc)).alloc (zQ3)=W2 at *;obtain ⟨b0,b1,b2,b3⟩:=NB.out;obtain ⟨⟨r0,r1,r2,r3⟩,rf⟩:=RB.out;have O2:Hid (OwnS true W2 B (rcol c w.heap.size 0) y (.slice pa y.pn pc) (.slice sa y.sn sc) (.slice wa y.wn wc) (.slice ha y.hn hc) up us uw uh):=(OO.out.recol 0).below BW.out;have BB:Hid (Below B w W2):=BW.out.mono hB;go_wp2;exact bodyPost_ret (v:=.tuple #[sysV pa y.pn pc sa y.sn sc wa y.wn wc ha y.hn hc,.int .i64 2]) (by simp [results,Tryz.results132,go_sem,r0,r1,r2,r3]) rfl ⟨rfl,(((BB.out.setCell hM _).setCell hM _).setCell hM _).setCell hM _,_,_,_,_,_,_,_,_,_,rfl,(((O2.out.setOut (qah (Nat.le_succ _)) 0 _).setOut (qah (Nat.le_succ _)) 1 _).setOut (qah (Nat.le_succ _)) 2 _).setOut (qah (Nat.le_succ _)) 3 _⟩
noncomputable def stC (y:Sy) (p f:Int):Int:=if y.okB=true then (if belB p y.pn=true then cmS y p.toNat f else 2) else 1
noncomputable def stY (y:Sy) (p f:Int):Sy:=if y.okB=true then (if belB p y.pn=true then y.step p.toNat f else y) else { y with pn:=0,sn:=0,wn:=0,hn:=0 }
theorem ql1 (x:SysIn) (p f:Int) (w:World) (hG:SysG w x) (hL:x.Len) (hcap:∀ i,i<x.hn->x.hL i<=x.hC i):
  Calls Tryz.prog 119 #[x.v,.int .i64 p,.int .i64 f] w fun e w'=>∃ v,e=.returned (.tuple #[v,.int .i64 (stC x.y p f)])/\qac true w' w.heap.size (stY x.y p f) v/\Below w.heap.size w w':=by
 have HG:Hid (SysG w x):=hG;have HL:Hid x.Len:=hL;have HS:Hid (∀ wx,Below w.heap.size w wx->Calls Tryz.prog 15 #[x.v] wx fun e w'=>e=.returned (.bool x.y.okB)/\Below wx.heap.size wx w'):=fun wx hb=>qcf x wx (HG.out.below hb) hL hcap;have HC4:Hid (∀ wx,Below w.heap.size w wx->Calls Tryz.prog 38 #[x.v] wx fun e w'=>∃ v,e=.returned v/\qac true w' wx.heap.size x.y v/\Below wx.heap.size wx w'):=fun wx hb=>qdo x wx (HG.out.below hb) hL;have BW:Hid (Below w.heap.size w ((w.alloc (oQ4 x.pa x.pn x.pc x.sa x.sn x.sc x.wa x.wn x.wc x.ha x.hn x.hc)).alloc (zQ3))):=(zQ _ _).trans ((zQ _ _).mono (by simp));have NB:Hid (BoxC ((w.alloc (oQ4 x.pa x.pn x.pc x.sa x.sn x.sc x.wa x.wn x.wc x.ha x.hn x.hc)).alloc (zQ3)) w.heap.size (.slice x.pa x.pn x.pc) (.slice x.sa x.sn x.sc) (.slice x.wa x.wn x.wc) (.slice x.ha x.hn x.hc)):=(BoxC.new w _ _ _ _ _).below (zQ _ _);have RB:Hid (BoxC ((w.alloc (oQ4 x.pa x.pn x.pc x.sa x.sn x.sc x.wa x.wn x.wc x.ha x.hn x.hc)).alloc (zQ3)) (w.heap.size+1) (.slice none 0 0) (.slice none 0 0) (.slice none 0 0) (.slice none 0 0)/\∀ j,((w.alloc (oQ4 x.pa x.pn x.pc x.sa x.sn x.sc x.wa x.wn x.wc x.ha x.hn x.hc)).alloc (zQ3)).frozen? ⟨w.heap.size+1,j,none⟩=false):=⟨⟨zW _ _ _ 0 (by simp),zW _ _ _ 1 (by simp),zW _ _ _ 2 (by simp),zW _ _ _ 3 (by simp)⟩,fun j=>yD _ _ _ _ (by simp)⟩
 have hM:w.heap.size<=w.heap.size+1:=Nat.le_succ _;clear hG hL hcap
 go_enter Tryz.func119,Tryz.ntmps119
 go_wp2_with fail
 generalize (w.alloc (oQ4 x.pa x.pn x.pc x.sa x.sn x.sc x.wa x.wn x.wc x.ha x.hn x.hc)).alloc (zQ3)=W2 at *;refine (HS.out W2 BW.out).mono ?_;rintro e w1 ⟨rfl,q1⟩;have B1:Hid (Below w.heap.size w w1/\BoxC w1 w.heap.size (.slice x.pa x.pn x.pc) (.slice x.sa x.sn x.sc) (.slice x.wa x.wn x.wc) (.slice x.ha x.hn x.hc)/\BoxC w1 (w.heap.size+1) (.slice none 0 0) (.slice none 0 0) (.slice none 0 0) (.slice none 0 0)/\∀ j,w1.frozen? ⟨w.heap.size+1,j,none⟩=false):=⟨BW.out.trans (q1.mono BW.out.size),NB.out.below q1,RB.1.below q1,fun j=>((qag q1).2 _ j (zJ _ _ RB.1.1)).trans (RB.2 j)⟩
 clear q1 BW NB RB HS;have l1:w.heap.size+1<w1.heap.size:=zJ _ _ B1.2.2.1.1;obtain ⟨b0,b1,b2,b3⟩:=B1.2.1
 rcases zK x.y.okB with t | t
 case inr=>
  have HV:Hid (stC x.y p f=1/\stY x.y p f={ x.y with pn:=0,sn:=0,wn:=0,hn:=0 }):=⟨if_neg (by rw [t];simp),if_neg (by rw [t];simp)⟩
  obtain ⟨⟨r0,r1,r2,r3⟩,rf⟩:=B1.2.2;rw [t];clear t;go_wp2;exact bodyPost_ret (v:=.tuple #[sysV none 0 0 none 0 0 none 0 0 none 0 0,.int .i64 1]) (by simp [results,Tryz.results119,go_sem,r0,r1,r2,r3]) rfl ⟨_,by rw [HV.1],by rw [HV.2];exact qac.zero _ _ _,(((B1.1.setCell hM _).setCell hM _).setCell hM _).setCell hM _⟩
 have HO:Hid x.y.Ok:=Sy.ok_of t
 have HC:Hid (∀ wx v,w1.heap.size<=wx.heap.size->qac true wx w1.heap.size x.y v->Calls Tryz.prog 132 #[v,.int .i64 p,.int .i64 f] wx fun e w'=>e=.returned (.tuple #[v,.int .i64 (stC x.y p f)])/\Below w1.heap.size wx w'/\qac true w' w1.heap.size (stY x.y p f) v):=by
  show ∀ wx v,_;intro wx v hwx o;have hc4:x.y.pn<=4:=HO.out.cn.1.2;by_cases hb:belB p x.y.pn=true
  ·have hb':0<=p/\p<(x.y.pn:Int):=by simpa [belB] using hb
   obtain ⟨k,rfl⟩:∃ k:Nat,p=k:=⟨p.toNat,by omega⟩
   rw [stC,if_pos t,if_pos hb,stY,if_pos t,if_pos hb];exact qi3 x.y k f wx _ v o (by omega) HO.out
  ·rw [stC,if_pos t,if_neg hb,stY,if_pos t,if_neg hb]
   exact qpt x.y p f wx _ v o hwx (by omega) (by
    simp only [inB,decide_eq_false_iff_not];simp only [belB,decide_eq_true_eq] at hb
    omega)
 have HZ:Hid (stC x.y p f≠0->stY x.y p f=x.y):=fun h=>by
  rw [stC,if_pos t] at h;rw [stY,if_pos t];by_cases hb:belB p x.y.pn=true
  ·rw [if_pos hb] at h ⊢
   exact Sy.step_no h
  ·rw [if_neg hb]
 rw [t];clear t;go_wp2_with fail
 refine (HC4.out w1 B1.1).mono ?_;rintro e w3 ⟨v3,rfl,o3,q3⟩;obtain ⟨pa,pc,sa,sc,wa,wc,ha,hc,rfl⟩:=o3.form;have HC':=HC.out w3 _ q3.size o3;clear HC;generalize hC:stC x.y p f=C at *;generalize hY:stY x.y p f=Y at *;go_wp2_with fail
 refine HC'.mono ?_;rintro e w5 ⟨rfl,q5,o5⟩;have Q5:Below w1.heap.size w1 w5:=q3.trans q5;have B5:Hid (Below w.heap.size w w5/\BoxC w5 w.heap.size (.slice x.pa x.pn x.pc) (.slice x.sa x.sn x.sc) (.slice x.wa x.wn x.wc) (.slice x.ha x.hn x.hc)/\BoxC w5 (w.heap.size+1) (.slice none 0 0) (.slice none 0 0) (.slice none 0 0) (.slice none 0 0)/\(∀ j,w5.frozen? ⟨w.heap.size+1,j,none⟩=false)/\w1.heap.size<=w5.heap.size/\qac true w5 w1.heap.size Y (sysV pa x.y.pn pc sa x.y.sn sc wa x.y.wn wc ha x.y.hn hc)):=⟨B1.1.trans (Q5.mono B1.1.size),B1.2.1.below Q5,B1.2.2.1.below Q5,fun j=>((qag Q5).2 _ j l1).trans (B1.2.2.2 j),Q5.size,o5⟩
 clear o3 q3 q5 o5 Q5 HC' B1 b0 b1 b2 b3;obtain ⟨b0,b1,b2,b3⟩:=B5.2.1;obtain ⟨r0,r1,r2,r3⟩:=B5.2.2.1;have rf:=B5.2.2.2.1;have l5:w.heap.size+1<w5.heap.size:=zJ _ _ r0;have l50:w.heap.size<w5.heap.size:=by omega
 by_cases hc0:C=0
 ·subst hc0
  go_wp2
  exact bodyPost_ret (v := .tuple #[sysV pa x.y.pn pc sa x.y.sn sc wa x.y.wn wc ha x.y.hn hc, .int .i64 0]) (by simp [results, Tryz.results119, go_sem, r0, r1, r2, r3, l5]) rfl ⟨_, by rw [hC], by
   rw [hY]
   exact (((((B5.2.2.2.2.2.setBelow l1 0 _).setBelow l1 1 _).setBelow l1 2 _).setBelow l1 3 _).below (zQ _ _)).base (by omega),((((B5.1.setCell hM _).setCell hM _).setCell hM _).setCell hM _).trans ((zQ _ _).mono (by simp;omega))⟩
 ·have tc:(C == 0)=false:=by simpa using hc0
  go_wp2_with fail
  refine (HC4.out _ (B5.1.trans ((zQ _ _).mono (Nat.le_of_lt l50)))).mono ?_;rintro e w7 ⟨v7,rfl,o7,q7⟩;obtain ⟨pa7,pc7,sa7,sc7,wa7,wc7,ha7,hc7,rfl⟩:=o7.form;have Q7:Below w5.heap.size w5 w7:=(zQ _ _).trans (q7.mono (by simp));have hc:=(qag Q7).1;replace r0:=(hc _ _ l5).trans r0;replace r1:=(hc _ _ l5).trans r1;replace r2:=(hc _ _ l5).trans r2;replace r3:=(hc _ _ l5).trans r3;replace rf:∀ j,w7.frozen? ⟨w.heap.size+1,j,none⟩=false:=fun j=>((qag Q7).2 _ j l5).trans (rf j);have l7:w.heap.size+1<w7.heap.size:=zL l5 Q7.size;have B7:Hid (Below w.heap.size w w7/\qac true w7 w5.heap.size x.y (sysV pa7 x.y.pn pc7 sa7 x.y.sn sc7 wa7 x.y.wn wc7 ha7 x.y.hn hc7)):=⟨B5.1.trans (Q7.mono (Nat.le_of_lt l50)),o7.base (by simp)⟩
  clear o7 q7 Q7 hc B5 b0 b1 b2 b3;go_wp2
  exact bodyPost_ret (v := .tuple #[sysV pa7 x.y.pn pc7 sa7 x.y.sn sc7 wa7 x.y.wn wc7 ha7 x.y.hn hc7, .int .i64 C]) (by simp [results, Tryz.results119, go_sem, r0, r1, r2, r3]) rfl ⟨_, by rw [hC], by
   rw [hY,HZ.out hc0]
   exact ((((B7.2.setBelow l5 0 _).setBelow l5 1 _).setBelow l5 2 _).setBelow l5 3 _).base (by omega),(((B7.1.setCell hM _).setCell hM _).setCell hM _).setCell hM _⟩
def SysT (w:World) (B T:Nat) (y:Sy) (v:Value):Prop:=∃ c vp vs vw vh up us uw uh,v=.agg #[vp,vs,vw,vh]/\OwnS false w B c y vp vs vw vh up us uw uh/\∀ b,T<=b->c b=0
theorem OwnS.sysT {z:Bool} {w:World} {B:Nat} {c:Nat->Nat} {y:Sy} {vp vs vw vh:Value} {up us uw uh:Nat->Value} (o:OwnS z w B c y vp vs vw vh up us uw uh):SysT w B w.heap.size y (.agg #[vp,vs,vw,vh]):=by
 have o:=o.weak
 have h : ∀ i k, Cl B c i k → k < w.heap.size → Cl B (fun b => if b < w.heap.size then c b else 0) i k := fun i k hk hl => ⟨hk.1, by
  show (if k<w.heap.size then c k else 0)=i;rw [if_pos hl]
  exact hk.2⟩
 exact ⟨fun b=>if b<w.heap.size then c b else 0,vp,vs,vw,vh,up,us,uw,uh,rfl,⟨o.p.mono (h 1),o.s.mono (h 2),o.t.mono (h 3),o.h.mono (h 4)⟩,fun b hb=>if_neg (by omega)⟩
theorem qac.sysT {z:Bool} {w:World} {B:Nat} {y:Sy} {v:Value} (o:qac z w B y v):SysT w B w.heap.size y v:=by
 obtain ⟨c,vp,vs,vw,vh,up,us,uw,uh,rfl,o⟩:=o;exact OwnS.sysT o
theorem Own1.sysT {w:World} {B T n:Nat} {L:Nat->Nat} {H:Nat->Nat->I5} {vp vs vw vh:Value} (o:Own1 w B T n L H vp vs vw vh):SysT w B w.heap.size (nwY n L H) (.agg #[vp,vs,vw,vh]):=by
 obtain ⟨c,up,us,o⟩:=o.s;exact OwnS.sysT o
theorem SysT.keep {w w':World} {B T:Nat} {y:Sy} {v:Value} (o:SysT w B T y v) (h:∀ b,B<=b->b<T->b<w.heap.size->w'.heap[b]? = w.heap[b]?):SysT w' B T y v:=by
 obtain ⟨c,vp,vs,vw,vh,up,us,uw,uh,e,o,ht⟩:=o
 have key : ∀ i, i ≠ 0 → ∀ k, Cl B c i k → k < w.heap.size → w'.heap[k]? = w.heap[k]? := fun i hi k hk hl => h k hk.1 (by
  apply Classical.byContradiction;intro hn;have h1:=ht k (by omega);have h2:c k=i:=hk.2
  omega) hl
 exact ⟨c,vp,vs,vw,vh,up,us,uw,uh,e,⟨o.p.keep (key 1 (by decide)),o.s.keep (key 2 (by decide)),o.t.keep (key 3 (by decide)),o.h.keep (key 4 (by decide))⟩,ht⟩
theorem SysT.below {w w':World} {B T:Nat} {y:Sy} {v:Value} (o:SysT w B T y v) (hb:Below w.heap.size w w'):SysT w' B T y v:=o.keep fun b _ _ hl=>hb.block b hl
theorem SysT.base {w:World} {B B' T:Nat} {y:Sy} {v:Value} (o:SysT w B T y v) (h:B'<=B):SysT w B' T y v:=by
 obtain ⟨c,vp,vs,vw,vh,up,us,uw,uh,e,o,ht⟩:=o;exact ⟨c,vp,vs,vw,vh,up,us,uw,uh,e,⟨o.p.mono fun _ q _=>⟨zP h q.1,q.2⟩,o.s.mono fun _ q _=>⟨zP h q.1,q.2⟩,o.t.mono fun _ q _=>⟨zP h q.1,q.2⟩,o.h.mono fun _ q _=>⟨zP h q.1,q.2⟩⟩,ht⟩
theorem SysT.top {w:World} {B T T':Nat} {y:Sy} {v:Value} (o:SysT w B T y v) (h:T<=T'):SysT w B T' y v:=by
 obtain ⟨c,vp,vs,vw,vh,up,us,uw,uh,e,o,ht⟩:=o;exact ⟨c,vp,vs,vw,vh,up,us,uw,uh,e,o,fun b hb=>ht b (by omega)⟩
theorem qql {w:World} {B sz n:Nat} {e:TypeId} {u:Value} {xs:List Value} (o:w.ownsRow B e sz u n xs):n<=cpOf u:=by
 rcases o.2 with ⟨rfl,h⟩ | ⟨g,cap,cur,rfl,_,_,hnc,_⟩
 ·rw [h];exact Nat.zero_le _
 ·exact hnc
structure SysX (w:World) (B T:Nat) (x:SysIn):Prop where
 g:∀ w',(∀ b,B<=b->b<T->b<w.heap.size->w'.heap[b]? = w.heap[b]?)->SysG w' x
 cap:∀ i,i<x.hn->x.hL i<=x.hC i
 nn:x.Nn false
theorem SysT.x {w:World} {B T:Nat} {y:Sy} {v:Value} (o:SysT w B T y v):∃ x:SysIn,v=x.v/\x.y=y/\SysX w B T x:=by
 obtain ⟨c,vp,vs,vw,vh,up,us,uw,uh,rfl,o,ht⟩:=o;refine ⟨y.sysIn vp vs vw vh up us uw uh,o.v.symm,rfl,fun w' h=>?_,fun i hi=>qql (o.h.own i hi),o.nf⟩
 have key : ∀ i, i ≠ 0 → ∀ k, Cl B c i k → k < w.heap.size → w'.heap[k]? = w.heap[k]? := fun i hi k hk hl => h k hk.1 (by
  apply Classical.byContradiction;intro hn;have h1:=ht k (by omega);have h2:c k=i:=hk.2
  omega) hl
 exact OwnS.g (z:=false) (B:=B) (c:=c) ⟨o.p.keep (key 1 (by decide)),o.s.keep (key 2 (by decide)),o.t.keep (key 3 (by decide)),o.h.keep (key 4 (by decide))⟩
theorem SysX.abv {w w':World} {B T c:Nat} {x:SysIn} (h:SysX w B T x) (hc:c<B) (ha:Abv c w w'):SysG w' x:=h.g w' fun b hb _ hl=>ha.2 b (by omega) hl
theorem SysX.below {w w':World} {B T:Nat} {x:SysIn} (h:SysX w B T x) (hb:Below w.heap.size w w'):SysG w' x:=h.g w' fun b _ _ hl=>hb.block b hl
theorem SysX.self {w:World} {B T:Nat} {x:SysIn} (h:SysX w B T x):SysG w x:=h.g w fun _ _ _ _=>rfl
theorem Sy.Sm.inLen {x:SysIn} (h:x.y.Sm):x.Len:=by
 obtain ⟨⟨h1,h2,h3,h4⟩,hp,hs,hw,hh⟩:=h;have h1':x.pn<=16:=h1;have h2':x.sn<=16:=h2;have h3':x.wn<=16:=h3;have h4':x.hn<=16:=h4;refine ⟨⟨by omega,fun i hi=>?_⟩,⟨by omega,fun i hi=>?_⟩,⟨by omega,fun i hi=>?_⟩,⟨by omega,fun i hi=>?_⟩⟩
 ·have:x.pL i<=1000:=hp i hi
  omega
 ·have:(x.sQ i).rs.length<=1000/\(x.sQ i).os.length<=1000:=hs i hi
  omega
 ·have:x.wL i<=1000:=hw i hi
  omega
 ·have:x.hL i<=1000:=hh i hi
  omega
def Sy.Good (y:Sy):Prop:=y.Ok\/(y.pn=0/\y.sn=0/\y.wn=0/\y.hn=0)
theorem Sy.Good.sm {y:Sy} (h:y.Good):y.Sm:=by
 rcases h with h | ⟨h1,h2,h3,h4⟩
 ·exact h.sm
 ·exact ⟨by omega,fun i hi=>by omega,fun i hi=>by omega,fun i hi=>by omega,fun i hi=>by omega⟩
theorem Sy.Good.step {y:Sy} (_h:y.Good) {p f:Int} (hc:stC y p f=0):(stY y p f).Good:=by
 unfold stC at hc;unfold stY;by_cases ho:y.okB=true
 ·rw [if_pos ho] at hc ⊢
  by_cases hb:belB p y.pn=true
  ·rw [if_pos hb] at hc ⊢
   have hb':0<=p/\p<(y.pn:Int):=by simpa [belB] using hb
   exact .inl ((Sy.ok_of ho).step (by omega) hc)
  ·rw [if_neg hb] at hc
   cases hc
 ·rw [if_neg ho] at hc
  cases hc
structure DK (w wr:World) (W0 c:Nat) (a0:Option Addr) (len cap B T:Nat) (y:Sy) (v:Value):Prop where
 cu:Cur wr W0 c a0 len cap
 sy:SysT wr B T y v
 gr:w.grownBy wr (some c)
 lt:c<B
theorem DK.draw {w wr w':World} {W0 c:Nat} {a0:Option Addr} {len cap B T:Nat} {y:Sy} {v:Value} (h:DK w wr W0 c a0 len cap B T y v) (hc:Cur w' W0 c a0 len cap) (hg:wr.grownBy w' (some c)):DK w w' W0 c a0 len cap B T y v:=
 ⟨hc,h.sy.keep fun b hb _ hl=>hg.block b hl (by have:=h.lt;simp;omega),h.gr.trans hg,h.lt⟩
theorem DK.below {w wr w':World} {W0 c:Nat} {a0:Option Addr} {len cap B T:Nat} {y:Sy} {v:Value} (h:DK w wr W0 c a0 len cap B T y v) (hb:Below wr.heap.size wr w'):DK w w' W0 c a0 len cap B T y v:=
 ⟨h.cu.kept (zZ hb) (by simp) (fun k hk=>by cases hk),h.sy.below hb,h.gr.andThen (zZ hb) (fun j hj=>by cases hj),h.lt⟩
theorem DK.alloc {w wr:World} {W0 c:Nat} {a0:Option Addr} {len cap B T:Nat} {y:Sy} {v:Value} (h:DK w wr W0 c a0 len cap B T y v) (o:Obj):DK w (wr.alloc o) W0 c a0 len cap B T y v:=h.below (zQ _ _)
theorem DK.set {w wr:World} {W0 c:Nat} {a0:Option Addr} {len cap B T:Nat} {y:Sy} {v:Value} (h:DK w wr W0 c a0 len cap B T y v) {N:Nat} (hN:w.heap.size<=N) (hc:c≠N) (hT:N<B\/T<=N) (hW:W0<=N) (j:Nat) (u:Value):DK w (wr.setCell ⟨N,j,none⟩ u) W0 c a0 len cap B T y v:=by
 have hg:wr.grownBy (wr.setCell ⟨N,j,none⟩ u) (some N):=zV (World.grownBy.refl _ _) (.inl rfl) u;exact ⟨h.cu.kept hg (fun e=>hc (by simpa using e)) (fun k hk=>by cases hk;exact hW),h.sy.keep fun b hb ht hl=>hg.block b hl (by simp;omega),h.gr.andThen hg (fun k hk=>by cases hk;exact .inl hN),h.lt⟩
theorem qac.formJ {w:World} {B:Nat} {y:Sy} {v:Value} (o:qac true w B y v):∃ pa pc sa sc wa wc ha hc,v=sysV pa y.pn pc sa y.sn sc wa y.wn wc ha y.hn hc:=by
 obtain ⟨c,vp,vs,vw,vh,up,us,uw,uh,rfl,o⟩:=o;obtain ⟨pa,pc,rfl⟩:=zU o.p.row;obtain ⟨sa,sc,rfl⟩:=zU o.s.row;obtain ⟨wa,wc,rfl⟩:=zU o.t.row;obtain ⟨ha,hc,rfl⟩:=zU o.h.row;exact ⟨pa,pc,sa,sc,wa,wc,ha,hc,rfl⟩
theorem Sy.Ok.any {y:Sy} (h:y.Ok) {p:Nat} (hp:p<y.pn) (hq:y.nq p=9):y.nk p=3:=by
 by_cases hk:y.nk p=2
 ·have h1:=h.peer hp hk
  have h2:=h.cn.1.2;omega
 ·unfold Sy.nk nxK at *
  unfold Sy.nq nxP at hq;by_cases hr:qbu (y.pH p) (y.pL p) (y.sS p).p (y.sS p).rs (y.sS p).os (y.sS p).c=true
  ·rw [if_pos hr] at *
   unfold evP at hq;unfold evK at *;by_cases e6:(y.pH p (y.sS p).p.toNat).o=6
   ·rw [if_pos e6] at hk
    exact absurd rfl hk
   ·rw [if_neg e6] at *
    by_cases e7:(y.pH p (y.sS p).p.toNat).o=7
    ·rw [if_pos e7]
    ·rw [if_neg e7] at hq
     cases hq
  ·rw [if_neg hr] at hq
   cases hq
theorem qot {c:Nat->Int}:∀ {n:Nat},(∀ j,j<n->c j≠0)->rdL c n=[]
 | 0,_=>rfl
 | n+1,h=>by rw [qj9 (h n (by omega)),qot fun j hj=>h j (by omega)]
theorem qm6 (x:SysIn) (p:Int) (w:World) (h1:x.pn<=1048576) (t1:inB p 0 ((x.pn:Int) - 1)=false):
  Calls Tryz.prog 139 #[x.v,.int .i64 p] w fun e w'=>∃ u,e=.returned u/\OwnI w' w.heap.size u []/\Below w.heap.size w w':=by
 have hpn:(x.pn:Int)<=1048576:=by omega
 have OW:Hid (OwnI ((w.alloc (oQ4 x.pa x.pn x.pc x.sa x.sn x.sc x.wa x.wn x.wc x.ha x.hn x.hc)).alloc (.cells #[] 3)) (w.heap.size+1) (.slice (some ⟨w.heap.size+1,0,none⟩) 0 0) []):=qcx (w.alloc (oQ4 x.pa x.pn x.pc x.sa x.sn x.sc x.wa x.wn x.wc x.ha x.hn x.hc)) (by simp);have BW:Hid (Below w.heap.size w ((w.alloc (oQ4 x.pa x.pn x.pc x.sa x.sn x.sc x.wa x.wn x.wc x.ha x.hn x.hc)).alloc (.cells #[] 3))):=(zQ _ _).trans ((zQ _ _).mono (by simp))
 go_enter Tryz.func139,Tryz.ntmps139
 go_wp2_with fail
 refine (l1In_any _ _ _ _).mono ?_;rintro e w1 ⟨rfl,rfl⟩;rw [t1];go_wp2;go_ret;exact ⟨_,rfl,OW.out.mono (Nat.le_succ _),BW.out⟩
theorem qm5 (x:SysIn) (p:Nat) (w:World) (hG:SysG w x) (hL:x.Len) (hO:x.y.Ok) (hp:p<x.pn):
  Calls Tryz.prog 139 #[x.v,.int .i64 p] w fun e w'=>∃ u,e=.returned u/\OwnI w' w.heap.size u (rdX x p)/\Below w.heap.size w w':=by
 have HG:Hid (SysG w x):=hG;have HL:Hid x.Len:=hL;have HO:Hid x.y.Ok:=hO;obtain ⟨⟨h1,h4⟩,hs,hh,hw⟩:=hO.cn;have hps:p<x.sn:=by have:x.sn=x.pn:=hs;omega
 have h4x:x.pn<=4:=h4;have hp':(p:Int)<(x.pn:Int):=by omega
 have hps':(p:Int)<(x.sn:Int):=by omega
 have h4':(x.pn:Int)<=4:=by omega
 have tA:inB (p:Int) 0 ((x.pn:Int) - 1)=true:=by simp only [inB,decide_eq_true_eq];omega
 have OW:Hid (OwnI ((w.alloc (oQ4 x.pa x.pn x.pc x.sa x.sn x.sc x.wa x.wn x.wc x.ha x.hn x.hc)).alloc (.cells #[] 3)) (w.heap.size+1) (.slice (some ⟨w.heap.size+1,0,none⟩) 0 0) []):=qcx (w.alloc (oQ4 x.pa x.pn x.pc x.sa x.sn x.sc x.wa x.wn x.wc x.ha x.hn x.hc)) (by simp);have BW:Hid (Below w.heap.size w ((w.alloc (oQ4 x.pa x.pn x.pc x.sa x.sn x.sc x.wa x.wn x.wc x.ha x.hn x.hc)).alloc (.cells #[] 3))):=(zQ _ _).trans ((zQ _ _).mono (by simp));have NB:Hid (BoxC ((w.alloc (oQ4 x.pa x.pn x.pc x.sa x.sn x.sc x.wa x.wn x.wc x.ha x.hn x.hc)).alloc (.cells #[] 3)) w.heap.size (.slice x.pa x.pn x.pc) (.slice x.sa x.sn x.sc) (.slice x.wa x.wn x.wc) (.slice x.ha x.hn x.hc)):=(BoxC.new w _ _ _ _ _).below (zQ _ _);have l0:w.heap.size<((w.alloc (oQ4 x.pa x.pn x.pc x.sa x.sn x.sc x.wa x.wn x.wc x.ha x.hn x.hc)).alloc (.cells #[] 3)).heap.size:=by simp;omega
 clear hG hL hO hs hh hw h1 h4
 go_enter Tryz.func139,Tryz.ntmps139
 go_wp2_with fail
 refine (l1In_any _ _ _ _).mono ?_;rintro e w1 ⟨rfl,rfl⟩;rw [tA];generalize (w.alloc (oQ4 x.pa x.pn x.pc x.sa x.sn x.sc x.wa x.wn x.wc x.ha x.hn x.hc)).alloc (.cells #[] 3)=W2 at *;obtain ⟨bp,op,ep,cp⟩:=(HG.out.below BW.out).p.at hp;obtain ⟨b',eb',hbl,hI⟩:=(HG.out.below BW.out).pi p hp;obtain ⟨bs,os,es,s0,s1,s2,s3⟩:=(HG.out.below BW.out).s.at hps;have hsl:=(HG.out.below BW.out).s.lst p hps;obtain ⟨b0,b1,b2,b3⟩:=NB.out;rw [eb'] at cp;rw [ep] at b0;rw [es] at b1;have lp2:bp<W2.heap.size:=zJ W2 _ cp;have ls2:bs<W2.heap.size:=zJ W2 _ s0;have HI:Hid (qaq W2 b' 0 (x.pL p) (x.pH p)/\b'<W2.heap.size):=⟨hI,hbl⟩
 have SL:Hid (Sl W2 (x.sQ p).ra (x.sQ p).rs/\Sl W2 (x.sQ p).oa (x.sQ p).os):=hsl;have EP:Hid (x.pa=some ⟨bp,op,none⟩/\x.sa=some ⟨bs,os,none⟩):=⟨ep,es⟩
 clear hI hsl tA eb' hbl ep es;by_cases hc:(x.sQ p).c=0
 case neg=>
  have HV:Hid (rdX x p=[]):=qot fun j _=>by
   rw [qwq,cmS,if_pos (by exact hc)];decide
  have t0:((x.sQ p).c == 0)=false:=by simpa using hc
  go_wp2;go_ret;rw [HV.out];exact ⟨_,rfl,OW.out.mono (Nat.le_succ _),BW.out⟩
 have HR:Hid (qbu (x.pH p) (x.pL p) (x.sQ p).p (x.sQ p).rs (x.sQ p).os 0=true):=HO.out.right hp hc;rw [hc] at s3;obtain ⟨hpk,hst,-⟩:=qbc HR.out;obtain ⟨⟨q0,q1,q2,q3,ers,-⟩,⟨k,ek,hkl⟩,-⟩:=qb1 hst;have h4r:(x.sQ p).rs.length=4:=by rw [ers];rfl
 have HX:Hid (x.pL p<=maxLen/\(x.sQ p).rs.length=4/\k<x.pL p/\qab (x.pH p) (x.pL p) 4=true):=⟨by have:=(qj8 hpk).2;unfold maxLen;omega,h4r,hkl,hpk⟩
 have HN3:Hid (x.nk p=evK (x.pH p k).o/\x.nq p=evP (x.pH p k).o (x.pH p k).n/\x.nv p=evW (x.pH p k).o (x.pH p k).a (x.sQ p).rs):=by
  have ek':(x.sQ p).p.toNat=k:=by omega
  refine ⟨?_,?_,?_⟩
  ·show nxK _ _ _ _ _ _=_
   rw [hc,nxK,if_pos HR.out,ek']
  ·show nxP _ _ _ _ _ _=_
   rw [hc,nxP,if_pos HR.out,ek']
  ·show nxW _ _ _ _ _ _=_
   rw [hc,nxW,if_pos HR.out,ek']
 rw [ek] at s0;clear hpk hst ers h4r hkl q0 q1 q2 q3 HR ek hc;go_wp2_with fail
 go_cut [7] from 31 to 41 (fun s wx=>∃ N:Nat,s=.pointer (some ⟨N,0,none⟩)/\Hid (Below W2.heap.size W2 wx/\W2.heap.size<=N/\EvK wx N (x.nk p) (x.nq p) (x.nv p)))
 case first=>
  refine qaj (fun w'=>w'.cell? ⟨w.heap.size,0,none⟩=some (.slice (some ⟨bp,op,none⟩) x.pn x.pc)/\w'.cell? ⟨w.heap.size,1,none⟩=some (.slice (some ⟨bs,os,none⟩) x.sn x.sc)/\w'.cell? ⟨bp,op+p,none⟩=some (.slice (some ⟨b',0,none⟩) (x.pL p) (x.pC p))/\w'.cell? ⟨bs,os+p*4,none⟩=some (.int .i64 (k:Int))/\w'.cell? ⟨bs,os+p*4+1,none⟩=some (.slice (x.sQ p).ra (x.sQ p).rs.length (x.sQ p).rc)/\w'.cell? ⟨bs,os+p*4+2,none⟩=some (.slice (x.sQ p).oa (x.sQ p).os.length (x.sQ p).oc)/\w'.cell? ⟨bs,os+p*4+3,none⟩=some (.int .i64 0)) (fun i=>i == 12) (by kernel_rfl) ?_;have hHeld:=And.intro b0 (And.intro b1 (And.intro cp (And.intro s0 (And.intro s1 (And.intro s2 s3)))));refine qax [0,1,2,3,4,5,6,7,8,9] ?_;iterate 10 (refine qa8 rfl hHeld ?_)
  refine qao ?_;refine qd2 10 11 rfl rfl (by kernel_rfl) (fun K hK=>?_) (fun K hK=>?_)
  ·refine qae rfl 113 _ _ rfl #[.slice (some ⟨b',0,none⟩) (x.pL p) (x.pC p),stV k (x.sQ p).ra (x.sQ p).rs.length (x.sQ p).rc (x.sQ p).oa (x.sQ p).os.length (x.sQ p).oc 0] (by simp [Act.eval]) (yB Tryz.func113 (by kernel_rfl) rfl) (qbi b' 0 (x.pL p) (x.pC p) k (x.pH p) 0 (x.sQ p).ra (x.sQ p).oa (x.sQ p).rc (x.sQ p).os.length (x.sQ p).oc (x.sQ p).rs (W2.drew) HX.1 (zL HI.2 ((Below.refl W2.heap.size W2).drew).size) (HI.1.below ((Below.refl W2.heap.size W2).drew) HI.2) (SL.1.below ((Below.refl W2.heap.size W2).drew)) HX.2.1 HX.2.2.1 HX.2.2.2) ?_
   rintro e w5 ⟨he,d5⟩;rw [<- HN3.1,<- HN3.2.1,<- HN3.2.2] at he;refine ⟨_,he,?_⟩;have q5:Below W2.heap.size W2 w5:=qak ((Below.refl W2.heap.size W2).drew) d5 (by simp);have hc5:=(qag q5).1;have hHeld5:=And.intro ((hc5 _ _ l0).trans b0) (And.intro ((hc5 _ _ l0).trans b1) (And.intro ((hc5 _ _ lp2).trans cp) (And.intro ((hc5 _ _ ls2).trans s0) (And.intro ((hc5 _ _ ls2).trans s1) (And.intro ((hc5 _ _ ls2).trans s2) ((hc5 _ _ ls2).trans s3))))));refine hK.out _ _ (fun _=>hHeld5) ?_;clear hK K
   (try simp only [Act.put,zD,zE,zF])
   refine qaa 11 rfl (by kernel_rfl) (fun K hK=>?_);go_simp;have ba:=zQ w5 (oQ0 0 0 0);have z5:=q5.size;have hca:=(qag ba).1;obtain ⟨e0,e1,e2,e3,e4,e5,e6⟩:=hHeld5;refine hK.out _ _ (fun _=>⟨(hca _ _ (by omega)).trans e0,(hca _ _ (by omega)).trans e1,(hca _ _ (by omega)).trans e2,(hca _ _ (by omega)).trans e3,(hca _ _ (by omega)).trans e4,(hca _ _ (by omega)).trans e5,(hca _ _ (by omega)).trans e6⟩) ?_;clear hca;clear hK K
   (try simp only [Act.put,zD,zE,zF])
   refine qaa 12 rfl (by kernel_rfl) (fun K hK=>?_);go_simp;refine hK.out _ _ (fun h=>?_) ?_
   ·exact absurd h (by decide)
   clear hK K
   (try simp only [Act.put])
   refine qar (by kernel_rfl) ?_ _;go_wp2_with fail
   go_meet
   case rel=>
    exact ⟨w5.heap.size,by with_reducible rfl,q5.trans ((zQ _ _).mono q5.size),q5.size,EvK.new _ _ _ _ _⟩
  ·go_simp
   have ba:Below W2.heap.size W2 (W2.drew.alloc (oQ0 0 0 0)):=(Below.refl W2.heap.size W2).drew.trans (zQ W2.drew (oQ0 0 0 0));have hca:=(qag ba).1;refine hK.out _ _ (fun _=>⟨(hca _ _ l0).trans b0,(hca _ _ l0).trans b1,(hca _ _ lp2).trans cp,(hca _ _ ls2).trans s0,(hca _ _ ls2).trans s1,(hca _ _ ls2).trans s2,(hca _ _ ls2).trans s3⟩) ?_;clear hK K hca
   (try simp only [Act.put,zD,zE,zF])
   refine qaa 10 rfl (by kernel_rfl) (fun K hK=>?_);refine qae rfl 113 _ _ rfl #[.slice (some ⟨b',0,none⟩) (x.pL p) (x.pC p),stV k (x.sQ p).ra (x.sQ p).rs.length (x.sQ p).rc (x.sQ p).oa (x.sQ p).os.length (x.sQ p).oc 0] (by simp [Act.eval]) (yB Tryz.func113 (by kernel_rfl) rfl) (qbi b' 0 (x.pL p) (x.pC p) k (x.pH p) 0 (x.sQ p).ra (x.sQ p).oa (x.sQ p).rc (x.sQ p).os.length (x.sQ p).oc (x.sQ p).rs (W2.drew.alloc (oQ0 0 0 0)) HX.1 (zL HI.2 (ba).size) (HI.1.below (ba) HI.2) (SL.1.below (ba)) HX.2.1 HX.2.2.1 HX.2.2.2) ?_;rintro e w5 ⟨he,d5⟩;rw [<- HN3.1,<- HN3.2.1,<- HN3.2.2] at he;refine ⟨_,he,?_⟩;have q5:Below W2.heap.size W2 w5:=qak (ba) d5 (by simp);have hc5:=(qag q5).1;have hHeld5:=And.intro ((hc5 _ _ l0).trans b0) (And.intro ((hc5 _ _ l0).trans b1) (And.intro ((hc5 _ _ lp2).trans cp) (And.intro ((hc5 _ _ ls2).trans s0) (And.intro ((hc5 _ _ ls2).trans s1) (And.intro ((hc5 _ _ ls2).trans s2) ((hc5 _ _ ls2).trans s3))))));refine hK.out _ _ (fun _=>hHeld5) ?_;clear hK K
   (try simp only [Act.put,zD,zE,zF])
   have g:EvK w5 W2.heap.size 0 0 0:=(EvK.new W2.drew 0 0 0 61).below d5;obtain ⟨g0,g1,g2,gf⟩:=id g;refine qaa 12 rfl (by kernel_rfl) (fun K hK=>?_);go_simp;refine hK.out _ _ (fun h=>?_) ?_
   ·exact absurd h (by decide)
   clear hK K
   (try simp only [Act.put])
   refine qar (by kernel_rfl) ?_ _;go_wp2_with fail
   go_meet
   case rel=>
    exact ⟨W2.heap.size,by with_reducible rfl,((q5.setCell (Nat.le_refl _) _).setCell (Nat.le_refl _) _).setCell (Nat.le_refl _) _,Nat.le_refl _,EvK.put g _ _ _⟩
 case rest=>
  obtain ⟨N,rfl,HRr⟩:=hcut;have hbe:=HRr.1;have EV:EvK wc N (x.nk p) (x.nq p) (x.nv p):=HRr.2.2;have BC:Hid (Below w.heap.size w wc):=BW.out.trans (hbe.mono BW.out.size);have NC:Hid (BoxC wc w.heap.size (.slice x.pa x.pn x.pc) (.slice x.sa x.sn x.sc) (.slice x.wa x.wn x.wc) (.slice x.ha x.hn x.hc)):=NB.out.below hbe;have OC:Hid (OwnI wc (w.heap.size+1) (.slice (some ⟨w.heap.size+1,0,none⟩) 0 0) []):=OW.out.below hbe;obtain ⟨k0,k1,k2,kf⟩:=EV;have HA:Hid (x.nq p=9->x.nk p=3):=fun h=>HO.out.any hp h;have HD:Hid (rdX x p=rdL (fun j=>cmS x.y p j) (if x.nq p=9 then x.pn else 1)):=rfl;generalize x.nk p=K at k0 HA;generalize x.nq p=Q at k1 HA HD;clear hbe HRr cp s0 s1 s2 s3 b0 b1 b2 b3 SL HI NB BW OW HX HN3 l0 lp2 ls2 EP
  rcases zK (Q == 9) with t9 | t9
  ·have hQ:Q=9:=by simpa using t9
   have t3:(K == 3)=true:=by
    have:=HA.out hQ;simpa using this
   have HE:Hid (rdX x p=rdL (fun j=>cmS x.y p j) x.pn):=by
    show rdX x p=_;rw [HD.out,if_pos hQ]
   clear HA HD hQ;go_wp2_with fail
   go_loopw [5,9] (fun o i wr=>∃ j:Nat,j<=x.pn/\i=.int .i64 j/\Hid (OwnI wr (w.heap.size+1) o (rdL (fun j=>cmS x.y p j) j)/\Below w.heap.size w wr/\BoxC wr w.heap.size (.slice x.pa x.pn x.pc) (.slice x.sa x.sn x.sc) (.slice x.wa x.wn x.wc) (.slice x.ha x.hn x.hc))) (fun _ i _=>x.pn - (intOf i).toNat)
   case atStart=>exact ⟨0,Nat.zero_le _,rfl,OC.out,BC.out,NC.out⟩
   case round=>
    obtain ⟨j,hj,rfl,HZ⟩:=hrel;clear k0 k1 k2 kf OC BC NC;have hj4:(j:Int)<=4:=by omega
    by_cases hlt:j<x.pn
    ·have hlt':(j:Int)<(x.pn:Int):=by omega
     obtain ⟨b0,b1,b2,b3⟩:=HZ.2.2;go_wp2_with fail
     refine (qdo x wr (HG.out.below HZ.2.1) HL.out).mono ?_;rintro e w1 ⟨v1,rfl,o1,q1⟩;obtain ⟨pa1,pc1,sa1,sc1,wa1,wc1,ha1,hc1,rfl⟩:=o1.formJ;have O1:Hid (qac true w1 wr.heap.size x.y (sysV pa1 x.y.pn pc1 sa1 x.y.sn sc1 wa1 x.y.wn wc1 ha1 x.y.hn hc1)):=o1;have Q1:Hid (Below wr.heap.size wr w1):=q1;clear o1 q1 b0 b1 b2 b3;go_wp2_with fail
     refine (qe6 x.y p j w1 wr.heap.size _ O1.out hp HO.out).mono ?_;rintro e w2 ⟨rfl,q2⟩;have B2:Below wr.heap.size wr w2:=Q1.out.trans q2;have ba:=zQ w2 (oQ4 pa1 x.y.pn pc1 sa1 x.y.sn sc1 wa1 x.y.wn wc1 ha1 x.y.hn hc1);have B3:Below wr.heap.size wr (w2.alloc (oQ4 pa1 x.y.pn pc1 sa1 x.y.sn sc1 wa1 x.y.wn wc1 ha1 x.y.hn hc1)):=B2.trans (ba.mono B2.size);have F3:Hid (OwnI (w2.alloc (oQ4 pa1 x.y.pn pc1 sa1 x.y.sn sc1 wa1 x.y.wn wc1 ha1 x.y.hn hc1)) (w.heap.size+1) u5 (rdL (fun j=>cmS x.y p j) j)/\Below w.heap.size w (w2.alloc (oQ4 pa1 x.y.pn pc1 sa1 x.y.sn sc1 wa1 x.y.wn wc1 ha1 x.y.hn hc1))/\BoxC (w2.alloc (oQ4 pa1 x.y.pn pc1 sa1 x.y.sn sc1 wa1 x.y.wn wc1 ha1 x.y.hn hc1)) w.heap.size (.slice x.pa x.pn x.pc) (.slice x.sa x.sn x.sc) (.slice x.wa x.wn x.wc) (.slice x.ha x.hn x.hc)):=⟨HZ.1.below B3,HZ.2.1.trans (B3.mono HZ.2.1.size),HZ.2.2.below B3⟩
     have HLn:Hid ((rdL (fun j=>cmS x.y p j) j).length<=1048576):=zP (qos _ j) (by omega);clear q2 O1 Q1 B2 B3 ba HZ;by_cases hcd:cmS x.y p j=0
     ·have E0:Hid (rdL (fun j=>cmS x.y p j) (j+1)=rdL (fun j=>cmS x.y p j) j ++ [(j:Int)]):=qnf hcd
      rw [hcd];clear hcd;go_wp2_with (at_builtin;refine qcy (w2.alloc (oQ4 pa1 x.y.pn pc1 sa1 x.y.sn sc1 wa1 x.y.wn wc1 ha1 x.y.hn hc1)) (by simp) rfl _ _ rfl (w.heap.size+1) u5 (rdL (fun j=>cmS x.y p j) j) rfl F3.1 j rfl HLn.out F3.2.2.ltM ?_;intro v5 w5 o5 b5;have F5:Hid (OwnI w5 (w.heap.size+1) v5 (rdL (fun j=>cmS x.y p j) j ++ [(j:Int)])/\Below w.heap.size w w5/\BoxC w5 w.heap.size (.slice x.pa x.pn x.pc) (.slice x.sa x.sn x.sc) (.slice x.wa x.wn x.wc) (.slice x.ha x.hn x.hc)):=⟨o5,F3.2.1.trans (b5.mono (Nat.le_succ _)),qmm b5 F3.2.2⟩;clear o5 b5)
      go_roundw
      case rel=>exact ⟨j+1,by omega,by go_num,by rw [E0.out];exact F5.1,F5.2.1,F5.2.2⟩
      case measure=>simp [intOf];omega
     ·have E0:Hid (rdL (fun j=>cmS x.y p j) (j+1)=rdL (fun j=>cmS x.y p j) j):=qj9 hcd
      have t0:(cmS x.y p j == 0)=false:=by simpa using hcd
      generalize cmS x.y p (j:Int)=cd at t0;go_wp2;go_roundw
      case rel=>exact ⟨j+1,by omega,by go_num,by rw [E0.out];exact F3.1,F3.2.1,F3.2.2⟩
      case measure=>simp [intOf];omega
    ·have hjm:j=x.pn:=by omega
     subst hjm;go_wp2;go_ret;exact ⟨_,rfl,by rw [HE.out];exact HZ.1.mono (Nat.le_succ _),HZ.2.1⟩
  ·have hQ:¬ Q=9:=by simpa using t9
   have HE:Hid (rdX x p=rdL (fun j=>cmS x.y p j) 1):=by
    show rdX x p=_;rw [HD.out,if_neg hQ]
   clear HA HD hQ
   rcases zK (K == 3) with t3 | t3
   ·go_wp2_with fail
    go_loopw [5,9] (fun o i wr=>∃ j:Nat,j<=(1:Nat)/\i=.int .i64 j/\Hid (OwnI wr (w.heap.size+1) o (rdL (fun j=>cmS x.y p j) j)/\Below w.heap.size w wr/\BoxC wr w.heap.size (.slice x.pa x.pn x.pc) (.slice x.sa x.sn x.sc) (.slice x.wa x.wn x.wc) (.slice x.ha x.hn x.hc))) (fun _ i _=>(1:Nat) - (intOf i).toNat)
    case atStart=>exact ⟨0,Nat.zero_le _,rfl,OC.out,BC.out,NC.out⟩
    case round=>
     obtain ⟨j,hj,rfl,HZ⟩:=hrel;clear k0 k1 k2 kf OC BC NC;have hj4:(j:Int)<=4:=by omega
     by_cases hlt:j<(1:Nat)
     ·have hlt':(j:Int)<((1:Nat):Int):=by omega
      obtain ⟨b0,b1,b2,b3⟩:=HZ.2.2;go_wp2_with fail
      refine (qdo x wr (HG.out.below HZ.2.1) HL.out).mono ?_;rintro e w1 ⟨v1,rfl,o1,q1⟩;obtain ⟨pa1,pc1,sa1,sc1,wa1,wc1,ha1,hc1,rfl⟩:=o1.formJ;have O1:Hid (qac true w1 wr.heap.size x.y (sysV pa1 x.y.pn pc1 sa1 x.y.sn sc1 wa1 x.y.wn wc1 ha1 x.y.hn hc1)):=o1;have Q1:Hid (Below wr.heap.size wr w1):=q1;clear o1 q1 b0 b1 b2 b3;go_wp2_with fail
      refine (qe6 x.y p j w1 wr.heap.size _ O1.out hp HO.out).mono ?_;rintro e w2 ⟨rfl,q2⟩;have B2:Below wr.heap.size wr w2:=Q1.out.trans q2;have ba:=zQ w2 (oQ4 pa1 x.y.pn pc1 sa1 x.y.sn sc1 wa1 x.y.wn wc1 ha1 x.y.hn hc1);have B3:Below wr.heap.size wr (w2.alloc (oQ4 pa1 x.y.pn pc1 sa1 x.y.sn sc1 wa1 x.y.wn wc1 ha1 x.y.hn hc1)):=B2.trans (ba.mono B2.size);have F3:Hid (OwnI (w2.alloc (oQ4 pa1 x.y.pn pc1 sa1 x.y.sn sc1 wa1 x.y.wn wc1 ha1 x.y.hn hc1)) (w.heap.size+1) u5 (rdL (fun j=>cmS x.y p j) j)/\Below w.heap.size w (w2.alloc (oQ4 pa1 x.y.pn pc1 sa1 x.y.sn sc1 wa1 x.y.wn wc1 ha1 x.y.hn hc1))/\BoxC (w2.alloc (oQ4 pa1 x.y.pn pc1 sa1 x.y.sn sc1 wa1 x.y.wn wc1 ha1 x.y.hn hc1)) w.heap.size (.slice x.pa x.pn x.pc) (.slice x.sa x.sn x.sc) (.slice x.wa x.wn x.wc) (.slice x.ha x.hn x.hc)):=⟨HZ.1.below B3,HZ.2.1.trans (B3.mono HZ.2.1.size),HZ.2.2.below B3⟩
      have HLn:Hid ((rdL (fun j=>cmS x.y p j) j).length<=1048576):=zP (qos _ j) (by omega);clear q2 O1 Q1 B2 B3 ba HZ;by_cases hcd:cmS x.y p j=0
      ·have E0:Hid (rdL (fun j=>cmS x.y p j) (j+1)=rdL (fun j=>cmS x.y p j) j ++ [(j:Int)]):=qnf hcd
       rw [hcd];clear hcd;go_wp2_with (at_builtin;refine qcy (w2.alloc (oQ4 pa1 x.y.pn pc1 sa1 x.y.sn sc1 wa1 x.y.wn wc1 ha1 x.y.hn hc1)) (by simp) rfl _ _ rfl (w.heap.size+1) u5 (rdL (fun j=>cmS x.y p j) j) rfl F3.1 j rfl HLn.out F3.2.2.ltM ?_;intro v5 w5 o5 b5;have F5:Hid (OwnI w5 (w.heap.size+1) v5 (rdL (fun j=>cmS x.y p j) j ++ [(j:Int)])/\Below w.heap.size w w5/\BoxC w5 w.heap.size (.slice x.pa x.pn x.pc) (.slice x.sa x.sn x.sc) (.slice x.wa x.wn x.wc) (.slice x.ha x.hn x.hc)):=⟨o5,F3.2.1.trans (b5.mono (Nat.le_succ _)),qmm b5 F3.2.2⟩;clear o5 b5)
       go_roundw
       case rel=>exact ⟨j+1,by omega,by go_num,by rw [E0.out];exact F5.1,F5.2.1,F5.2.2⟩
       case measure=>simp [intOf];omega
      ·have E0:Hid (rdL (fun j=>cmS x.y p j) (j+1)=rdL (fun j=>cmS x.y p j) j):=qj9 hcd
       have t0:(cmS x.y p j == 0)=false:=by simpa using hcd
       generalize cmS x.y p (j:Int)=cd at t0;go_wp2;go_roundw
       case rel=>exact ⟨j+1,by omega,by go_num,by rw [E0.out];exact F3.1,F3.2.1,F3.2.2⟩
       case measure=>simp [intOf];omega
     ·have hjm:j=(1:Nat):=by omega
      subst hjm;go_wp2;go_ret;exact ⟨_,rfl,by rw [HE.out];exact HZ.1.mono (Nat.le_succ _),HZ.2.1⟩
   ·go_wp2_with fail
    go_loopw [5,9] (fun o i wr=>∃ j:Nat,j<=(1:Nat)/\i=.int .i64 j/\Hid (OwnI wr (w.heap.size+1) o (rdL (fun j=>cmS x.y p j) j)/\Below w.heap.size w wr/\BoxC wr w.heap.size (.slice x.pa x.pn x.pc) (.slice x.sa x.sn x.sc) (.slice x.wa x.wn x.wc) (.slice x.ha x.hn x.hc))) (fun _ i _=>(1:Nat) - (intOf i).toNat)
    case atStart=>exact ⟨0,Nat.zero_le _,rfl,OC.out,BC.out,NC.out⟩
    case round=>
     obtain ⟨j,hj,rfl,HZ⟩:=hrel;clear k0 k1 k2 kf OC BC NC;have hj4:(j:Int)<=4:=by omega
     by_cases hlt:j<(1:Nat)
     ·have hlt':(j:Int)<((1:Nat):Int):=by omega
      obtain ⟨b0,b1,b2,b3⟩:=HZ.2.2;go_wp2_with fail
      refine (qdo x wr (HG.out.below HZ.2.1) HL.out).mono ?_;rintro e w1 ⟨v1,rfl,o1,q1⟩;obtain ⟨pa1,pc1,sa1,sc1,wa1,wc1,ha1,hc1,rfl⟩:=o1.formJ;have O1:Hid (qac true w1 wr.heap.size x.y (sysV pa1 x.y.pn pc1 sa1 x.y.sn sc1 wa1 x.y.wn wc1 ha1 x.y.hn hc1)):=o1;have Q1:Hid (Below wr.heap.size wr w1):=q1;clear o1 q1 b0 b1 b2 b3;go_wp2_with fail
      refine (qe6 x.y p j w1 wr.heap.size _ O1.out hp HO.out).mono ?_;rintro e w2 ⟨rfl,q2⟩;have B2:Below wr.heap.size wr w2:=Q1.out.trans q2;have ba:=zQ w2 (oQ4 pa1 x.y.pn pc1 sa1 x.y.sn sc1 wa1 x.y.wn wc1 ha1 x.y.hn hc1);have B3:Below wr.heap.size wr (w2.alloc (oQ4 pa1 x.y.pn pc1 sa1 x.y.sn sc1 wa1 x.y.wn wc1 ha1 x.y.hn hc1)):=B2.trans (ba.mono B2.size);have F3:Hid (OwnI (w2.alloc (oQ4 pa1 x.y.pn pc1 sa1 x.y.sn sc1 wa1 x.y.wn wc1 ha1 x.y.hn hc1)) (w.heap.size+1) u5 (rdL (fun j=>cmS x.y p j) j)/\Below w.heap.size w (w2.alloc (oQ4 pa1 x.y.pn pc1 sa1 x.y.sn sc1 wa1 x.y.wn wc1 ha1 x.y.hn hc1))/\BoxC (w2.alloc (oQ4 pa1 x.y.pn pc1 sa1 x.y.sn sc1 wa1 x.y.wn wc1 ha1 x.y.hn hc1)) w.heap.size (.slice x.pa x.pn x.pc) (.slice x.sa x.sn x.sc) (.slice x.wa x.wn x.wc) (.slice x.ha x.hn x.hc)):=⟨HZ.1.below B3,HZ.2.1.trans (B3.mono HZ.2.1.size),HZ.2.2.below B3⟩
      have HLn:Hid ((rdL (fun j=>cmS x.y p j) j).length<=1048576):=zP (qos _ j) (by omega);clear q2 O1 Q1 B2 B3 ba HZ;by_cases hcd:cmS x.y p j=0
      ·have E0:Hid (rdL (fun j=>cmS x.y p j) (j+1)=rdL (fun j=>cmS x.y p j) j ++ [(j:Int)]):=qnf hcd
       rw [hcd];clear hcd;go_wp2_with (at_builtin;refine qcy (w2.alloc (oQ4 pa1 x.y.pn pc1 sa1 x.y.sn sc1 wa1 x.y.wn wc1 ha1 x.y.hn hc1)) (by simp) rfl _ _ rfl (w.heap.size+1) u5 (rdL (fun j=>cmS x.y p j) j) rfl F3.1 j rfl HLn.out F3.2.2.ltM ?_;intro v5 w5 o5 b5;have F5:Hid (OwnI w5 (w.heap.size+1) v5 (rdL (fun j=>cmS x.y p j) j ++ [(j:Int)])/\Below w.heap.size w w5/\BoxC w5 w.heap.size (.slice x.pa x.pn x.pc) (.slice x.sa x.sn x.sc) (.slice x.wa x.wn x.wc) (.slice x.ha x.hn x.hc)):=⟨o5,F3.2.1.trans (b5.mono (Nat.le_succ _)),qmm b5 F3.2.2⟩;clear o5 b5)
       go_roundw
       case rel=>exact ⟨j+1,by omega,by go_num,by rw [E0.out];exact F5.1,F5.2.1,F5.2.2⟩
       case measure=>simp [intOf];omega
      ·have E0:Hid (rdL (fun j=>cmS x.y p j) (j+1)=rdL (fun j=>cmS x.y p j) j):=qj9 hcd
       have t0:(cmS x.y p j == 0)=false:=by simpa using hcd
       generalize cmS x.y p (j:Int)=cd at t0;go_wp2;go_roundw
       case rel=>exact ⟨j+1,by omega,by go_num,by rw [E0.out];exact F3.1,F3.2.1,F3.2.2⟩
       case measure=>simp [intOf];omega
     ·have hjm:j=(1:Nat):=by omega
      subst hjm;go_wp2;go_ret;exact ⟨_,rfl,by rw [HE.out];exact HZ.1.mono (Nat.le_succ _),HZ.2.1⟩
def chS (y:Sy) (p:Nat):Nat:=if y.nq p=9 then y.pn else 1
def rdS (y:Sy) (p:Nat):List Int:=rdL (fun j=>cmS y p j) (chS y p)
theorem qwv (x:SysIn) (p:Nat):rdX x p=rdS x.y p:=rfl
open Classical in
noncomputable def rdQ (y:Sy) (p:Int):List Int:=if y.okB=true/\belB p y.pn=true then rdS y p.toNat else []
theorem qkh (x:SysIn) (p:Int) (w:World) (hG:SysG w x) (hL:x.Len) (hcap:∀ i,i<x.hn->x.hL i<=x.hC i):
  Calls Tryz.prog 131 #[x.v,.int .i64 p] w fun e w'=>∃ u,e=.returned u/\OwnI w' w.heap.size u (rdQ x.y p)/\Below w.heap.size w w':=by
 have HG:Hid (SysG w x):=hG;have HL:Hid x.Len:=hL;have HS:Hid (∀ wx,Below w.heap.size w wx->Calls Tryz.prog 15 #[x.v] wx fun e w'=>e=.returned (.bool x.y.okB)/\Below wx.heap.size wx w'):=fun wx hb=>qcf x wx (HG.out.below hb) hL hcap;have BW:Hid (Below w.heap.size w (w.alloc (oQ4 x.pa x.pn x.pc x.sa x.sn x.sc x.wa x.wn x.wc x.ha x.hn x.hc))):=zQ _ _;have NB:Hid (BoxC (w.alloc (oQ4 x.pa x.pn x.pc x.sa x.sn x.sc x.wa x.wn x.wc x.ha x.hn x.hc)) w.heap.size (.slice x.pa x.pn x.pc) (.slice x.sa x.sn x.sc) (.slice x.wa x.wn x.wc) (.slice x.ha x.hn x.hc)):=BoxC.new w _ _ _ _ _;clear hG hL hcap
 go_enter Tryz.func131,Tryz.ntmps131
 go_wp2_with fail
 generalize w.alloc (oQ4 x.pa x.pn x.pc x.sa x.sn x.sc x.wa x.wn x.wc x.ha x.hn x.hc)=W2 at *;refine (HS.out W2 BW.out).mono ?_;rintro e w1 ⟨rfl,q1⟩;have B1:Hid (Below w.heap.size w w1/\BoxC w1 w.heap.size (.slice x.pa x.pn x.pc) (.slice x.sa x.sn x.sc) (.slice x.wa x.wn x.wc) (.slice x.ha x.hn x.hc)):=⟨BW.out.trans (q1.mono BW.out.size),NB.out.below q1⟩
 clear q1 BW NB HS
 rcases zK x.y.okB with t | t
 case inr=>
  have HV:Hid (rdQ x.y p=[]):=by
   show rdQ x.y p=[];rw [rdQ,if_neg (by rw [t];simp)]
  have OE:Hid (OwnI (w1.alloc (.cells #[] 3)) w.heap.size (.slice (some ⟨w1.heap.size,0,none⟩) 0 0) []/\Below w.heap.size w (w1.alloc (.cells #[] 3))):=⟨(qbt w1).mono B1.1.size,B1.1.trans ((zQ _ _).mono B1.1.size)⟩
  rw [t];clear t;go_wp2;go_ret;rw [HV.out];exact ⟨_,rfl,OE.out⟩
 have HO:Hid x.y.Ok:=Sy.ok_of t
 have HC:Hid (Calls Tryz.prog 139 #[x.v,.int .i64 p] w1 fun e w'=>∃ u,e=.returned u/\OwnI w' w1.heap.size u (rdQ x.y p)/\Below w1.heap.size w1 w'):=by
  show Calls Tryz.prog 139 _ _ _;by_cases hb:belB p x.pn=true
  ·have hb':0<=p/\p<(x.pn:Int):=by simpa [belB] using hb
   obtain ⟨k,rfl⟩:∃ k:Nat,p=k:=⟨p.toNat,by omega⟩
   have e:rdQ x.y (k:Int)=rdX x k:=by
    rw [rdQ,if_pos ⟨t,hb⟩,qwv];rfl
   rw [e];exact qm5 x k w1 (HG.out.below B1.1) HL.out HO.out (by omega)
  ·have e:rdQ x.y p=[]:=by
    rw [rdQ,if_neg];exact fun h=>hb h.2
   rw [e]
   exact qm6 x p w1 HL.out.p.1 (by
    simp only [inB,decide_eq_false_iff_not];simp only [belB,decide_eq_true_eq] at hb
    omega)
 rw [t];clear t;obtain ⟨b0,b1,b2,b3⟩:=B1.2;go_wp2_with fail
 refine HC.out.mono ?_;rintro e w2 ⟨u2,rfl,o2,q2⟩;have F2:Hid (OwnI w2 w.heap.size u2 (rdQ x.y p)/\Below w.heap.size w w2):=⟨o2.mono B1.1.size,B1.1.trans (q2.mono B1.1.size)⟩
 clear o2 q2 HC;go_wp2;go_ret;exact ⟨_,rfl,F2.out⟩
structure DrM (w wr:World) (W0 len cap:Nat) (a0:Option Addr) (c:Nat) (v:Value) (k:Nat):Prop where
 ll:∃ u L H,LI true wr (fun b=>w.heap.size<=b) v k u L H/\∀ i,i<k->L i<=31
 cu:Cur wr W0 c a0 len cap
 gr:w.grownBy wr (some c)
 nn:v≠.slice none 0 0
theorem DrM.start {w wr:World} {W0 len cap c:Nat} {a0:Option Addr} (hc:Cur wr W0 c a0 len cap) (hg:w.grownBy wr (some c)):DrM w (wr.alloc (.cells #[] 54)) W0 len cap a0 c (.slice (some ⟨wr.heap.size,0,none⟩) 0 0) 0:=
 ⟨⟨fun _=>.slice none 0 0,fun _=>0,fun _ _=>⟨0,0,0,0,0⟩,LL.new _ _ _ _ _ hg.size _ _ _,fun i hi=>by omega⟩,hc.alloc _,hg.andThen (World.grownBy_alloc _ _ none) (fun j hj=>by cases hj),fun e=>by cases e⟩
theorem DrM.push {w wr w1 w2:World} {W0 len cap c k m:Nat} {a0:Option Addr} {v v' x:Value} {u:Nat->Value} {L:Nat->Nat} {H:Nat->Nat->I5} (hl:LI true wr (fun b=>w.heap.size<=b) v k u L H) (h31:∀ i,i<k->L i<=31) (g0:w.grownBy wr (some c)) (hc0:c<w.heap.size) (g1:wr.grownBy w1 (some c)) (hc1:Cur w1 W0 c a0 len cap) (hx:Lst w1 wr.heap.size x m) (hm:m<=31) (hne:x≠.slice none 0 0)
  (hv:w2.ownsRow 0 54 1 v' (k+1) ((List.range k).map u ++ [x])) (g2:w1.grownBy w2 v.ownBlock) (hv':∀ j,v'.ownBlock=some j->v.ownBlock=some j\/w1.heap.size<=j) (hn':v'≠.slice none 0 0):DrM w w2 W0 len cap a0 c v' (k+1):=by
 obtain ⟨G,hG⟩:=hx.known;have hvb:∀ j,v.ownBlock=some j->w.heap.size<=j:=hl.rb;have hsz:=g0.size;refine ⟨⟨_,fun j=>if j=k then m else L j,fun j=>if j=k then G else H j,(LL.ext (L':=fun j=>if j=k then m else L j) (c':=fun i=>fI (if i=k then G else H i) (if i=k then m else L i)) hl fun i hi=>?_).pushG g1.size (fun b hb hlt=>g1.block b hlt (by simp;omega)) ?_ (fun _=>hne) hv g2 hv' (fun b hb _=>hb) (fun b hb _=>by omega),fun i hi=>?_⟩,hc1.kept g2 (fun e=>?_) (fun j hj=>?_),(g0.trans g1).andThen g2 (fun j hj=>.inl ?_),hn'⟩
 ·simp only [if_neg (show ¬ i=k by omega),and_self]
 ·simp only [if_true]
  exact hG
 ·show (if i=k then m else L i)<=31
  by_cases e:i=k
  ·rw [if_pos e]
   exact hm
  ·rw [if_neg e]
   exact h31 i (by omega)
 ·have:=hvb c e.symm
  omega
 ·have:=hvb j hj
  have:=hc1.ge;omega
 ·have:=hvb j hj
  omega
theorem qku {ops:Array Oper} {rest:List Oper} {op:Oper} {act:Act} {Q:Exit->Act->World->Prop} {w wr:World} (w1:World) {W0 len cap c k m N:Nat} {a0:Option Addr} {v y:Value} (hN:N=w1.heap.size) (hgd:op.guard=none) (s x:Operand)
  (ho:op.op=.call { callee:=.builtin .append,args:=#[s,x],argTypes:=#[24,24] }) (hs:act.eval s=v) (hxv:act.eval x=.slice (some ⟨N,0,none⟩) 1 1)
  (DR:DrM w wr W0 len cap a0 c v k) (hW:c<w.heap.size) (hk:k<=5) (g1:wr.grownBy w1 (some c)) (hc1:Cur w1 W0 c a0 len cap) (hx:Lst w1 wr.heap.size y m) (hm:m<=31) (hne:y≠.slice none 0 0)
  (h:∀ v' w',DrM w w' W0 len cap a0 c v' (k+1)->wpList Tryz.prog ops Q rest (act.put op.dst v') w'):
  wpList Tryz.prog ops Q (op :: rest) act (w1.alloc (.cells #[y] 54)):=by
 obtain ⟨u,L,H,hl,h31⟩:=DR.ll
 have hone:∀ z ∈ (#[y]:Array Value).toList,z.oneCell'=true:=by
  intro z hz;simp at hz;rw [hz];obtain ⟨xs,ho,_⟩:=hx
  rcases ho.2 with ⟨e,_⟩ | ⟨g,cp,cur,e,_⟩
  ·exact absurd e hne
  ·rw [e]
   rfl
 refine qan qtb w1 hN hgd s x ho 0 v k ((List.range k).map u) hs (qat hl.row fun b hb=>g1.block b (hl.row.lt b hb).2 (by have:=hl.rb b hb;simp;omega)) #[y] hxv rfl hone (by omega) (Nat.zero_le _) ?_;intro v' w' o g hv' hn';exact h v' w' (DrM.push hl h31 DR.gr hW g1 hc1 hx hm hne o g hv' hn')
theorem DK.weak {w wr:World} {W0 c:Nat} {a0:Option Addr} {len cap B B' T T':Nat} {y:Sy} {v:Value} (h:DK w wr W0 c a0 len cap B T y v) (hB:B'<=B) (hc:c<B') (hT:T<=T'):DK w wr W0 c a0 len cap B' T' y v:=⟨h.cu,(h.sy.base hB).top hT,h.gr,hc⟩
theorem qtn (n:Nat) (L:Nat->Nat) (H:Nat->Nat->I5):(nwY (nwN n L H) L H).Good:=by
 unfold nwN;by_cases h:snB n L H=true
 ·rw [if_pos h]
  simp only [snB,Bool.and_eq_true] at h;exact .inl (Sy.ok_of h.2)
 ·rw [if_neg h]
  exact .inr ⟨rfl,rfl,rfl,rfl⟩
theorem NwR.form {w w':World} {n:Nat} {L:Nat->Nat} {H:Nat->Nat->I5} {e:Ending} (h:NwR w n L H e w'):∃ pa sa wa ha pc sc wc hc,∃ (Y:Sy) (b:Bool),e=.returned (.tuple #[sysV pa Y.pn pc sa Y.sn sc wa Y.wn wc ha Y.hn hc,.bool b])/\Y.Good/\SysT w' w.heap.size w'.heap.size Y (sysV pa Y.pn pc sa Y.sn sc wa Y.wn wc ha Y.hn hc)/\Below w.heap.size w w':=by
 obtain ⟨pa,pc,sa,sc,wa,wc,ha,hc,rfl,o,b⟩:=h;exact ⟨pa,sa,wa,ha,pc,sc,wc,hc,nwY (nwN n L H) L H,snB n L H,rfl,qtn n L H,o.sysT,b⟩
theorem qj0 (W0 c len cap:Nat) (a0:Option Addr) (w:World) (hc:Cur w W0 c a0 len cap):
  Calls Tryz.prog 117 #[.pointer (some ⟨c,0,none⟩)] w fun e w'=>∃ pa sa wa ha pc sc wc hc y,e=.returned (sysV pa y.pn pc sa y.sn sc wa y.wn wc ha y.hn hc)/\y.Good/\DK w w' W0 c a0 len cap w.heap.size w'.heap.size y (sysV pa y.pn pc sa y.sn sc wa y.wn wc ha y.hn hc):=by
 have hcl:c<w.heap.size:=hc.lt;have hcg:W0<=c:=hc.ge;have C0:Hid (Cur (w.alloc (zQ3)) W0 c a0 len cap/\w.grownBy (w.alloc (zQ3)) (some c)/\BoxC (w.alloc (zQ3)) w.heap.size (.slice none 0 0) (.slice none 0 0) (.slice none 0 0) (.slice none 0 0)/\(∀ j,(w.alloc (zQ3)).frozen? ⟨w.heap.size,j,none⟩=false)/\(w.alloc (zQ3)).heap.size=w.heap.size+1):=⟨hc.alloc _,World.grownBy_alloc _ _ _,BoxC.new w _ _ _ _ _,fun j=>yD _ _ _ _ rfl,by simp⟩
 clear hc
 go_enter Tryz.func117,Tryz.ntmps117
 go_wp2_with fail
 generalize w.alloc (zQ3)=W2 at *;refine (zY W0 c len cap a0 4 W2 C0.1 (by omega) (by omega)).mono ?_;rintro e w1 ⟨z,rfl,⟨z0,z1⟩,hc1,hg1⟩;have D1:Hid (DrM W2 (w1.alloc (.cells #[] 54)) W0 len cap a0 c (.slice (some ⟨w1.heap.size,0,none⟩) 0 0) 0):=DrM.start hc1 hg1;obtain ⟨n,hn,hn4⟩:∃ n:Nat,1+z=(n:Int)/\n<=4:=⟨(1+z).toNat,by omega,by omega⟩
 have hn4':(n:Int)<=4:=by omega
 clear hc1 hg1;go_wp2_with fail
 clear hn z0 z1;generalize w1.alloc (.cells #[] 54)=W3 at *
 go_loopw [4,5] (fun out i wr=>∃ k:Nat,k<=n/\i=.int .i64 k/\Hid (DrM W2 wr W0 len cap a0 c out k)) (fun _ i _=>n - (intOf i).toNat)
 case atStart=>exact ⟨0,Nat.zero_le _,rfl,D1.out⟩
 case round=>
  clear D1;obtain ⟨k,hk,rfl,HR⟩:=hrel;by_cases hlt:k<n
  ·have hlt':(k:Int)<(n:Int):=by omega
   go_wp2_with fail
   refine (qe0 W0 c len cap a0 n k wr HR.out.cu (by omega) hlt' hn4').mono ?_;rintro e w5 ⟨x5,m5,rfl,⟨m50,m51⟩,hx5,hc5,hg5⟩
   obtain ⟨xa,xc,ex5⟩:∃ xa xc,x5=.slice xa m5 xc:=by
    obtain ⟨xs,ho,_⟩:=hx5;obtain ⟨a,cc,e⟩:=zU ho;exact ⟨a,cc,e⟩
   have hne5:x5≠.slice none 0 0:=fun e=>by
    rw [ex5] at e;simp only [Value.slice.injEq] at e;omega
   subst ex5;have H5:Hid (Lst w5 wr.heap.size (.slice xa m5 xc) m5/\m5<=31/\Value.slice xa m5 xc≠.slice none 0 0/\Cur w5 W0 c a0 len cap/\wr.grownBy w5 (some c)/\k<=5/\c<W2.heap.size):=⟨hx5,by omega,hne5,hc5,hg5,by omega,by rw [C0.2.2.2.2];omega⟩
   clear hx5 m50 m51 hne5 hc5 hg5;go_wp2_with (at_builtin;refine qku w5 rfl rfl _ _ rfl rfl rfl HR.out H5.2.2.2.2.2.2 H5.2.2.2.2.2.1 H5.2.2.2.2.1 H5.2.2.2.1 H5.1 H5.2.1 H5.2.2.1 ?_;intro v' w6 d6;have D6:Hid (DrM W2 w6 W0 len cap a0 c v' (k+1)):=d6;clear d6)
   go_roundw
   case rel=>exact ⟨k+1,by omega,by go_num,D6.out⟩
   case measure=>simp [intOf];omega
  ·have hkn:k=n:=by omega
   have hD:=HR.out;rw [hkn] at hD;have HD:Hid (DrM W2 wr W0 len cap a0 c u4 n):=hD;clear hD HR;obtain ⟨⟨u,L,H,hl,h31⟩,hcu,hgr,hnn⟩:=HD.out;have hrow:=qfd hl
   obtain ⟨g,pc,cur,eu,-⟩:∃ g pc cur,u4=.slice (some ⟨g,0,none⟩) n pc/\cur=(0:Nat):=by
    rcases hl.row.2 with ⟨e,_⟩ | ⟨g,pc,cur,e,_⟩
    ·exact absurd e hnn
    ·exact ⟨g,pc,0,e,rfl⟩
   subst eu
   have HN:Hid (∀ wx,wx=wr->Calls Tryz.prog 130 #[.slice (some ⟨g,0,none⟩) n pc] wx (NwR wx n L H)):=fun wx e=>by
    subst e
    exact qix (some ⟨g,0,none⟩) n pc (fun i=>adOf (u i)) L (fun i=>cpOf (u i)) H _ (by omega) (fun i hi=>by have:=h31 i hi;omega) hrow fun i hi=>by
     obtain ⟨b,cap,e2,hb,hI,-⟩:=atI (hl.own i hi) (hl.nn nzI i hi);rw [e2];exact srcI hb hI
   have hblk:wr.heap[w.heap.size]? = W2.heap[w.heap.size]?:=hgr.block _ (by rw [C0.2.2.2.2];omega) (by simp;omega)
   have B5:Hid (w.grownBy wr (some c)/\Cur wr W0 c a0 len cap/\BoxC wr w.heap.size (.slice none 0 0) (.slice none 0 0) (.slice none 0 0) (.slice none 0 0)/\(∀ j,wr.frozen? ⟨w.heap.size,j,none⟩=false)/\w.heap.size<wr.heap.size):=by
    obtain ⟨h0,h1,h2,h3⟩:=C0.2.2.1;exact ⟨C0.2.1.trans hgr,hcu,⟨(zH hblk).trans h0,(zH hblk).trans h1,(zH hblk).trans h2,(zH hblk).trans h3⟩,fun j=>(zI hblk).trans (C0.2.2.2.1 j),by have:=hgr.size;have:=C0.2.2.2.2;omega⟩
   clear hl h31 hcu hgr hnn hrow hblk C0 HD hkn;go_wp2_with fail
   refine (HN.out _ rfl).mono ?_;rintro e w6 h6;obtain ⟨pa,sa,wa,ha,pc6,sc,wc,hc6,Y,bb,rfl,hY,o6,q6⟩:=h6.form;have K6:Hid (DK w w6 W0 c a0 len cap wr.heap.size w6.heap.size Y (sysV pa Y.pn pc6 sa Y.sn sc wa Y.wn wc ha Y.hn hc6)):=⟨B5.2.1.kept (zZ q6) (by simp) (fun k hk=>by cases hk),o6,B5.1.andThen (zZ q6) (fun j hj=>by cases hj),by have:=B5.2.2.2.2;omega⟩
   have B6:Hid (BoxC w6 w.heap.size (.slice none 0 0) (.slice none 0 0) (.slice none 0 0) (.slice none 0 0)/\(∀ j,w6.frozen? ⟨w.heap.size,j,none⟩=false)/\w.heap.size<wr.heap.size/\wr.heap.size<=w6.heap.size):=⟨B5.2.2.1.below q6,fun j=>((qag q6).2 _ j B5.2.2.2.2).trans (B5.2.2.2.1 j),B5.2.2.2.2,q6.size⟩
   have HG:Hid Y.Good:=hY;clear h6 hY o6 q6 B5 HN;obtain ⟨⟨r0,r1,r2,r3⟩,rf,lw,lr⟩:=B6.out;have l6:w.heap.size<w6.heap.size:=by omega
   have hcN:c≠w.heap.size:=by omega
   have hcM:c≠w6.heap.size:=by omega
   go_wp2;refine bodyPost_ret (v:=sysV pa Y.pn pc6 sa Y.sn sc wa Y.wn wc ha Y.hn hc6) (by simp [results,Tryz.results117,go_sem,r0,r1,r2,r3,l6]) rfl ⟨pa,sa,wa,ha,pc6,sc,wc,hc6,Y,rfl,HG.out,DK.weak (B:=wr.heap.size) (T:=w6.heap.size) ?_ (by omega) hcl (by simp)⟩
   repeat (first | exact K6.out | (refine DK.alloc ?_ _)|(refine DK.set ?_ (by first | omega | simp) (by first | omega | simp) (by first | omega | simp) (by omega) _ _))
theorem qtt (y:Sy) (p:Int):(rdQ y p).length<=4:=by
 unfold rdQ
 split
 ·rename_i h
  have h4:=(Sy.ok_of h.1).cn.1;refine zP (qos _ _) ?_;unfold chS
  split <;> omega
 ·simp
structure DP (w wr:World) (x:SysIn):Prop where
 bx:BoxC wr w.heap.size (.slice x.pa x.pn x.pc) (.slice x.sa x.sn x.sc) (.slice x.wa x.wn x.wc) (.slice x.ha x.hn x.hc)
 p0:wr.cell? ⟨w.heap.size+1,0,none⟩=some (.int .i64 0)
 p1:wr.cell? ⟨w.heap.size+1,1,none⟩=some (.int .i64 0)
 fr:∀ j,wr.frozen? ⟨w.heap.size+1,j,none⟩=false
theorem DP.blk {w wr w':World} {x:SysIn} (h:DP w wr x) (h0:w'.heap[w.heap.size]? = wr.heap[w.heap.size]?) (h1:w'.heap[w.heap.size+1]? = wr.heap[w.heap.size+1]?):DP w w' x:=by
 obtain ⟨⟨b0,b1,b2,b3⟩,p0,p1,fr⟩:=h;exact ⟨⟨(zH h0).trans b0,(zH h0).trans b1,(zH h0).trans b2,(zH h0).trans b3⟩,(zH h1).trans p0,(zH h1).trans p1,fun j=>(zI h1).trans (fr j)⟩
theorem DP.lt {w wr:World} {x:SysIn} (h:DP w wr x):w.heap.size+1<wr.heap.size:=zJ wr _ h.p0
theorem DP.below {w wr w':World} {x:SysIn} (h:DP w wr x) (hb:Below wr.heap.size wr w'):DP w w' x:=h.blk (hb.block _ (by have:=h.lt;omega)) (hb.block _ h.lt)
theorem DP.draw {w wr w':World} {x:SysIn} {c:Nat} (h:DP w wr x) (hg:wr.grownBy w' (some c)) (hc:c<w.heap.size):DP w w' x:=h.blk (hg.block _ (by have:=h.lt;omega) (by simp;omega)) (hg.block _ h.lt (by simp;omega))
theorem qiu (W0 c len cap B T:Nat) (a0:Option Addr) (y:Sy) (v:Value) (w:World) (hy:y.Sm) (hc:Cur w W0 c a0 len cap) (hs:SysT w B T y v) (hT:T<=w.heap.size) (hB:c<B):
  Calls Tryz.prog 118 #[.pointer (some ⟨c,0,none⟩),v] w fun e w'=>∃ p q:Int,e=.returned (.agg #[.int .i64 p,.int .i64 q])/\DK w w' W0 c a0 len cap B T y v:=by
 obtain ⟨x,rfl,rfl,hX⟩:=hs.x;have hcl:c<w.heap.size:=hc.lt;have hcg:W0<=c:=hc.ge;have hpn:x.pn<=16:=hy.n.1;have hpn':(x.pn:Int)<=16:=by omega
 have HL:Hid x.Len:=hy.inLen;have HK:Hid ((∀ w',Abv c w w'->SysG w' x)/\∀ i,i<x.hn->x.hL i<=x.hC i):=⟨fun w' h=>hX.abv hB h,hX.cap⟩
 have K0:Hid (DK w ((w.alloc (oQ4 x.pa x.pn x.pc x.sa x.sn x.sc x.wa x.wn x.wc x.ha x.hn x.hc)).alloc (.cells #[.int .i64 0,.int .i64 0] 139)) W0 c a0 len cap B T x.y x.v/\DP w ((w.alloc (oQ4 x.pa x.pn x.pc x.sa x.sn x.sc x.wa x.wn x.wc x.ha x.hn x.hc)).alloc (.cells #[.int .i64 0,.int .i64 0] 139)) x/\Abv c w ((w.alloc (oQ4 x.pa x.pn x.pc x.sa x.sn x.sc x.wa x.wn x.wc x.ha x.hn x.hc)).alloc (.cells #[.int .i64 0,.int .i64 0] 139))):=by
  have k0:DK w w W0 c a0 len cap B T x.y x.v:=⟨hc,hs,World.grownBy.refl _ _,hB⟩
  refine ⟨(k0.alloc _).alloc _,⟨(BoxC.new w _ _ _ _ _).below (zQ _ _),zW _ _ _ 0 (by simp),zW _ _ _ 1 (by simp),fun j=>yD _ _ _ _ (by simp)⟩,(Abv.below (zQ _ _)).trans (Abv.below (zQ _ _))⟩
 clear hc hs hX hy
 go_enter Tryz.func118,Tryz.ntmps118
 go_upto_region 1 with fail
 generalize (w.alloc (oQ4 x.pa x.pn x.pc x.sa x.sn x.sc x.wa x.wn x.wc x.ha x.hn x.hc)).alloc (.cells #[.int .i64 0,.int .i64 0] 139)=W2 at *;obtain ⟨b0,-,-,-⟩:=K0.2.1.bx;go_wp2_with fail
 refine (qh4 _ _ _).mono ?_;rintro e w1 ⟨n,rfl,⟨n1,n2,n3⟩,rfl⟩;clear b0;have hn16:n<=16:=by omega
 go_wp2_with fail
 refine (zY W0 c len cap a0 n w1 K0.1.cu n2 (by omega)).mono ?_;rintro e w2 ⟨p,rfl,⟨p0,p1⟩,hc2,hg2⟩;have K2:Hid (DK w w2 W0 c a0 len cap B T x.y x.v/\DP w w2 x/\Abv c w w2):=⟨K0.1.draw hc2 hg2,K0.2.1.draw hg2 hcl,K0.2.2.trans (Abv.grown hg2)⟩
 clear hc2 hg2 K0;obtain ⟨b0,b1,b2,b3⟩:=K2.2.1.bx;go_wp2_with fail
 refine (qkh x p w2 (HK.1 w2 K2.2.2) HL.out HK.2).mono ?_;rintro e w3 ⟨u3,rfl,o3,q3⟩;obtain ⟨ra,rc,rfl,rsl⟩:=o3.form;have hr4:=qtt x.y p;generalize rdQ x.y p=R at *;have hr4':(R.length:Int)<=4:=by omega
 have K3:Hid (DK w w3 W0 c a0 len cap B T x.y x.v/\DP w w3 x/\OwnI w3 w2.heap.size (.slice ra R.length rc) R):=⟨K2.1.below q3,K2.2.1.below q3,o3⟩
 have LT2:Hid (w.heap.size+1<w2.heap.size):=K2.2.1.lt;clear b0 b1 b2 b3 o3 q3 K2 rsl;by_cases h0:R.length=0
 ·have h0':¬ (0:Int)<(R.length:Int):=by omega
  go_wp2_with fail
  refine (zY W0 c len cap a0 (n+1) w3 K3.1.cu (by omega) (by omega)).mono ?_;rintro e w4 ⟨q,rfl,⟨q0,q1⟩,hc4,hg4⟩;have K4:Hid (DK w w4 W0 c a0 len cap B T x.y x.v/\DP w w4 x):=⟨K3.1.draw hc4 hg4,K3.2.1.draw hg4 hcl⟩
  clear hc4 hg4 K3;obtain ⟨-,z0,z1,zf⟩:=K4.2;go_wp2;refine bodyPost_ret (v:=.agg #[.int .i64 p,.int .i64 q]) (by simp [results,Tryz.results118,go_sem,z0,z1]) rfl ⟨p,q,rfl,?_⟩;exact (K4.1.set (by omega) (by omega) (by omega) (by omega) _ _).set (by omega) (by omega) (by omega) (by omega) _ _
 ·have h0':(0:Int)<(R.length:Int):=by omega
  go_wp2_with fail
  refine (qb8 W0 c len cap a0 9 w3 K3.1.cu (by omega) (by omega)).mono ?_;rintro e w4 ⟨t,rfl,hc4,hg4⟩;have K4:Hid (DK w w4 W0 c a0 len cap B T x.y x.v/\DP w w4 x/\OwnI w4 w2.heap.size (.slice ra R.length rc) R):=⟨K3.1.draw hc4 hg4,K3.2.1.draw hg4 hcl,K3.2.2.ofBlock fun k hk=>hg4.block k (K3.2.2.lt k hk).2 (by have:=(K3.2.2.lt k hk).1;have:=LT2.out;simp;omega)⟩
  clear hc4 hg4 K3
  rcases t with _ | _
  ·go_wp2_with fail
   refine (zY W0 c len cap a0 (R.length:Nat) w4 K4.1.cu (by omega) (by omega)).mono ?_;rintro e w5 ⟨j,rfl,⟨j0,j1⟩,hc5,hg5⟩;have K5:Hid (DK w w5 W0 c a0 len cap B T x.y x.v/\DP w w5 x/\OwnI w5 w2.heap.size (.slice ra R.length rc) R):=⟨K4.1.draw hc5 hg5,K4.2.1.draw hg5 hcl,K4.2.2.ofBlock fun k hk=>hg5.block k (K4.2.2.lt k hk).2 (by have:=(K4.2.2.lt k hk).1;have:=LT2.out;simp;omega)⟩
   clear hc5 hg5 K4;obtain ⟨i,rfl⟩:∃ i:Nat,j=i:=⟨j.toNat,by omega⟩
   obtain ⟨gb,go,rfl,-,gc⟩:=K5.2.2.slOf.at (k:=i) (by omega);obtain ⟨-,z0,z1,zf⟩:=K5.2.1;generalize zi R i=q at *;go_wp2;refine bodyPost_ret (v:=.agg #[.int .i64 p,.int .i64 q]) (by simp [results,Tryz.results118,go_sem,z0,z1]) rfl ⟨p,q,rfl,?_⟩;exact (K5.1.set (by omega) (by omega) (by omega) (by omega) _ _).set (by omega) (by omega) (by omega) (by omega) _ _
  ·go_wp2_with fail
   refine (zY W0 c len cap a0 (n+1) w4 K4.1.cu (by omega) (by omega)).mono ?_;rintro e w5 ⟨q,rfl,⟨q0,q1⟩,hc5,hg5⟩;have K5:Hid (DK w w5 W0 c a0 len cap B T x.y x.v/\DP w w5 x):=⟨K4.1.draw hc5 hg5,K4.2.1.draw hg5 hcl⟩
   clear hc5 hg5 K4;obtain ⟨-,z0,z1,zf⟩:=K5.2;go_wp2;refine bodyPost_ret (v:=.agg #[.int .i64 p,.int .i64 q]) (by simp [results,Tryz.results118,go_sem,z0,z1]) rfl ⟨p,q,rfl,?_⟩;exact (K5.1.set (by omega) (by omega) (by omega) (by omega) _ _).set (by omega) (by omega) (by omega) (by omega) _ _
theorem kndP:Kind 118 139 2 16:=by
 refine ⟨Tryz.underlying118,?_,by omega,by omega⟩;have hinfo:(Tryz.prog.info? 139).map (fun i=>(i.zero,i.size,i.bytes))=some (some (.agg #[.int .i64 0,.int .i64 0]),2,16):=by kernel_rfl
 cases hi:Tryz.prog.info? 139 with
 | none=>rw [hi] at hinfo;cases hinfo
 | some i=>
  rw [hi] at hinfo;simp only [Option.map_some,Option.some.injEq,Prod.mk.injEq] at hinfo;obtain ⟨hz,hs,hb⟩:=hinfo;exact ⟨i,_,rfl,hz,hs,hb,rfl⟩
structure Bx (w:World) (N:Nat) (v0 v1 v2 v3:Value):Prop where
 bx:BoxC w N v0 v1 v2 v3
 fr:∀ j,w.frozen? ⟨N,j,none⟩=false
theorem Bx.blk {w w':World} {N:Nat} {v0 v1 v2 v3:Value} (h:Bx w N v0 v1 v2 v3) (hb:w'.heap[N]? = w.heap[N]?):Bx w' N v0 v1 v2 v3:=by
 obtain ⟨⟨h0,h1,h2,h3⟩,hf⟩:=h;exact ⟨⟨(zH hb).trans h0,(zH hb).trans h1,(zH hb).trans h2,(zH hb).trans h3⟩,fun j=>(zI hb).trans (hf j)⟩
theorem Bx.lt {w:World} {N:Nat} {v0 v1 v2 v3:Value} (h:Bx w N v0 v1 v2 v3):N<w.heap.size:=zJ w _ h.bx.1
theorem Bx.new (w:World) (v0 v1 v2 v3:Value) (t:TypeId):Bx (w.alloc (.cells #[v0,v1,v2,v3] t)) w.heap.size v0 v1 v2 v3:=⟨BoxC.new w _ _ _ _ _,fun _j=>yD _ _ _ _ rfl⟩
theorem Bx.below {w w':World} {N:Nat} {v0 v1 v2 v3:Value} (h:Bx w N v0 v1 v2 v3) (hb:Below w.heap.size w w'):Bx w' N v0 v1 v2 v3:=h.blk (hb.block N h.lt)
theorem Bx.grown {w w':World} {N:Nat} {v0 v1 v2 v3:Value} {r:Option Nat} (h:Bx w N v0 v1 v2 v3) (hg:w.grownBy w' r) (hr:r≠some N):Bx w' N v0 v1 v2 v3:=h.blk (hg.block N h.lt (fun e=>hr e.symm))
theorem Bx.set {w:World} {N M j:Nat} {v0 v1 v2 v3 u:Value} (h:Bx w N v0 v1 v2 v3) (hM:N≠M):Bx (w.setCell ⟨M,j,none⟩ u) N v0 v1 v2 v3:=h.blk (zO _ _ _ _ hM)
theorem Bx.put {w:World} {N:Nat} {v0 v1 v2 v3:Value} (h:Bx w N v0 v1 v2 v3) (u0 u1 u2 u3:Value):Bx ((((w.setCell ⟨N,0,none⟩ u0).setCell ⟨N,1,none⟩ u1).setCell ⟨N,2,none⟩ u2).setCell ⟨N,3,none⟩ u3) N u0 u1 u2 u3:=by
 obtain ⟨⟨h0,h1,h2,h3⟩,hf⟩:=h;exact ⟨⟨by go_cell,by go_cell,by go_cell,by go_cell⟩,fun j=>by simpa using hf j⟩
theorem qom {N n c k:Nat} (h:(Value.slice (some ⟨N,0,none⟩) n c).ownBlock=some k):N=k:=by
 cases h;rfl
theorem qtp (w:World) {N:Nat} (hN:N=w.heap.size):(w.alloc (.cells #[] 139)).ownsRow 0 139 2 (.slice (some ⟨N,0,none⟩) 0 0) 0 []:=by
 subst hN;exact World.ownsRow_made (base:=0) (e:=139) (size:=2) w #[] 0 (Nat.zero_le _) (by unfold maxLen;omega) (by simp)
theorem Bx.newN (w:World) {N:Nat} (hN:N=w.heap.size) (v0 v1 v2 v3:Value) (t:TypeId):Bx (w.alloc (.cells #[v0,v1,v2,v3] t)) N v0 v1 v2 v3:=by
 subst hN;exact Bx.new w v0 v1 v2 v3 t
structure DR (w wr:World) (W0 c:Nat) (a0:Option Addr) (len cap M:Nat) (s0 s1 s2 s3 v9:Value) (k:Nat):Prop where
 ex:∃ (B T:Nat) (y:Sy) (pa sa wa ha:Option Addr) (pc sc wc hc:Nat),DK w wr W0 c a0 len cap B T y (sysV pa y.pn pc sa y.sn sc wa y.wn wc ha y.hn hc)/\y.Good/\Bx wr (M+1) (.slice pa y.pn pc) (.slice sa y.sn sc) (.slice wa y.wn wc) (.slice ha y.hn hc)/\(M+1<B\/T<=M)/\T<=wr.heap.size/\w.heap.size+2<=B/\∀ g,v9.ownBlock=some g->g<B\/T<=g
 b4:Bx wr w.heap.size (.slice none 0 0) (.slice none 0 0) (.slice none 0 0) (.slice none 0 0)
 b6:Bx wr (w.heap.size+1) (.slice none 0 0) (.slice none 0 0) (.slice none 0 0) (.slice none 0 0)
 b7:Bx wr M s0 s1 s2 s3
 li:∃ m xs,m<=k/\wr.ownsRow 0 139 2 v9 m xs
 lo:∀ g,v9.ownBlock=some g->M+1<g
 le:w.heap.size+1<M/\c<w.heap.size/\W0<=c
section
variable {w wr w':World} {W0 c len cap M k:Nat} {a0:Option Addr} {s0 s1 s2 s3 v9:Value}
theorem DR.keep (h:DR w wr W0 c a0 len cap M s0 s1 s2 s3 v9 k) (hc:Cur w' W0 c a0 len cap) (hs:wr.heap.size<=w'.heap.size) (hb:∀ b,b≠c->b<wr.heap.size->w'.heap[b]? = wr.heap[b]?) (hg:wr.grownBy w' (some c)):DR w w' W0 c a0 len cap M s0 s1 s2 s3 v9 k:=by
 obtain ⟨⟨B,T,y,pa,sa,wa,ha,pc,sc,wc,hh,dk,gd,b8,h1,h2,h3,h4⟩,b4,b6,b7,⟨m,xs,hm,hl⟩,lo,le⟩:=h;refine ⟨⟨B,T,y,pa,sa,wa,ha,pc,sc,wc,hh,dk.draw hc hg,gd,b8.blk (hb _ (by omega) b8.lt),h1,by omega,h3,h4⟩,b4.blk (hb _ (by omega) b4.lt),b6.blk (hb _ (by omega) b6.lt),b7.blk (hb _ (by omega) b7.lt),⟨m,xs,hm,qat hl fun g hg=>hb g (by have:=lo g hg;omega) (hl.lt g hg).2⟩,lo,le⟩
theorem DR.draw (h:DR w wr W0 c a0 len cap M s0 s1 s2 s3 v9 k) (hc:Cur w' W0 c a0 len cap) (hg:wr.grownBy w' (some c)):DR w w' W0 c a0 len cap M s0 s1 s2 s3 v9 k:=h.keep hc hg.size (fun b hb hl=>hg.block b hl (by simpa using hb)) hg
theorem DR.cur (h:DR w wr W0 c a0 len cap M s0 s1 s2 s3 v9 k):Cur wr W0 c a0 len cap:=by
 obtain ⟨⟨B,T,y,pa,sa,wa,ha,pc,sc,wc,hh,dk,-⟩,-⟩:=h;exact dk.cu
theorem DR.below (h:DR w wr W0 c a0 len cap M s0 s1 s2 s3 v9 k) (hb:Below wr.heap.size wr w'):DR w w' W0 c a0 len cap M s0 s1 s2 s3 v9 k:=
 h.keep (h.cur.kept (zZ hb) (by simp) (fun k hk=>by cases hk)) hb.size (fun b _ hl=>hb.block b hl) ⟨hb.os,hb.tape,hb.output,hb.size,fun k hk _=>hb.block k hk⟩
theorem DR.app {w1:World} {v':Value} {m:Nat} {xs:List Value} (h:DR w wr W0 c a0 len cap M s0 s1 s2 s3 v9 k) (ho:w1.ownsRow 0 139 2 v' m xs) (hm:m<=k+1) (g:wr.grownBy w1 v9.ownBlock) (hv:∀ j,v'.ownBlock=some j->v9.ownBlock=some j\/wr.heap.size<=j):DR w w1 W0 c a0 len cap M s0 s1 s2 s3 v' (k+1):=by
 obtain ⟨⟨B,T,y,pa,sa,wa,ha,pc,sc,wc,hh,dk,gd,b8,h1,h2,h3,h4⟩,b4,b6,b7,-,lo,le⟩:=h;have hne:∀ b,b<=M+1->v9.ownBlock≠some b:=fun b hb e=>by have:=lo b e;omega
 have l8:=b8.lt;have hT1:=g.size;refine ⟨⟨B,T,y,pa,sa,wa,ha,pc,sc,wc,hh,⟨dk.cu.kept g (fun e=>hne c (by omega) e.symm) (fun j hj=>by have:=lo j hj;omega),dk.sy.keep fun b hB hT hl=>g.block b hl (fun e=>by have:=h4 b e.symm;omega),dk.gr.andThen g (fun j hj=>.inl (by have:=lo j hj;omega)),dk.lt⟩,gd,b8.grown g (hne _ (by omega)),h1,by omega,h3,fun j hj=>(hv j hj).elim (h4 j) fun h=>.inr (by omega)⟩,b4.grown g (hne _ (by omega)),b6.grown g (hne _ (by omega)),b7.grown g (hne _ (by omega)),⟨m,xs,hm,ho⟩,fun j hj=>(hv j hj).elim (lo j) fun h=>by omega,le⟩
end
theorem DK.drew {w wr:World} {W0 c:Nat} {a0:Option Addr} {len cap B T:Nat} {y:Sy} {v:Value} (h:DK w wr W0 c a0 len cap B T y v):DK w wr.drew W0 c a0 len cap B T y v:=⟨h.cu.drew,h.sy.keep fun _ _ _ _=>rfl,⟨h.gr.os,h.gr.tape,h.gr.output,h.gr.size,h.gr.block⟩,h.lt⟩
theorem qj1 (W0 c len cap:Nat) (a0:Option Addr) (most:Int) (w:World) (hc:Cur w W0 c a0 len cap) (m0:0<=most) (m1:most<=200):
  Calls Tryz.prog 101 #[.pointer (some ⟨c,0,none⟩),.int .i64 most] w fun e w'=>∃ (B T:Nat) (y:Sy) (qa qb qc qd:Option Addr) (n0 n1 n2 n3 e0 e1 e2 e3:Nat) (v1:Value) (pa sa wa ha:Option Addr) (pc sc wc hc:Nat),e=.returned (.tuple #[.agg #[.slice qa n0 e0,.slice qb n1 e1,.slice qc n2 e2,.slice qd n3 e3],v1,sysV pa y.pn pc sa y.sn sc wa y.wn wc ha y.hn hc])/\y.Good/\DK w w' W0 c a0 len cap B T y (sysV pa y.pn pc sa y.sn sc wa y.wn wc ha y.hn hc)/\w.heap.size<=B/\T<=w'.heap.size:=by
 have hcl:c<w.heap.size:=hc.lt;have hcg:W0<=c:=hc.ge;have C0:Hid (Cur ((w.alloc (zQ3)).alloc (zQ3)) W0 c a0 len cap/\w.grownBy ((w.alloc (zQ3)).alloc (zQ3)) (some c)/\Bx ((w.alloc (zQ3)).alloc (zQ3)) w.heap.size (.slice none 0 0) (.slice none 0 0) (.slice none 0 0) (.slice none 0 0)/\Bx ((w.alloc (zQ3)).alloc (zQ3)) (w.heap.size+1) (.slice none 0 0) (.slice none 0 0) (.slice none 0 0) (.slice none 0 0)/\((w.alloc (zQ3)).alloc (zQ3)).heap.size=w.heap.size+2):=⟨(hc.alloc _).alloc _,(World.grownBy_alloc _ _ _).trans (World.grownBy_alloc _ _ _),(Bx.new w _ _ _ _ _).below (zQ _ _),Bx.newN _ (by simp) _ _ _ _ _,by simp⟩
 clear hc
 go_enter Tryz.func101,Tryz.ntmps101
 go_wp2_with fail
 generalize (w.alloc (zQ3)).alloc (zQ3)=W2 at *;refine (qj0 W0 c len cap a0 W2 C0.1).mono ?_;rintro e w1 ⟨pa,sa,wa,ha,pc,sc,wc,hh,y,rfl,hy,k1⟩
 have D4:Hid (DR w (((w1.alloc (oQ4 pa y.pn pc sa y.sn sc wa y.wn wc ha y.hn hh)).alloc (oQ4 pa y.pn pc sa y.sn sc wa y.wn wc ha y.hn hh)).alloc (.cells #[] 139)) W0 c a0 len cap w1.heap.size (.slice pa y.pn pc) (.slice sa y.sn sc) (.slice wa y.wn wc) (.slice ha y.hn hh) (.slice (some ⟨w1.heap.size+2,0,none⟩) 0 0) 0):=by
  have hs2:=C0.2.2.2.2;have hs1:=k1.gr.size;have k2:DK w w1 W0 c a0 len cap W2.heap.size w1.heap.size y (sysV pa y.pn pc sa y.sn sc wa y.wn wc ha y.hn hh):=⟨k1.cu,k1.sy,C0.2.1.trans k1.gr,k1.lt⟩
  refine ⟨⟨_,_,y,pa,sa,wa,ha,pc,sc,wc,hh,((k2.alloc _).alloc _).alloc _,hy,(Bx.newN _ (by simp) _ _ _ _ _).below (zQ _ _),.inr (Nat.le_refl _),by simp;omega,by omega,fun g hg=>?_⟩,(((C0.2.2.1.grown k1.gr (by simp;omega)).below (zQ _ _)).below (zQ _ _)).below (zQ _ _),(((C0.2.2.2.1.grown k1.gr (by simp;omega)).below (zQ _ _)).below (zQ _ _)).below (zQ _ _),((Bx.new _ _ _ _ _ _).below (zQ _ _)).below (zQ _ _),⟨0,[],Nat.le_refl _,?_⟩,fun g hg=>?_,by omega,hcl,hcg⟩
  ·have:=qom hg
   omega
  ·exact qtp _ (by simp)
  ·have:=qom hg
   omega
 clear k1 hy C0;go_wp2_with fail
 generalize ((w1.alloc (oQ4 pa y.pn pc sa y.sn sc wa y.wn wc ha y.hn hh)).alloc (oQ4 pa y.pn pc sa y.sn sc wa y.wn wc ha y.hn hh)).alloc (.cells #[] 139)=W4 at *;generalize w1.heap.size=M at *;generalize y.pn=sn0 at *;generalize y.sn=sn1 at *;generalize y.wn=sn2 at *;generalize y.hn=sn3 at *;refine (zY W0 c len cap a0 (most+1) W4 D4.out.cur (by omega) (by omega)).mono ?_;rintro e w5 ⟨n,rfl,⟨n0,n1⟩,hc5,hg5⟩;have D5:Hid (DR w w5 W0 c a0 len cap M (.slice pa sn0 pc) (.slice sa sn1 sc) (.slice wa sn2 wc) (.slice ha sn3 hh) (.slice (some ⟨M+2,0,none⟩) 0 0) 0):=D4.out.draw hc5 hg5;clear hc5 hg5 D4;obtain ⟨nn,rfl⟩:∃ nn:Nat,n=nn:=⟨n.toNat,by omega⟩
 have hnn:(nn:Int)<=200:=by omega
 clear n0 n1;go_wp2_with fail
 go_loopw [9,11] (fun v i wr=>∃ k:Nat,k<=nn/\i=.int .i64 k/\Hid (DR w wr W0 c a0 len cap M (.slice pa sn0 pc) (.slice sa sn1 sc) (.slice wa sn2 wc) (.slice ha sn3 hh) v k)) (fun _ i _=>nn - (intOf i).toNat)
 case atStart=>exact ⟨0,Nat.zero_le _,rfl,D5.out⟩
 case round=>
  clear D5;obtain ⟨k,hk,rfl,HR⟩:=hrel;obtain ⟨B,T,y',pa',sa',wa',ha',pc',sc',wc',hh',dk,gd,b8,h1,h2,h3,h4⟩:=HR.out.ex;have DKr:Hid (DK w wr W0 c a0 len cap B T y' (sysV pa' y'.pn pc' sa' y'.sn sc' wa' y'.wn wc' ha' y'.hn hh')/\y'.Good/\T<=wr.heap.size/\w.heap.size+2<=B):=⟨dk,gd,h2,h3⟩
  by_cases hlt:k<nn
  ·have hlt':(k:Int)<(nn:Int):=by omega
   obtain ⟨r0,r1,r2,r3⟩:=b8.bx;clear dk gd b8 h1 h2 h3 h4;go_wp2_with fail
   refine (qiu W0 c len cap B T a0 y' _ wr DKr.2.1.sm DKr.1.cu DKr.1.sy DKr.2.2.1 DKr.1.lt).mono ?_;rintro e w2 ⟨p,q,rfl,k2⟩;have E2:Hid (DR w (w2.alloc (.cells #[.int .i64 p,.int .i64 q] 139)) W0 c a0 len cap M (.slice pa sn0 pc) (.slice sa sn1 sc) (.slice wa sn2 wc) (.slice ha sn3 hh) u9 k):=(HR.out.draw k2.cu k2.gr).below (zQ _ _);have P2:Hid ((w2.alloc (.cells #[.int .i64 p,.int .i64 q] 139)).cell? ⟨w2.heap.size,0,none⟩=some (.int .i64 p)/\(w2.alloc (.cells #[.int .i64 p,.int .i64 q] 139)).cell? ⟨w2.heap.size,1,none⟩=some (.int .i64 q)):=⟨zW _ _ _ 0 rfl,zW _ _ _ 1 rfl⟩
   have L2:Hid (∀ g,u9.ownBlock=some g->g<w2.heap.size):=fun g hg=>by
    obtain ⟨m,xs,-,ho⟩:=(HR.out.draw k2.cu k2.gr).li;exact (ho.lt g hg).2
   clear k2 r0 r1 r2 r3 HR DKr;go_upto_region 9 with fail
   generalize hW3:w2.alloc (.cells #[.int .i64 p,.int .i64 q] 139)=w3 at *;have hs3:w3.heap.size=w2.heap.size+1:=by rw [<- hW3];simp
   have HS3:Hid (w3.heap.size=w2.heap.size+1):=hs3;clear hW3 hs3;generalize w2.heap.size=N at *;obtain ⟨c0,c1⟩:=P2.out;obtain ⟨m,xs,hm,lo9⟩:=E2.out.li;have LO:Hid (w3.ownsRow 0 139 2 u9 m xs/\m<=2000000/\m+1<=k+1):=⟨lo9,by omega,by omega⟩
   clear hm lo9;go_upto_region 10 with (at_builtin;refine qan kndP w3 rfl rfl _ _ rfl 0 u9 m xs rfl LO.1 #[.int .i64 p,.int .i64 q] rfl rfl (by intro u hu;simp at hu;rcases hu with rfl | rfl <;> rfl) LO.2.1 (Nat.zero_le _) ?_;intro v5 w5 o5 g5 q5 _;have E5:Hid (DR w w5 W0 c a0 len cap M (.slice pa sn0 pc) (.slice sa sn1 sc) (.slice wa sn2 wc) (.slice ha sn3 hh) v5 (k+1)/\w5.cell? ⟨N,0,none⟩=some (.int .i64 p)/\w5.cell? ⟨N,1,none⟩=some (.int .i64 q)):=⟨E2.out.app o5 LO.2.2 g5 q5,(zH (g5.block N (by rw [HS3.out];omega) (fun e=>by have:=L2.out N e.symm;omega))).trans P2.1,(zH (g5.block N (by rw [HS3.out];omega) (fun e=>by have:=L2.out N e.symm;omega))).trans P2.2⟩;clear o5 g5 q5)
   clear c0 c1 E2 P2 L2 LO;obtain ⟨B,T,y',pa',sa',wa',ha',pc',sc',wc',hh',dk,gd,b8,h1,h2,h3,h4⟩:=E5.1.ex;obtain ⟨r0,r1,r2,r3⟩:=b8.bx;obtain ⟨c0,c1⟩:=E5.2
   have HStep:Hid (Calls Tryz.prog 119 #[sysV pa' y'.pn pc' sa' y'.sn sc' wa' y'.wn wc' ha' y'.hn hh',.int .i64 p,.int .i64 q] w5 fun e w'=>∃ v,e=.returned (.tuple #[v,.int .i64 (stC y' p q)])/\qac true w' w5.heap.size (stY y' p q) v/\Below w5.heap.size w5 w'):=by
    obtain ⟨x,ev,ey,hX⟩:=dk.sy.x;have:=ql1 x p q w5 hX.self (Sy.Sm.inLen (by rw [ey];exact gd.sm)) hX.cap;rw [<- ev,ey] at this;exact this
   have HGood:Hid (stC y' p q=0->(stY y' p q).Good):=fun h=>gd.step h;clear dk gd b8 h1 h2 h3 h4;go_wp2_with fail
   refine HStep.out.mono ?_;rintro e w6 ⟨v6,rfl,o6,q6⟩;generalize hC:stC y' p q=C at *;generalize hY:stY y' p q=Y at *;obtain ⟨pa6,pc6,sa6,sc6,wa6,wc6,ha6,hc6,rfl⟩:=o6.form;have E6:Hid (DR w w6 W0 c a0 len cap M (.slice pa sn0 pc) (.slice sa sn1 sc) (.slice wa sn2 wc) (.slice ha sn3 hh) v5 (k+1)):=E5.1.below q6;have O6:Hid (SysT w6 w5.heap.size w6.heap.size Y (sysV pa6 Y.pn pc6 sa6 Y.sn sc6 wa6 Y.wn wc6 ha6 Y.hn hc6)/\w5.heap.size<=w6.heap.size/\M+1<w5.heap.size/\(∀ g,v5.ownBlock=some g->g<w5.heap.size)):=⟨o6.sysT,q6.size,by obtain ⟨B,T,y',pa',sa',wa',ha',pc',sc',wc',hh',-,-,b8,-⟩:=E5.1.ex;exact b8.lt,fun g hg=>by obtain ⟨m,xs,-,ho⟩:=E5.1.li;exact (ho.lt g hg).2⟩
   clear hC hY o6 q6 r0 r1 r2 r3 c0 c1 HStep E5;by_cases hc0:C=0
   ·subst hc0
    have gY:=HGood.out rfl;obtain ⟨B,T,y',pa',sa',wa',ha',pc',sc',wc',hh',dk,gd,b8,h1,h2,h3,h4⟩:=E6.out.ex;obtain ⟨⟨r0,r1,r2,r3⟩,rf⟩:=b8;have l8:M+1<w6.heap.size:=by have:=O6.out;omega
    have E7:Hid (DR w ((((w6.setCell ⟨M+1,0,none⟩ (.slice pa6 Y.pn pc6)).setCell ⟨M+1,1,none⟩ (.slice sa6 Y.sn sc6)).setCell ⟨M+1,2,none⟩ (.slice wa6 Y.wn wc6)).setCell ⟨M+1,3,none⟩ (.slice ha6 Y.hn hc6)) W0 c a0 len cap M (.slice pa sn0 pc) (.slice sa sn1 sc) (.slice wa sn2 wc) (.slice ha sn3 hh) v5 (k+1)):=by
     obtain ⟨o7,hs7,hs8,hg7⟩:=O6.out;obtain ⟨-,b4,b6,b7,⟨m,xs,hm,hl⟩,lo,le⟩:=E6.out;have k7:DK w w6 W0 c a0 len cap w5.heap.size w6.heap.size Y (sysV pa6 Y.pn pc6 sa6 Y.sn sc6 wa6 Y.wn wc6 ha6 Y.hn hc6):=⟨dk.cu,o7,dk.gr,by omega⟩
     refine ⟨⟨_,_,Y,pa6,sa6,wa6,ha6,pc6,sc6,wc6,hc6,(((k7.set (by omega) (by omega) (.inl hs8) (by omega) _ _).set (by omega) (by omega) (.inl hs8) (by omega) _ _).set (by omega) (by omega) (.inl hs8) (by omega) _ _).set (by omega) (by omega) (.inl hs8) (by omega) _ _,gY,(show Bx w6 (M+1) _ _ _ _ from ⟨⟨r0,r1,r2,r3⟩,rf⟩).put _ _ _ _,.inl hs8,by simp,by omega,fun g hg=>.inl (hg7 g hg)⟩,(((b4.set (by omega)).set (by omega)).set (by omega)).set (by omega),(((b6.set (by omega)).set (by omega)).set (by omega)).set (by omega),(((b7.set (by omega)).set (by omega)).set (by omega)).set (by omega),⟨m,xs,hm,?_⟩,lo,le⟩
     exact qat hl fun g hg=>by
      have hne:g≠M+1:=by have:=lo g hg;omega
      exact (zO _ _ _ _ hne).trans ((zO _ _ _ _ hne).trans ((zO _ _ _ _ hne).trans (zO _ _ _ _ hne)))
    clear dk gd h1 h2 h3 h4 gY HGood E6;go_wp2;go_roundw
    case rel=>exact ⟨k+1,by omega,by go_num,E7.out.below (zQ _ _)⟩
    case measure=>simp [intOf];omega
   ·have tc:(C == 0)=false:=by simpa using hc0
    go_wp2;go_roundw
    case rel=>exact ⟨k+1,by omega,by go_num,E6.out.below (zQ _ _)⟩
    case measure=>simp [intOf];omega
  ·obtain ⟨r0,r1,r2,r3⟩:=b8.bx
   obtain ⟨⟨x0,x1,x2,x3⟩,xf⟩:=HR.out.b4;obtain ⟨⟨z0,z1,z2,z3⟩,zf⟩:=HR.out.b6;obtain ⟨⟨d0,d1,d2,d3⟩,df⟩:=HR.out.b7;have hM:=HR.out.le;have n1:w.heap.size≠M:=by omega
   have n2:w.heap.size≠M+1:=by omega
   have n3:w.heap.size+1≠M:=by omega
   have n4:w.heap.size+1≠M+1:=by omega
   have l4:w.heap.size<wr.heap.size:=zJ wr _ x0;have l6:w.heap.size+1<wr.heap.size:=zJ wr _ z0;clear dk gd b8 h1 h2 h3 h4 HR;go_wp2_with fail
   go_region
   all_goals
    go_wp2;refine bodyPost_ret (v:=.tuple #[.agg #[.slice pa sn0 pc,.slice sa sn1 sc,.slice wa sn2 wc,.slice ha sn3 hh],u9,sysV pa' y'.pn pc' sa' y'.sn sc' wa' y'.wn wc' ha' y'.hn hh']) (by simp [results,Tryz.results101,go_sem,x0,x1,x2,x3,z0,z1,z2,z3]) rfl ⟨B,T,y',pa,sa,wa,ha,sn0,sn1,sn2,sn3,pc,sc,wc,hh,u9,pa',sa',wa',ha',pc',sc',wc',hh',rfl,DKr.2.1,?_,by have:=DKr.2.2.2;omega,?_⟩
    ·refine DK.drew ?_
     iterate 8 (refine DK.set ?_ (by omega) (by omega) (by have:=DKr.out;omega) (by omega) _ _)
     exact DKr.1
    ·have:=DKr.2.2.1
     simpa using this
theorem qpn (a0:Option Addr) (len cap:Nat) (w:World) (hl:len<=1048576):Calls Tryz.prog 102 #[.slice a0 len cap,.int .i64 25,.int .i64 70] w fun e w'=>∃ z:Int,e=.returned (.int .i64 z)/\(25<=z/\z<=70)/\w'=w:=by
 have hl':(len:Int)<=1048576:=by omega
 have ed:Int.tdiv (len:Int) 4=((len / 4:Nat):Int):=(Int.ofNat_tdiv len 4).symm;have hq:len / 4<=1048576:=by omega
 generalize len / 4=q at *;have hq':(q:Int)<=1048576:=by omega
 by_cases t:(70:Int)<25+(q:Int)
 ·go_enter Tryz.func102,Tryz.ntmps102
  go_wp2;go_ret;exact ⟨_,rfl,by omega,rfl⟩
 ·go_enter Tryz.func102,Tryz.ntmps102
  go_wp2;go_ret;exact ⟨_,rfl,by omega,rfl⟩
theorem qh5 (W0 c len cap:Nat) (a0:Option Addr) (w:World) (hc:Cur w W0 c a0 len cap):
  Calls Tryz.prog 74 #[.pointer (some ⟨c,0,none⟩),.slice a0 len cap] w fun e w'=>∃ (B T:Nat) (y:Sy) (pa sa wa ha:Option Addr) (pc sc wc hc:Nat),e=.returned (sysV pa y.pn pc sa y.sn sc wa y.wn wc ha y.hn hc)/\y.Good/\DK w w' W0 c a0 len cap B T y (sysV pa y.pn pc sa y.sn sc wa y.wn wc ha y.hn hc)/\w.heap.size<=B/\T<=w'.heap.size:=by
 have hcl:c<w.heap.size:=hc.lt;have hcg:W0<=c:=hc.ge;have hln:len<=1048576:=hc.ln;have C0:Hid (Cur (w.alloc (zQ3)) W0 c a0 len cap/\w.grownBy (w.alloc (zQ3)) (some c)/\Bx (w.alloc (zQ3)) w.heap.size (.slice none 0 0) (.slice none 0 0) (.slice none 0 0) (.slice none 0 0)/\(w.alloc (zQ3)).heap.size=w.heap.size+1):=⟨hc.alloc _,World.grownBy_alloc _ _ _,Bx.new w _ _ _ _ _,by simp⟩
 clear hc
 go_enter Tryz.func74,Tryz.ntmps74
 go_wp2_with fail
 generalize w.alloc (zQ3)=W2 at *;refine (qpn a0 len cap W2 hln).mono ?_;rintro e w1 ⟨z,rfl,⟨z0,z1⟩,rfl⟩;go_wp2_with fail
 refine (qj1 W0 c len cap a0 z w1 C0.1 (by omega) (by omega)).mono ?_;rintro e w3 ⟨B,T,y,qa,qb,qc,qd,n0,n1,n2,n3,e0,e1,e2,e3,v1,pa,sa,wa,ha,pc,sc,wc,hh,rfl,gd,dk,hB,hT⟩;have K3:Hid (DK w w3 W0 c a0 len cap B T y (sysV pa y.pn pc sa y.sn sc wa y.wn wc ha y.hn hh)/\y.Good/\w.heap.size<B/\T<=w3.heap.size/\Bx w3 w.heap.size (.slice none 0 0) (.slice none 0 0) (.slice none 0 0) (.slice none 0 0)):=⟨⟨dk.cu,dk.sy,C0.2.1.trans dk.gr,dk.lt⟩,gd,by have:=C0.2.2.2;omega,hT,C0.2.2.1.grown dk.gr (by simp;omega)⟩
 clear gd dk hB hT C0;obtain ⟨⟨r0,r1,r2,r3⟩,rf⟩:=K3.2.2.2.2;have l3:w.heap.size<w3.heap.size:=zJ w3 _ r0;have hN:=K3.2.2.1;have hTT:=K3.2.2.2.1;go_wp2;refine bodyPost_ret (v:=sysV pa y.pn pc sa y.sn sc wa y.wn wc ha y.hn hh) (by simp [results,Tryz.results74,go_sem,r0,r1,r2,r3,l3]) rfl ⟨B,T,y,pa,sa,wa,ha,pc,sc,wc,hh,rfl,K3.2.1,?_,by omega,by simp;omega⟩
 repeat (first | exact K3.1 | (refine DK.alloc ?_ _)|(refine DK.set ?_ (by first | omega | simp) (by first | omega | simp) (by first | omega | simp) (by omega) _ _))
theorem qjp {p code:Int} {ra oa:Option Addr} {rn rc on oc k:Nat} (h:(Value.slice ra rn rc).ownBlock=some k):qam (stV p ra rn rc oa on oc code) k:=⟨_,_,_,_,rfl,.inl h⟩
theorem LS.reg {w:World} {P:Nat->Prop} {v:Value} {n:Nat} {vs:Nat->Value} {S:Nat->S4} (o:LS w P v n vs S) {i:Nat} (hi:i<n) (h2:(S i).rs.length=4) (x:Int):∃ g cap rb rn rc oa oc,v=.slice (some ⟨g,0,none⟩) n cap/\w.cell? ⟨g,i*4+1,none⟩=some (.slice (some ⟨rb,0,none⟩) 4 rc)/\rn=4/\oa=0/\oc=0/\w.cell? ⟨rb,1,none⟩=some (.int .i64 (zi (S i).rs 1))/\w.frozen? ⟨rb,1,none⟩=false/\P g/\P rb/\rb<w.heap.size/\g<w.heap.size/\LS (w.setCell ⟨rb,1,none⟩ (.int .i64 x)) P v n vs (fun j=>if j=i then ⟨(S i).p,(S i).rs.set 1 x,(S i).os,(S i).c⟩ else S j):=by
 obtain ⟨g,cap,rfl,hPg,hg,⟨a1,c1,a2,c2,ev,-,hc1,-,-⟩,-⟩:=o.cell hi;have hso:=o.own i hi;rw [ev] at hso;obtain ⟨o1,o2,hap⟩:=hso.parts;obtain ⟨rb,cap1,er,hb1,hb2⟩:=o1.block (by rw [h2];omega)
 have hhas:qam (vs i) rb:=by
  rw [ev];exact qjp (by rw [er];rfl)
 rw [h2] at er;simp only [Value.slice.injEq] at er;obtain ⟨rfl,-,ec⟩:=er;subst ec;have o1':OwnI w 0 (.slice (some ⟨rb,0,none⟩) (S i).rs.length c1) (S i).rs:=o1;have hcell:=o1'.cell (j:=1) (by rw [h2];omega);have hfr:=o1'.frozen 1;rw [h2] at hc1;refine ⟨g,cap,rb,4,c1,0,0,rfl,hc1,rfl,rfl,rfl,hcell,hfr,hPg,o.ob i hi rb hhas,hb2,hg,?_⟩;have hkeep:∀ k,k≠rb->(w.setCell ⟨rb,1,none⟩ (.int .i64 x)).heap[k]? = w.heap[k]?:=fun k hk=>zO _ _ _ _ hk;refine ⟨qat o.row fun k hk=>hkeep k fun e=>o.ra i hi rb hhas (by rw [<- e];exact hk),fun j hj=>?_,o.rb,o.ob,o.ra,o.oa⟩;by_cases ej:j=i
 ·subst ej
  simp only [if_true];have hs:=(o1'.set (n:=(S j).rs.length) rfl 1 x).1;rw [ev];exact ⟨_,_,rfl,hs,o2.blk fun k hk=>hkeep k fun e=>hap rb rfl (by rw [<- e];exact hk),hap⟩
 ·simp only [if_neg ej]
  exact (o.own j hj).blk fun k hk=>hkeep k fun e=>o.oa i j hi hj (fun h=>ej h.symm) rb hhas (by rw [<- e];exact hk)
theorem qvo {w:World} {B n c sz:Nat} {e:TypeId} {a:Option Addr} {xs:List Value} (o:w.ownsRow B e sz (.slice a n c) n xs) (hl:xs.length=n*sz):Src w a xs:=by
 rcases o.2 with ⟨e1,h0⟩ | ⟨g,cap,cur,e1,hb,_⟩
 ·exact .inl (List.eq_nil_of_length_eq_zero (by rw [hl,h0,Nat.zero_mul]))
 ·simp only [Value.slice.injEq] at e1
  obtain ⟨rfl,-,rfl⟩:=e1;refine .inr ⟨g,0,rfl,(o.lt g rfl).2,fun j u hj=>?_⟩
  have hlt:j<xs.length:=by
   rcases Nat.lt_or_ge j xs.length with h | h
   ·exact h
   ·rw [List.getElem?_eq_none h] at hj
    cases hj
  rw [Nat.zero_add,World.ownsRow.cellAt o j (by omega)];exact hj
theorem qle (f:Nat->List Value):∀ n,flat f (n+1)=f 0 ++ flat (fun i=>f (i+1)) n
 | 0=>by simp [flat]
 | n+1=>by
  rw [flat,qle f n,List.append_assoc];rfl
theorem qvh (H:Nat->I2) (x:I2) (n:Nat):fT (fun i=>if i=0 then x else H (i - 1)) (n+1)=cT x ++ fT H n:=by
 show flat (fun i=>cT (if i=0 then x else H (i - 1))) (n+1)=_;rw [qle];rfl
def SysIn.shift (x:SysIn) (A:Option Addr) (C:Nat):SysIn:={ x with wa:=A,wn:=x.wn - 1,wc:=C,wA:=fun i=>x.wA (i+1),wL:=fun i=>x.wL (i+1),wC:=fun i=>x.wC (i+1),wH:=fun i=>x.wH (i+1) }
theorem SysG.shift {w:World} {x:SysIn} (h:SysG w x) {g:Nat} {A:Option Addr} {C:Nat} (hw:x.wa=some ⟨g,0,none⟩) (hA:x.wn<=1\/A=some ⟨g,1,none⟩):SysG w (x.shift A C):=by
 refine ⟨h.p,h.pi,h.s,?_,fun i hi=>h.wi (i+1) (by have h1:i<x.wn - 1:=hi;omega),h.h,h.hi⟩;show RowS w A (x.wn - 1) fun i=>.slice (x.wA (i+1)) (x.wL (i+1)) (x.wC (i+1))
 rcases hA with h1 | rfl
 ·exact .inl (by omega)
 ·rcases h.w with h0 | ⟨b,off,e,hlt,hc⟩
  ·exact .inl (by omega)
  ·rw [hw] at e
   simp only [Option.some.injEq,Addr.mk.injEq] at e;obtain ⟨rfl,rfl,-⟩:=e;refine .inr ⟨g,1,rfl,hlt,fun i hi=>?_⟩;have:=hc (i+1) (by omega)
   rwa [show 0+(i+1)=1+i by omega] at this
theorem SysX.shift {w:World} {B T:Nat} {x:SysIn} (h:SysX w B T x) {g:Nat} {A:Option Addr} {C:Nat} (hw:x.wa=some ⟨g,0,none⟩) (hA:x.wn<=1\/A=some ⟨g,1,none⟩):SysX w B T (x.shift A C):=
 ⟨fun w' hb=>(h.g w' hb).shift hw hA,h.cap,⟨fun i hi=>h.nn.w (i+1) (by have h1:i<x.wn - 1:=hi;omega),h.nn.h⟩⟩
def Sy.setP (y:Sy) (i m:Nat) (H:Nat->I5):Sy:={ y with pL:=fun j=>if j=i then m else y.pL j,pH:=fun j=>if j=i then H else y.pH j }
theorem OwnS.putP {z:Bool} {w w1:World} {B:Nat} {c:Nat->Nat} {y:Sy} {vs vw vh:Value} {g cap:Nat} {up us uw uh:Nat->Value} (o:OwnS z w B c y (.slice (some ⟨g,0,none⟩) y.pn cap) vs vw vh up us uw uh) {i:Nat} (hi:i<y.pn) {u':Value} {m:Nat} {H':Nat->I5} (hB:B<=w.heap.size) (hs:w.heap.size<=w1.heap.size) (g1:∀ k,k<w.heap.size->(up i).ownBlock≠some k->w1.heap[k]? = w.heap[k]?)
  (hu:w1.ownsRow 0 85 5 u' m (fI H' m)) (hne:u'≠.slice none 0 0) (hb:∀ k,u'.ownBlock=some k->(up i).ownBlock=some k\/w.heap.size<=k):
  OwnS z (w1.setCell ⟨g,i,none⟩ u') B (rcol c w.heap.size 1) (y.setP i m H') (.slice (some ⟨g,0,none⟩) y.pn cap) vs vw vh (fun j=>if j=i then u' else up j) us uw uh:=by
 have hP:∀ q k,Cl B c q k->k<w.heap.size->Cl B (rcol c w.heap.size 1) q k:=fun q k h hl=>h.old hl;have hg:Cl B c 1 g:=o.p.rb g rfl
 have hk:∀ q,q≠1->∀ k,Cl B (rcol c w.heap.size 1) q k->k<w.heap.size->(w1.setCell ⟨g,i,none⟩ u').heap[k]? = w.heap[k]?:=fun q hq k h hl=>by
  have e:c k=q:=(qa1 hl).symm.trans h.2;refine (zO _ _ _ _ fun ek=>hq ?_).trans (g1 k hl fun ek=>hq ?_)
  ·rw [<- e,ek];exact hg.2
  ·rw [<- e];exact (o.p.ob i hi k ek).2
 refine ⟨?_,(o.s.mono (hP 2)).keep (hk 2 (by decide)),(o.t.mono (hP 3)).keep (hk 3 (by decide)),(o.h.mono (hP 4)).keep (hk 4 (by decide))⟩;have h:=LL.put o.p hi hs g1 hu (fun _=>hne) hb (P':=Cl B (rcol c w.heap.size 1) 1) (hP 1) fun k h _=>⟨zP hB h,qah h⟩
 have e:(fun j=>if j=i then fI H' m else fI (y.pH j) (y.pL j))=fun j=>fI ((y.setP i m H').pH j) ((y.setP i m H').pL j):=funext fun j=>by
  by_cases q:j=i
  ·simp [Sy.setP,q]
  ·simp [Sy.setP,q]
 rw [e] at h;exact h
def World.cut (w:World) (n:Nat):World:={ w with heap:=w.heap.extract 0 n }
theorem qhj (w:World) {n:Nat} (h:n<=w.heap.size):(World.cut w n).heap.size=n:=by simp [World.cut];omega
theorem qk7 (w:World) {n k:Nat} (h:n<=w.heap.size) (hk:k<n):(World.cut w n).heap[k]? = w.heap[k]?:=by
 simp only [World.cut];rw [Array.getElem?_extract];simp;omega
def DrwS (w:World) (W0 c:Nat) (a0:Option Addr) (len cap:Nat) (e:Ending) (w':World):Prop:=∃ (x:SysIn) (B T:Nat),e=.returned x.v/\x.y.Sm/\SysX w' B T x/\Cur w' W0 c a0 len cap/\w.grownBy w' (some c)/\c<B/\T<=w'.heap.size
theorem SysX.keep {w w':World} {B T:Nat} {x:SysIn} (h:SysX w B T x) (hs:w.heap.size<=w'.heap.size) (hb:∀ b,B<=b->b<T->b<w.heap.size->w'.heap[b]? = w.heap[b]?):SysX w' B T x:=
 ⟨fun w2 h2=>h.g w2 fun b h1 h3 h4=>(h2 b h1 h3 (by omega)).trans (hb b h1 h3 h4),h.cap,h.nn⟩
def qvt (w:World) (W0 c:Nat) (a0:Option Addr) (len cap:Nat) (e:Ending) (w':World):Prop:=∃ (x:SysIn) (B T:Nat),e=.returned x.v/\x.y.Sm/\SysX w' B T x/\Cur w' W0 c a0 len cap/\w.grownBy w' (some c)/\(c<B/\w.heap.size<=B)/\T<=w'.heap.size
theorem DrwS.fin {w wz:World} {W0 c len cap N B T:Nat} {a0:Option Addr} {x:SysIn} (hX:SysX wz B T x) (hs:x.y.Sm) (hc:Cur wz W0 c a0 len cap) (hg:w.grownBy wz (some c)) (hcB:c<B) (hN:N<B) (hNw:w.heap.size<=N) (hcN:c≠N) (hW:W0<=N) (hT:T<=wz.heap.size) (u0 u1 u2 u3:Value):qvt w W0 c a0 len cap (.returned x.v) ((((wz.setCell ⟨N,0,none⟩ u0).setCell ⟨N,1,none⟩ u1).setCell ⟨N,2,none⟩ u2).setCell ⟨N,3,none⟩ u3):=by
 have h1:∀ (wx:World) (j:Nat) (u:Value),SysX wx B T x/\Cur wx W0 c a0 len cap/\w.grownBy wx (some c)/\T<=wx.heap.size->SysX (wx.setCell ⟨N,j,none⟩ u) B T x/\Cur (wx.setCell ⟨N,j,none⟩ u) W0 c a0 len cap/\w.grownBy (wx.setCell ⟨N,j,none⟩ u) (some c)/\T<=(wx.setCell ⟨N,j,none⟩ u).heap.size:=fun wx j u ⟨a,b,d,e⟩=>by
  have hgg:wx.grownBy (wx.setCell ⟨N,j,none⟩ u) (some N):=zV (World.grownBy.refl _ _) (.inl rfl) u;exact ⟨a.keep (by simp) fun b hb _ hl=>hgg.block b hl (by simp;omega),b.kept hgg (fun e=>hcN (by simpa using e)) (fun k hk=>by cases hk;exact hW),d.andThen hgg (fun k hk=>by cases hk;exact .inl hNw),by simpa using e⟩
 obtain ⟨a,b,d,e⟩:=h1 _ 3 u3 (h1 _ 2 u2 (h1 _ 1 u1 (h1 _ 0 u0 ⟨hX,hc,hg,hT⟩)));exact ⟨x,B,T,rfl,hs,a,b,d,⟨hcB,by omega⟩,e⟩
theorem qex {pa sa wa ha:Option Addr} {pn pc sn sc wn wc hn hc:Nat} {vp vs vw vh:Value} (h:sysV pa pn pc sa sn sc wa wn wc ha hn hc=.agg #[vp,vs,vw,vh]):vp=.slice pa pn pc/\vs=.slice sa sn sc/\vw=.slice wa wn wc/\vh=.slice ha hn hc:=by
 simp only [sysV,Value.agg.injEq,Array.mk.injEq,List.cons.injEq,and_true] at h;exact ⟨h.1.symm,h.2.1.symm,h.2.2.1.symm,h.2.2.2.symm⟩
structure KX (w wr:World) (W0 c:Nat) (a0:Option Addr) (len cap N B T:Nat) (col:Nat->Nat) (y:Sy) (vp vs vw vh:Value) (up us uw uh:Nat->Value):Prop where
 cu:Cur wr W0 c a0 len cap
 gr:w.grownBy wr (some c)
 ow:OwnS false wr B col y vp vs vw vh up us uw uh
 b4:Bx wr w.heap.size (.slice none 0 0) (.slice none 0 0) (.slice none 0 0) (.slice none 0 0)
 b5:Bx wr N vp vs vw vh
 tp:∀ b,T<=b->col b=0
 sz:c<w.heap.size/\w.heap.size<B/\T<=N/\w.heap.size<N
section
variable {w wr w':World} {W0 c len cap N B T:Nat} {a0:Option Addr} {col:Nat->Nat} {y:Sy} {vp vs vw vh:Value} {up us uw uh:Nat->Value}
theorem OwnS.kept {z:Bool} (o:OwnS z wr B col y vp vs vw vh up us uw uh) (h:∀ k,B<=k->k<wr.heap.size->w'.heap[k]? = wr.heap[k]?):OwnS z w' B col y vp vs vw vh up us uw uh:=
 ⟨o.p.keep fun k hk hl=>h k hk.1 hl,o.s.keep fun k hk hl=>h k hk.1 hl,o.t.keep fun k hk hl=>h k hk.1 hl,o.h.keep fun k hk hl=>h k hk.1 hl⟩
theorem KX.draw (h:KX w wr W0 c a0 len cap N B T col y vp vs vw vh up us uw uh) (hc:Cur w' W0 c a0 len cap) (hg:wr.grownBy w' (some c)):KX w w' W0 c a0 len cap N B T col y vp vs vw vh up us uw uh:=
 ⟨hc,h.gr.trans hg,h.ow.kept fun k hk hl=>hg.block k hl (by have:=h.sz;simp;omega),h.b4.grown hg (by have:=h.sz;simp;omega),h.b5.grown hg (by have:=h.sz;simp;omega),h.tp,h.sz⟩
theorem KX.below (h:KX w wr W0 c a0 len cap N B T col y vp vs vw vh up us uw uh) (hb:Below wr.heap.size wr w'):KX w w' W0 c a0 len cap N B T col y vp vs vw vh up us uw uh:=
 ⟨h.cu.kept (zZ hb) (by simp) (fun k hk=>by cases hk),h.gr.andThen (zZ hb) (fun j hj=>by cases hj),h.ow.below hb,h.b4.below hb,h.b5.below hb,h.tp,h.sz⟩
theorem KX.apart (h:KX w wr W0 c a0 len cap N B T col y vp vs vw vh up us uw uh) {i g:Nat} (hi:i≠0) (hg:Cl B col i g):g≠c/\g≠w.heap.size/\g≠N/\w.heap.size<g:=by
 have h1:B<=g:=hg.1;have h2:col g=i:=hg.2
 have h3:g<T:=by
  apply Classical.byContradiction;intro hn;have:=h.tp g (by omega);omega
 have:=h.sz;omega
end
theorem qm7 (W0 c len cap:Nat) (a0:Option Addr) (w:World) (hc:Cur w W0 c a0 len cap):
  Calls Tryz.prog 43 #[.pointer (some ⟨c,0,none⟩),.slice a0 len cap] w (qvt w W0 c a0 len cap):=by
 have hcl:c<w.heap.size:=hc.lt;have hcg:W0<=c:=hc.ge;have C0:Hid (Cur (w.alloc (zQ3)) W0 c a0 len cap/\w.grownBy (w.alloc (zQ3)) (some c)/\Bx (w.alloc (zQ3)) w.heap.size (.slice none 0 0) (.slice none 0 0) (.slice none 0 0) (.slice none 0 0)/\(w.alloc (zQ3)).heap.size=w.heap.size+1):=⟨hc.alloc _,World.grownBy_alloc _ _ _,Bx.new w _ _ _ _ _,by simp⟩
 clear hc
 go_enter Tryz.func43,Tryz.ntmps43
 go_wp2_with fail
 generalize w.alloc (zQ3)=W2 at *;refine (qh5 W0 c len cap a0 W2 C0.1).mono ?_;rintro e w1 ⟨B,T,y,pa,sa,wa,ha,pc,sc,wc,hh,rfl,gd,dk,hB,hT⟩;have KA:Hid (DK w (w1.alloc (oQ4 pa y.pn pc sa y.sn sc wa y.wn wc ha y.hn hh)) W0 c a0 len cap B T y (sysV pa y.pn pc sa y.sn sc wa y.wn wc ha y.hn hh)/\Bx (w1.alloc (oQ4 pa y.pn pc sa y.sn sc wa y.wn wc ha y.hn hh)) w.heap.size (.slice none 0 0) (.slice none 0 0) (.slice none 0 0) (.slice none 0 0)/\Bx (w1.alloc (oQ4 pa y.pn pc sa y.sn sc wa y.wn wc ha y.hn hh)) w1.heap.size (.slice pa y.pn pc) (.slice sa y.sn sc) (.slice wa y.wn wc) (.slice ha y.hn hh)):=⟨DK.alloc ⟨dk.cu,dk.sy,C0.2.1.trans dk.gr,dk.lt⟩ _,(C0.2.2.1.grown dk.gr (by simp;omega)).below (zQ _ _),Bx.new _ _ _ _ _ _⟩
 have HS:Hid (w.heap.size<B/\T<=w1.heap.size/\w.heap.size<w1.heap.size):=⟨by have:=C0.2.2.2;omega,hT,by have:=C0.2.2.2;have:=dk.gr.size;omega⟩
 have HG:Hid y.Good:=gd;have hpn:y.pn<=16:=gd.sm.n.1;have hpn':(y.pn:Int)<=16:=by omega
 clear gd dk hB hT C0;go_wp2_with fail
 generalize w1.alloc (oQ4 pa y.pn pc sa y.sn sc wa y.wn wc ha y.hn hh)=wA at *;generalize w1.heap.size=N at *;refine (qh4 _ _ _).mono ?_;rintro e wB ⟨n,rfl,⟨n1,n2,n3⟩,rfl⟩;go_wp2_with fail
 refine (zY W0 c len cap a0 n wB KA.1.cu n2 (by omega)).mono ?_;rintro e w2 ⟨pp,rfl,⟨p0,p1⟩,hc2,hg2⟩;have KB:Hid (DK w w2 W0 c a0 len cap B T y (sysV pa y.pn pc sa y.sn sc wa y.wn wc ha y.hn hh)/\Bx w2 w.heap.size (.slice none 0 0) (.slice none 0 0) (.slice none 0 0) (.slice none 0 0)/\Bx w2 N (.slice pa y.pn pc) (.slice sa y.sn sc) (.slice wa y.wn wc) (.slice ha y.hn hh)):=⟨KA.1.draw hc2 hg2,KA.2.1.grown hg2 (by simp;omega),KA.2.2.grown hg2 (by have:=HS.out;simp;omega)⟩
 clear hc2 hg2 KA;obtain ⟨p,rfl⟩:∃ p:Nat,pp=p:=⟨pp.toNat,by omega⟩
 have hNN:w.heap.size≠N:=by have:=HS.out;omega
 by_cases h0:y.pn=0
 ·have h0':((y.pn:Int) == 0)=true:=by simp [h0]
  clear h0;obtain ⟨⟨r0,r1,r2,r3⟩,rf⟩:=KB.2.1;obtain ⟨⟨b0,b1,b2,b3⟩,-⟩:=KB.2.2;go_wp2;obtain ⟨x,ev,ey,hX⟩:=KB.1.sy.x;refine bodyPost_ret (v:=(sysV pa y.pn pc sa y.sn sc wa y.wn wc ha y.hn hh)) (by simp [results,Tryz.results43,go_sem,r0,r1,r2,r3]) rfl ?_;rw [ev];exact DrwS.fin hX (by rw [ey];exact HG.out.sm) KB.1.cu KB.1.gr KB.1.lt HS.1 (Nat.le_refl _) (by omega) (by omega) (by have:=KB.2.2.lt;have:=HS.out;omega) _ _ _ _
 have h0':((y.pn:Int) == 0)=false:=by
  have:¬ (y.pn:Int)=0:=by omega
  simpa using this
 have HO:Hid y.Ok:=HG.out.elim id fun h=>absurd h.1 h0;have hpp:p<y.pn:=by omega
 obtain ⟨b0,-,-,-⟩:=KB.2.2.bx;go_wp2_with fail
 clear b0;refine (zY W0 c len cap a0 25 w2 KB.1.cu (by omega) (by omega)).mono ?_;rintro e w3 ⟨jj,rfl,⟨j0,j1⟩,hc3,hg3⟩;have KC:Hid (DK w w3 W0 c a0 len cap B T y (sysV pa y.pn pc sa y.sn sc wa y.wn wc ha y.hn hh)/\Bx w3 w.heap.size (.slice none 0 0) (.slice none 0 0) (.slice none 0 0) (.slice none 0 0)/\Bx w3 N (.slice pa y.pn pc) (.slice sa y.sn sc) (.slice wa y.wn wc) (.slice ha y.hn hh)):=⟨KB.1.draw hc3 hg3,KB.2.1.grown hg3 (by simp;omega),KB.2.2.grown hg3 (by have:=HS.out;simp;omega)⟩
 clear hc3 hg3 KB HG;by_cases e0:jj=0
 ·subst e0
  obtain ⟨col,vp,vs,vw,vh,up,us,uw,uh,ev,o,ht⟩:=KC.1.sy;obtain ⟨rfl,rfl,rfl,rfl⟩:=qex ev;have hsn:y.sn=y.pn:=HO.out.cn.2.1;have hps:p<y.sn:=by omega
  have hps':(p:Int)<(y.sn:Int):=by omega
  clear hsn;obtain ⟨g,cg,rb,rn,rc,oa,oc,eg,cr,-,-,-,cz,fz,Pg,Pr,lr,lg,ls⟩:=o.s.reg hps (HO.out.st (p:=p) hpp).len.1 5;simp only [Value.slice.injEq] at eg;obtain ⟨rfl,-,rfl⟩:=eg
  have hrT:rb<T:=by
   apply Classical.byContradiction;intro hn;have h1:=ht rb (by omega);have h2:col rb=2:=Pr.2;omega
  have hrN:N≠rb:=by have:=HS.out;omega
  have hrM:w.heap.size≠rb:=by have h1:B<=rb:=Pr.1;have:=HS.out;omega
  have hrc:c≠rb:=by have h1:B<=rb:=Pr.1;have:=HS.out;omega
  obtain ⟨⟨r0,r1,r2,r3⟩,rf⟩:=(KC.2.1.set (j:=1) (u:=.int .i64 5) hrM)
  obtain ⟨⟨b0,b1,b2,b3⟩,-⟩:=(KC.2.2.set (j:=1) (u:=.int .i64 5) hrN)
  obtain ⟨⟨e0,e1,e2,e3⟩,-⟩:=KC.2.2
  have SZ:Hid (SysT (w3.setCell ⟨rb,1,none⟩ (.int .i64 5)) B T (y.setS p ⟨(y.sS p).p,(y.sS p).rs.set 1 5,(y.sS p).os,(y.sS p).c⟩) (sysV pa y.pn pc (some ⟨g,0,none⟩) y.sn sc wa y.wn wc ha y.hn hh)):=by
   have hk:∀ q,q≠2->∀ k,Cl B col q k->k<w3.heap.size->(w3.setCell ⟨rb,1,none⟩ (.int .i64 5)).heap[k]? = w3.heap[k]?:=fun q hq k hk _=>zO _ _ _ _ fun e=>hq (by rw [<- hk.2,show k=rb from e];exact Pr.2);exact ⟨col,_,_,_,_,up,us,uw,uh,rfl,⟨o.p.keep (hk 1 (by decide)),ls,o.t.keep (hk 3 (by decide)),o.h.keep (hk 4 (by decide))⟩,ht⟩
  have SM:Hid (y.setS p ⟨(y.sS p).p,(y.sS p).rs.set 1 5,(y.sS p).os,(y.sS p).c⟩).Sm:=by
   have hm:=HO.out.sm;refine ⟨hm.n,hm.p,fun i hi=>?_,hm.w,hm.h⟩;show ((if i=p then _ else y.sS i:S4)).rs.length<=1000/\((if i=p then _ else y.sS i:S4)).os.length<=1000;by_cases ei:i=p
   ·subst ei
    simp only [if_true,List.length_set];exact hm.s i hi
   ·rw [if_neg ei]
    exact hm.s i hi
  have KZ:Hid (Cur (w3.setCell ⟨rb,1,none⟩ (.int .i64 5)) W0 c a0 len cap/\w.grownBy (w3.setCell ⟨rb,1,none⟩ (.int .i64 5)) (some c)):=by
   have hgg:w3.grownBy (w3.setCell ⟨rb,1,none⟩ (.int .i64 5)) (some rb):=zV (World.grownBy.refl _ _) (.inl rfl) _;have h1:B<=rb:=Pr.1;have:=HS.out;exact ⟨KC.1.cu.kept hgg (fun e=>hrc (by simpa using e)) (fun k hk=>by cases hk;omega),KC.1.gr.andThen hgg (fun k hk=>by cases hk;exact .inl (by omega))⟩
  clear o ht ls ev;go_upto_region 20 with fail
  clear e0 e1 e2 e3 cr cz fz;generalize w3.setCell ⟨rb,1,none⟩ (.int .i64 5)=wz at *;go_wp2;obtain ⟨x,ev,ey,hX⟩:=SZ.out.x;refine bodyPost_ret (v:=(sysV pa y.pn pc (some ⟨g,0,none⟩) y.sn sc wa y.wn wc ha y.hn hh)) (by simp [results,Tryz.results43,go_sem,r0,r1,r2,r3]) rfl ?_;rw [show (sysV pa y.pn pc (some ⟨g,0,none⟩) y.sn sc wa y.wn wc ha y.hn hh)=x.v from ev];exact DrwS.fin hX (by rw [ey];exact SM.out) KZ.1 KZ.2 KC.1.lt HS.1 (Nat.le_refl _) (by omega) (by omega) (by have:=zJ wz _ b0;have:=HS.out;simp at *;omega) _ _ _ _
 have t0:(jj == 0)=false:=by simpa using e0
 by_cases e1:jj=1
 ·subst e1
  clear t0 e0;obtain ⟨col,vp,vs,vw,vh,up,us,uw,uh,ev,o,ht⟩:=KC.1.sy;obtain ⟨rfl,rfl,rfl,rfl⟩:=qex ev;have hsn:y.sn=y.pn:=HO.out.cn.2.1;have hhn:y.hn=y.pn:=HO.out.cn.2.2.1;have hph:p<y.hn:=by omega
  have hph':(p:Int)<(y.hn:Int):=by omega
  clear hsn hhn;have KX3:Hid (KX w w3 W0 c a0 len cap N B T col y (.slice pa y.pn pc) (.slice sa y.sn sc) (.slice wa y.wn wc) (.slice ha y.hn hh) up us uw uh):=⟨KC.1.cu,KC.1.gr,o,KC.2.1,KC.2.2,ht,hcl,HS.1,HS.2.1,HS.2.2⟩
  clear o ht ev KC;obtain ⟨g,chh,eh,Pg,lg,cg,fg⟩:=KX3.out.ow.h.cell hph;simp only [Value.slice.injEq] at eh;obtain ⟨rfl,-,rfl⟩:=eh;obtain ⟨ua,uc,eu⟩:=zU (KX3.out.ow.h.own p hph);rw [eu] at cg;have hN3:=KX3.out.b5.bx.2.2.2;have hlp:y.hL p<=200:=HO.out.le200 hpp;have AP:Hid (g≠c/\g≠w.heap.size/\g≠N/\w.heap.size<g):=KX3.out.apart (by decide) Pg;go_upto_region 9 with fail
  refine qaj (fun w'=>w'.cell? ⟨N,3,none⟩=some (.slice (some ⟨g,0,none⟩) y.hn hh)/\w'.cell? ⟨g,p,none⟩=some (.slice ua (y.hL p) uc)) (fun i=>i == 18) (by kernel_rfl) ?_;have hHeld:=And.intro hN3 cg;refine qax [0,1,2,3,4,5,6,7,8,10,12] ?_;iterate 11 (refine qa8 rfl hHeld ?_)
  refine qao ?_;refine qaa 9 rfl (by kernel_rfl) (fun K hK=>?_);refine qae rfl 44 _ _ rfl #[.pointer (some ⟨c,0,none⟩),.int .i64 5] (by simp [Act.eval]) (yB Tryz.func44 (by kernel_rfl) rfl) (zY W0 c len cap a0 5 w3.drew KX3.out.cu.drew (by omega) (by omega)) ?_;rintro e w4 ⟨k1,rfl,-,hc9,hg9⟩;refine ⟨_,rfl,?_⟩;have hg9':w3.grownBy w4 (some c):=⟨hg9.os,hg9.tape,hg9.output,hg9.size,hg9.block⟩
  have KX4:Hid (KX w w4 W0 c a0 len cap N B T col y (.slice pa y.pn pc) (.slice sa y.sn sc) (.slice wa y.wn wc) (.slice (some ⟨g,0,none⟩) y.hn hh) up us uw uh):=KX3.out.draw hc9 hg9';have hHeld:=And.intro KX4.out.b5.bx.2.2.2 ((zH (hg9'.block g lg (by have:=AP.out;simp;omega))).trans hHeld.2);have lg4:g<w4.heap.size:=zL lg hg9'.size;refine hK.out _ _ (fun _=>hHeld) ?_;clear hc9 hg9 hg9';clear hK K
  (try simp only [Act.put,zD,zE,zF])
  refine qaa 11 rfl (by kernel_rfl) (fun K hK=>?_);refine qae rfl 44 _ _ rfl #[.pointer (some ⟨c,0,none⟩),.int .i64 3] (by simp [Act.eval]) (yB Tryz.func44 (by kernel_rfl) rfl) (zY W0 c len cap a0 3 w4 KX4.out.cu (by omega) (by omega)) ?_;rintro e w5 ⟨k2,rfl,-,hc9,hg9⟩;refine ⟨_,rfl,?_⟩;have hg9':w4.grownBy w5 (some c):=⟨hg9.os,hg9.tape,hg9.output,hg9.size,hg9.block⟩
  have KX5:Hid (KX w w5 W0 c a0 len cap N B T col y (.slice pa y.pn pc) (.slice sa y.sn sc) (.slice wa y.wn wc) (.slice (some ⟨g,0,none⟩) y.hn hh) up us uw uh):=KX4.out.draw hc9 hg9';have hHeld:=And.intro KX5.out.b5.bx.2.2.2 ((zH (hg9'.block g lg4 (by have:=AP.out;simp;omega))).trans hHeld.2);have lg5:g<w5.heap.size:=zL lg4 hg9'.size;refine hK.out _ _ (fun _=>hHeld) ?_;clear hc9 hg9 hg9';clear hK K
  (try simp only [Act.put,zD,zE,zF])
  refine qaa 13 rfl (by kernel_rfl) (fun K hK=>?_);refine qae rfl 44 _ _ rfl #[.pointer (some ⟨c,0,none⟩),.int .i64 4] (by simp [Act.eval]) (yB Tryz.func44 (by kernel_rfl) rfl) (zY W0 c len cap a0 4 w5 KX5.out.cu (by omega) (by omega)) ?_;rintro e w6 ⟨k3,rfl,-,hc9,hg9⟩;refine ⟨_,rfl,?_⟩;have hg9':w5.grownBy w6 (some c):=⟨hg9.os,hg9.tape,hg9.output,hg9.size,hg9.block⟩
  have KX6:Hid (KX w w6 W0 c a0 len cap N B T col y (.slice pa y.pn pc) (.slice sa y.sn sc) (.slice wa y.wn wc) (.slice (some ⟨g,0,none⟩) y.hn hh) up us uw uh):=KX5.out.draw hc9 hg9';have hHeld:=And.intro KX6.out.b5.bx.2.2.2 ((zH (hg9'.block g lg5 (by have:=AP.out;simp;omega))).trans hHeld.2);have lg6:g<w6.heap.size:=zL lg5 hg9'.size;refine hK.out _ _ (fun _=>hHeld) ?_;clear hc9 hg9 hg9';clear hK K
  (try simp only [Act.put,zD,zE,zF])
  refine qbl 14 rfl hHeld ?_;refine qaa 15 rfl (by kernel_rfl) (fun K hK=>?_);go_simp;have hca:=(qag (zQ w6 (oQ0 k1 k2 k3))).1;refine hK.out _ _ (fun _=>⟨(hca _ _ KX6.out.b5.lt).trans hHeld.1,(hca _ _ lg6).trans hHeld.2⟩) ?_;clear hca;clear hK K
  (try simp only [Act.put,zD,zE,zF])
  refine qaa 16 rfl (by kernel_rfl) (fun K hK=>?_)
  have OH2:w6.ownsRow 0 61 3 (.slice ua (y.hL p) uc) (y.hL p) (fE (y.hH p) (y.hL p)):=by
   have:=KX6.out.ow.h.own p hph;rw [eu] at this;exact this
  refine qaz kndE w6 rfl rfl _ _ rfl 0 (.slice ua (y.hL p) uc) (y.hL p) _ rfl OH2 #[.int .i64 k1,.int .i64 k2,.int .i64 k3] rfl rfl (by intro u hu;simp at hu;rcases hu with rfl | rfl | rfl <;> rfl) (by omega) (Nat.zero_le _) ?_;intro v8 w8 o8 g8 q8 n8;obtain ⟨a8,c8,rfl⟩:=zU o8;have hob:∀ k,(Value.slice ua (y.hL p) uc).ownBlock=some k->Cl B col 4 k:=fun k hk=>KX6.out.ow.h.ob p hph k (by rw [eu];exact hk);have hgne:(Value.slice ua (y.hL p) uc).ownBlock≠some g:=fun e=>KX6.out.ow.h.ra p hph g (by rw [eu];exact e) rfl;have hb8:∀ k,k<w6.heap.size->(Value.slice ua (y.hL p) uc).ownBlock≠some k->w8.heap[k]? = w6.heap[k]?:=fun k h1 h2=>g8.block k h1 fun e=>h2 e.symm;have hap:∀ k,(Value.slice ua (y.hL p) uc).ownBlock=some k->k≠c/\k≠w.heap.size/\k≠N/\w.heap.size<k:=fun k hk=>KX6.out.apart (by decide) (hob k hk);have hHeld:=And.intro ((zH (hb8 N KX6.out.b5.lt (fun e=>(hap N e).2.2.1 rfl))).trans hHeld.1) ((zH (hb8 g lg6 hgne)).trans hHeld.2)
  have hfg:w8.frozen? ⟨g,p,none⟩=false:=by
   obtain ⟨g',cap',e',-,-,-,fr'⟩:=KX6.out.ow.h.cell hph;simp only [Value.slice.injEq,Option.some.injEq,Addr.mk.injEq,and_true,true_and] at e';rw [zI (hb8 g lg6 hgne),e'.1];exact fr' p
  have SZ:Hid (SysT (w8.setCell ⟨g,p,none⟩ (.slice a8 (y.hL p+1) c8)) B w8.heap.size (y.setH p (y.hL p+1) (fun i=>if i=y.hL p then ⟨k1,k2,k3⟩ else y.hH p i)) (sysV pa y.pn pc sa y.sn sc wa y.wn wc (some ⟨g,0,none⟩) y.hn hh)):=by
   have h:=OwnS.putH KX6.out.ow hph (u':=.slice a8 (y.hL p+1) c8) (m:=y.hL p+1) (H':=fun i=>if i=y.hL p then ⟨k1,k2,k3⟩ else y.hH p i) (w1:=w8) (by have h1:B<=g:=Pg.1;omega) g8.size (fun k h1 h2=>hb8 k h1 (by rw [eu] at h2;exact h2)) (by rw [qqq];exact o8) n8 (fun k hk=>(q8 k hk).imp (fun h=>by rw [eu];exact h) id);have h2:=h.sysT;rw [World.size_setCell] at h2;exact h2
  have KZ:Hid (Cur (w8.setCell ⟨g,p,none⟩ (.slice a8 (y.hL p+1) c8)) W0 c a0 len cap/\w.grownBy (w8.setCell ⟨g,p,none⟩ (.slice a8 (y.hL p+1) c8)) (some c)/\Bx (w8.setCell ⟨g,p,none⟩ (.slice a8 (y.hL p+1) c8)) w.heap.size (.slice none 0 0) (.slice none 0 0) (.slice none 0 0) (.slice none 0 0)/\Bx (w8.setCell ⟨g,p,none⟩ (.slice a8 (y.hL p+1) c8)) N (.slice pa y.pn pc) (.slice sa y.sn sc) (.slice wa y.wn wc) (.slice (some ⟨g,0,none⟩) y.hn hh)):=by
   have hgg:w8.grownBy (w8.setCell ⟨g,p,none⟩ (.slice a8 (y.hL p+1) c8)) (some g):=zV (World.grownBy.refl _ _) (.inl rfl) _;have hA:=AP.out;have hW:=KX6.out.cu.ge;refine ⟨(KX6.out.cu.kept g8 (fun e=>(hap c e.symm).1 rfl) (fun k hk=>by have:=hap k hk;omega)).kept hgg (fun e=>hA.1 (by simpa using e.symm)) (fun k hk=>by cases hk;omega),(KX6.out.gr.andThen g8 (fun k hk=>.inl (by have:=hap k hk;omega))).andThen hgg (fun k hk=>by cases hk;exact .inl (by omega)),(KX6.out.b4.grown g8 (fun e=>(hap _ e).2.1 rfl)).set (by omega),(KX6.out.b5.grown g8 (fun e=>(hap _ e).2.2.1 rfl)).set (by omega)⟩
  refine hK.out _ _ (fun _=>hHeld) ?_;clear o8 g8 q8 n8 hb8;clear hK K
  (try simp only [Act.put,zD,zE,zF])
  refine qbl 17 rfl hHeld ?_;refine qaa 18 rfl (by kernel_rfl) (fun K hK=>?_);have hcN:=hHeld.2;go_simp;refine hK.out _ _ (fun h=>?_) ?_
  ·exact absurd h (by decide)
  clear hK K
  (try simp only [Act.put,zD,zE,zF])
  refine qar (by kernel_rfl) ?_ _
  have SM:Hid (y.setH p (y.hL p+1) (fun i=>if i=y.hL p then ⟨k1,k2,k3⟩ else y.hH p i)).Sm:=by
   have hm:=HO.out.sm;refine ⟨hm.n,hm.p,hm.s,hm.w,fun i hi=>?_⟩;show (if i=p then y.hL p+1 else y.hL i)<=1000;by_cases ei:i=p
   ·rw [if_pos ei];omega
   ·rw [if_neg ei];exact hm.h i hi
  have hTz:w8.heap.size<=(w8.setCell ⟨g,p,none⟩ (.slice a8 (y.hL p+1) c8)).heap.size:=by simp
  generalize w8.setCell ⟨g,p,none⟩ (.slice a8 (y.hL p+1) c8)=wz at *;obtain ⟨⟨r0,r1,r2,r3⟩,rf⟩:=KZ.2.2.1;obtain ⟨⟨b0,b1,b2,b3⟩,-⟩:=KZ.2.2.2;have hsz:=KX3.out.sz;have hW:=KX3.out.cu.ge;clear hHeld;go_wp2;obtain ⟨x,ev,ey,hX⟩:=SZ.out.x;refine bodyPost_ret (v:=(sysV pa y.pn pc sa y.sn sc wa y.wn wc (some ⟨g,0,none⟩) y.hn hh)) (by simp [results,Tryz.results43,go_sem,r0,r1,r2,r3]) rfl ?_;rw [show (sysV pa y.pn pc sa y.sn sc wa y.wn wc (some ⟨g,0,none⟩) y.hn hh)=x.v from ev];exact DrwS.fin hX (by rw [ey];exact SM.out) KZ.1 KZ.2.1 (by omega) (by omega) (Nat.le_refl _) (by omega) (by omega) hTz _ _ _ _
 have t1:(jj == 1)=false:=by simpa using e1
 by_cases e2:jj=2
 ·subst e2
  clear t0 e0 t1 e1;obtain ⟨col,vp,vs,vw,vh,up,us,uw,uh,ev,o,ht⟩:=KC.1.sy;obtain ⟨rfl,rfl,rfl,rfl⟩:=qex ev;have hsn:y.sn=y.pn:=HO.out.cn.2.1;have hhn:y.hn=y.pn:=HO.out.cn.2.2.1;have hph:p<y.hn:=by omega
  have hph':(p:Int)<(y.hn:Int):=by omega
  clear hsn hhn;have KX3:Hid (KX w w3 W0 c a0 len cap N B T col y (.slice pa y.pn pc) (.slice sa y.sn sc) (.slice wa y.wn wc) (.slice ha y.hn hh) up us uw uh):=⟨KC.1.cu,KC.1.gr,o,KC.2.1,KC.2.2,ht,hcl,HS.1,HS.2.1,HS.2.2⟩
  clear o ht ev KC
  have hw1:1<=y.wn/\y.wn<=16:=by
   obtain ⟨⟨h1,h4⟩,-,-,hw⟩:=HO.out.cn;rw [hw];exact ⟨Nat.mul_le_mul h1 h1,zP (Nat.mul_le_mul h4 h4) (by omega)⟩
  have b2:=KX3.out.b5.bx.2.2.1;go_wp2_with fail
  refine (zY W0 c len cap a0 (y.wn:Nat) w3 KX3.out.cu (by omega) (by omega)).mono ?_;rintro e w4 ⟨ii,rfl,⟨i0,i1⟩,hc4,hg4⟩;have KX4:Hid (KX w w4 W0 c a0 len cap N B T col y (.slice pa y.pn pc) (.slice sa y.sn sc) (.slice wa y.wn wc) (.slice ha y.hn hh) up us uw uh):=KX3.out.draw hc4 hg4;clear hc4 hg4 b2;obtain ⟨iw,rfl⟩:∃ iw:Nat,ii=iw:=⟨ii.toNat,by omega⟩
  have hiw:iw<y.wn:=by omega
  have hiw':(iw:Int)<(y.wn:Int):=by omega
  have hlw:y.wL iw<=12:=HO.out.bds.2.2.1 iw hiw;obtain ⟨g,cww,eh,Pg,lg,cg,fg⟩:=KX4.out.ow.t.cell hiw;simp only [Value.slice.injEq] at eh;obtain ⟨rfl,-,rfl⟩:=eh;obtain ⟨ua,uc,eu⟩:=zU (KX4.out.ow.t.own iw hiw);rw [eu] at cg;have hN3:=KX4.out.b5.bx.2.2.1;have AP:Hid (g≠c/\g≠w.heap.size/\g≠N/\w.heap.size<g):=KX4.out.apart (by decide) Pg;go_upto_region 12 with fail
  refine qaj (fun w'=>w'.cell? ⟨N,2,none⟩=some (.slice (some ⟨g,0,none⟩) y.wn wc)/\w'.cell? ⟨g,iw,none⟩=some (.slice ua (y.wL iw) uc)) (fun i=>i == 16) (by kernel_rfl) ?_;have hHeld:=And.intro hN3 cg;refine qax [0,1,2,3,4,5,6,7,8,10] ?_;iterate 10 (refine qa8 rfl hHeld ?_)
  refine qao ?_;refine qaa 9 rfl (by kernel_rfl) (fun K hK=>?_);refine qae rfl 75 _ _ rfl #[.pointer (some ⟨c,0,none⟩),.int .i64 2] (by simp [Act.eval]) (yB Tryz.func75 (by kernel_rfl) rfl) (qb8 W0 c len cap a0 2 w4.drew KX4.out.cu.drew (by omega) (by omega)) ?_;rintro e w5 ⟨k1,rfl,hc9,hg9⟩;refine ⟨_,rfl,?_⟩;have hg9':w4.grownBy w5 (some c):=⟨hg9.os,hg9.tape,hg9.output,hg9.size,hg9.block⟩
  have KX5:Hid (KX w w5 W0 c a0 len cap N B T col y (.slice pa y.pn pc) (.slice sa y.sn sc) (.slice (some ⟨g,0,none⟩) y.wn wc) (.slice ha y.hn hh) up us uw uh):=KX4.out.draw hc9 hg9';have hHeld:=And.intro KX5.out.b5.bx.2.2.1 ((zH (hg9'.block g lg (by have:=AP.out;simp;omega))).trans hHeld.2);have lg5:g<w5.heap.size:=zL lg hg9'.size;refine hK.out _ _ (fun _=>hHeld) ?_;clear hc9 hg9 hg9';clear hK K
  (try simp only [Act.put,zD,zE,zF])
  refine qaa 11 rfl (by kernel_rfl) (fun K hK=>?_);refine qae rfl 44 _ _ rfl #[.pointer (some ⟨c,0,none⟩),.int .i64 2] (by simp [Act.eval]) (yB Tryz.func44 (by kernel_rfl) rfl) (zY W0 c len cap a0 2 w5 KX5.out.cu (by omega) (by omega)) ?_;rintro e w6 ⟨k2,rfl,-,hc9,hg9⟩;refine ⟨_,rfl,?_⟩;have hg9':w5.grownBy w6 (some c):=⟨hg9.os,hg9.tape,hg9.output,hg9.size,hg9.block⟩
  have KX6:Hid (KX w w6 W0 c a0 len cap N B T col y (.slice pa y.pn pc) (.slice sa y.sn sc) (.slice (some ⟨g,0,none⟩) y.wn wc) (.slice ha y.hn hh) up us uw uh):=KX5.out.draw hc9 hg9';have hHeld:=And.intro KX6.out.b5.bx.2.2.1 ((zH (hg9'.block g lg5 (by have:=AP.out;simp;omega))).trans hHeld.2);have lg6:g<w6.heap.size:=zL lg5 hg9'.size;refine hK.out _ _ (fun _=>hHeld) ?_;clear hc9 hg9 hg9';clear hK K
  (try simp only [Act.put,zD,zE,zF])
  refine qbl 12 rfl hHeld ?_;refine qaa 13 rfl (by kernel_rfl) (fun K hK=>?_);go_simp;have hca:=(qag (zQ w6 (.cells #[.bool k1,.int .i64 k2] 88))).1;refine hK.out _ _ (fun _=>⟨(hca _ _ KX6.out.b5.lt).trans hHeld.1,(hca _ _ lg6).trans hHeld.2⟩) ?_;clear hca;clear hK K
  (try simp only [Act.put,zD,zE,zF])
  refine qaa 14 rfl (by kernel_rfl) (fun K hK=>?_)
  have OH2:w6.ownsRow 0 88 2 (.slice ua (y.wL iw) uc) (y.wL iw) (fT (y.wH iw) (y.wL iw)):=by
   have:=KX6.out.ow.t.own iw hiw;rw [eu] at this;exact this
  refine qaz kndT w6 rfl rfl _ _ rfl 0 (.slice ua (y.wL iw) uc) (y.wL iw) _ rfl OH2 #[.bool k1,.int .i64 k2] rfl rfl (by intro u hu;simp at hu;rcases hu with rfl | rfl <;> rfl) (by omega) (Nat.zero_le _) ?_;intro v8 w8 o8 g8 q8 n8;obtain ⟨a8,c8,rfl⟩:=zU o8;have hob:∀ k,(Value.slice ua (y.wL iw) uc).ownBlock=some k->Cl B col 3 k:=fun k hk=>KX6.out.ow.t.ob iw hiw k (by rw [eu];exact hk);have hgne:(Value.slice ua (y.wL iw) uc).ownBlock≠some g:=fun e=>KX6.out.ow.t.ra iw hiw g (by rw [eu];exact e) rfl;have hb8:∀ k,k<w6.heap.size->(Value.slice ua (y.wL iw) uc).ownBlock≠some k->w8.heap[k]? = w6.heap[k]?:=fun k h1 h2=>g8.block k h1 fun e=>h2 e.symm;have hap:∀ k,(Value.slice ua (y.wL iw) uc).ownBlock=some k->k≠c/\k≠w.heap.size/\k≠N/\w.heap.size<k:=fun k hk=>KX6.out.apart (by decide) (hob k hk);have hHeld:=And.intro ((zH (hb8 N KX6.out.b5.lt (fun e=>(hap N e).2.2.1 rfl))).trans hHeld.1) ((zH (hb8 g lg6 hgne)).trans hHeld.2)
  have hfg:w8.frozen? ⟨g,iw,none⟩=false:=by
   obtain ⟨g',cap',e',-,-,-,fr'⟩:=KX6.out.ow.t.cell hiw;simp only [Value.slice.injEq,Option.some.injEq,Addr.mk.injEq,and_true,true_and] at e';rw [zI (hb8 g lg6 hgne),e'.1];exact fr' iw
  have SZ:Hid (SysT (w8.setCell ⟨g,iw,none⟩ (.slice a8 (y.wL iw+1) c8)) B w8.heap.size (y.setW iw (y.wL iw+1) (fun i=>if i=y.wL iw then ⟨k1,k2⟩ else y.wH iw i)) (sysV pa y.pn pc sa y.sn sc (some ⟨g,0,none⟩) y.wn wc ha y.hn hh)):=by
   have h:=OwnS.putW KX6.out.ow hiw (u':=.slice a8 (y.wL iw+1) c8) (m:=y.wL iw+1) (H':=fun i=>if i=y.wL iw then ⟨k1,k2⟩ else y.wH iw i) (w1:=w8) (by have h1:B<=g:=Pg.1;omega) g8.size (fun k h1 h2=>hb8 k h1 (by rw [eu] at h2;exact h2)) (by rw [qqs];exact o8) n8 (fun k hk=>(q8 k hk).imp (fun h=>by rw [eu];exact h) id);have h2:=h.sysT;rw [World.size_setCell] at h2;exact h2
  have KZ:Hid (Cur (w8.setCell ⟨g,iw,none⟩ (.slice a8 (y.wL iw+1) c8)) W0 c a0 len cap/\w.grownBy (w8.setCell ⟨g,iw,none⟩ (.slice a8 (y.wL iw+1) c8)) (some c)/\Bx (w8.setCell ⟨g,iw,none⟩ (.slice a8 (y.wL iw+1) c8)) w.heap.size (.slice none 0 0) (.slice none 0 0) (.slice none 0 0) (.slice none 0 0)/\Bx (w8.setCell ⟨g,iw,none⟩ (.slice a8 (y.wL iw+1) c8)) N (.slice pa y.pn pc) (.slice sa y.sn sc) (.slice (some ⟨g,0,none⟩) y.wn wc) (.slice ha y.hn hh)):=by
   have hgg:w8.grownBy (w8.setCell ⟨g,iw,none⟩ (.slice a8 (y.wL iw+1) c8)) (some g):=zV (World.grownBy.refl _ _) (.inl rfl) _;have hA:=AP.out;have hW:=KX6.out.cu.ge;refine ⟨(KX6.out.cu.kept g8 (fun e=>(hap c e.symm).1 rfl) (fun k hk=>by have:=hap k hk;omega)).kept hgg (fun e=>hA.1 (by simpa using e.symm)) (fun k hk=>by cases hk;omega),(KX6.out.gr.andThen g8 (fun k hk=>.inl (by have:=hap k hk;omega))).andThen hgg (fun k hk=>by cases hk;exact .inl (by omega)),(KX6.out.b4.grown g8 (fun e=>(hap _ e).2.1 rfl)).set (by omega),(KX6.out.b5.grown g8 (fun e=>(hap _ e).2.2.1 rfl)).set (by omega)⟩
  refine hK.out _ _ (fun _=>hHeld) ?_;clear o8 g8 q8 n8 hb8;clear hK K
  (try simp only [Act.put,zD,zE,zF])
  refine qbl 15 rfl hHeld ?_;refine qaa 16 rfl (by kernel_rfl) (fun K hK=>?_);have hcN:=hHeld.2;go_simp;refine hK.out _ _ (fun h=>?_) ?_
  ·exact absurd h (by decide)
  clear hK K
  (try simp only [Act.put,zD,zE,zF])
  refine qar (by kernel_rfl) ?_ _
  have SM:Hid (y.setW iw (y.wL iw+1) (fun i=>if i=y.wL iw then ⟨k1,k2⟩ else y.wH iw i)).Sm:=by
   have hm:=HO.out.sm;have hb:=HO.out.bds.2.2.1 iw hiw;refine ⟨hm.n,hm.p,hm.s,fun i hi=>?_,hm.h⟩;show (if i=iw then y.wL iw+1 else y.wL i)<=1000;by_cases ei:i=iw
   ·rw [if_pos ei];omega
   ·rw [if_neg ei];exact hm.w i hi
  have hTz:w8.heap.size<=(w8.setCell ⟨g,iw,none⟩ (.slice a8 (y.wL iw+1) c8)).heap.size:=by simp
  generalize w8.setCell ⟨g,iw,none⟩ (.slice a8 (y.wL iw+1) c8)=wz at *;obtain ⟨⟨r0,r1,r2,r3⟩,rf⟩:=KZ.2.2.1;obtain ⟨⟨b0,b1,b2,b3⟩,-⟩:=KZ.2.2.2;have hsz:=KX3.out.sz;have hW:=KX3.out.cu.ge;clear hHeld;go_wp2;obtain ⟨x,ev,ey,hX⟩:=SZ.out.x;refine bodyPost_ret (v:=(sysV pa y.pn pc sa y.sn sc (some ⟨g,0,none⟩) y.wn wc ha y.hn hh)) (by simp [results,Tryz.results43,go_sem,r0,r1,r2,r3]) rfl ?_;rw [show (sysV pa y.pn pc sa y.sn sc (some ⟨g,0,none⟩) y.wn wc ha y.hn hh)=x.v from ev];exact DrwS.fin hX (by rw [ey];exact SM.out) KZ.1 KZ.2.1 (by omega) (by omega) (Nat.le_refl _) (by omega) (by omega) hTz _ _ _ _
 have t2:(jj == 2)=false:=by simpa using e2
 by_cases e3:jj=3
 ·subst e3
  clear t0 e0 t1 e1 t2 e2;obtain ⟨col,vp,vs,vw,vh,up,us,uw,uh,ev,o,ht⟩:=KC.1.sy;obtain ⟨rfl,rfl,rfl,rfl⟩:=qex ev;have hsn:y.sn=y.pn:=HO.out.cn.2.1;have hhn:y.hn=y.pn:=HO.out.cn.2.2.1;have hph:p<y.hn:=by omega
  have hph':(p:Int)<(y.hn:Int):=by omega
  clear hsn hhn;have KX3:Hid (KX w w3 W0 c a0 len cap N B T col y (.slice pa y.pn pc) (.slice sa y.sn sc) (.slice wa y.wn wc) (.slice ha y.hn hh) up us uw uh):=⟨KC.1.cu,KC.1.gr,o,KC.2.1,KC.2.2,ht,hcl,HS.1,HS.2.1,HS.2.2⟩
  clear o ht ev KC
  have hw1:1<=y.wn/\y.wn<=16:=by
   obtain ⟨⟨h1,h4⟩,-,-,hw⟩:=HO.out.cn;rw [hw];exact ⟨Nat.mul_le_mul h1 h1,zP (Nat.mul_le_mul h4 h4) (by omega)⟩
  have hw1':(1:Int)<=(y.wn:Int):=by omega
  obtain ⟨g,cww,eh,Pg,lg,-,-⟩:=KX3.out.ow.t.cell (i:=0) (by omega);have hcap:y.wn<=wc:=qql KX3.out.ow.t.row;simp only [Value.slice.injEq] at eh;obtain ⟨rfl,-,rfl⟩:=eh;have hcap':(1:Int)<=(wc:Int):=by omega
  have hcp2:¬ (wc:Int)<1:=by omega
  obtain ⟨⟨r0,r1,r2,r3⟩,rf⟩:=KX3.out.b4;obtain ⟨⟨b0,b1,b2,b3⟩,bf⟩:=KX3.out.b5;go_upto_region 20 with fail
  have hA:y.wn<=1\/(if wc=1 then (some ⟨g,0,none⟩:Option Addr) else some ⟨g,1,none⟩)=some ⟨g,1,none⟩:=by
   by_cases h:wc=1
   ·exact .inl (by omega)
   ·exact .inr (if_neg h)
  generalize (if wc=1 then (some ⟨g,0,none⟩:Option Addr) else some ⟨g,1,none⟩)=A at *;have hsz:=KX3.out.sz;have hW:=KX3.out.cu.ge
  have KZ:Hid (Cur (w3.setCell ⟨N,2,none⟩ (.slice A (y.wn - 1) (wc - 1))) W0 c a0 len cap/\w.grownBy (w3.setCell ⟨N,2,none⟩ (.slice A (y.wn - 1) (wc - 1))) (some c)/\Bx (w3.setCell ⟨N,2,none⟩ (.slice A (y.wn - 1) (wc - 1))) w.heap.size (.slice none 0 0) (.slice none 0 0) (.slice none 0 0) (.slice none 0 0)/\BoxC (w3.setCell ⟨N,2,none⟩ (.slice A (y.wn - 1) (wc - 1))) N (.slice pa y.pn pc) (.slice sa y.sn sc) (.slice A (y.wn - 1) (wc - 1)) (.slice ha y.hn hh)):=by
   have hgg:w3.grownBy (w3.setCell ⟨N,2,none⟩ (.slice A (y.wn - 1) (wc - 1))) (some N):=zV (World.grownBy.refl _ _) (.inl rfl) _;exact ⟨KX3.out.cu.kept hgg (fun e=>by simp at e;omega) (fun k hk=>by cases hk;omega),KX3.out.gr.andThen hgg (fun k hk=>by cases hk;exact .inl (by omega)),KX3.out.b4.set (by omega),⟨by go_cell,by go_cell,by go_cell,by go_cell⟩⟩
  have SX:Hid (∃ x:SysIn,sysV pa y.pn pc sa y.sn sc A (y.wn - 1) (wc - 1) ha y.hn hh=x.v/\x.y.Sm/\SysX (w3.setCell ⟨N,2,none⟩ (.slice A (y.wn - 1) (wc - 1))) B T x):=by
   have st:SysT w3 B T y (sysV pa y.pn pc sa y.sn sc (some ⟨g,0,none⟩) y.wn wc ha y.hn hh):=⟨col,_,_,_,_,up,us,uw,uh,rfl,KX3.out.ow,KX3.out.tp⟩
   obtain ⟨x,ev,ey,hX⟩:=st.x;have ev':=ev;simp only [sysV,Value.agg.injEq,Array.mk.injEq,List.cons.injEq,Value.slice.injEq,and_true] at ev';obtain ⟨⟨a1,a2,a3⟩,⟨a4,a5,a6⟩,⟨a7,a8,a9⟩,⟨a10,a11,a12⟩⟩:=ev';refine ⟨x.shift A (wc - 1),?_,?_,(hX.keep (by simp) fun b h1 h2 _=>zO _ _ _ _ (fun e=>by have e2:b=N:=e;omega)).shift a7.symm (hA.imp (fun h=>by rw [<- a8];exact h) id)⟩
   ·show _=sysV x.pa x.pn x.pc x.sa x.sn x.sc A (x.wn - 1) (wc - 1) x.ha x.hn x.hc
    rw [<- a1,<- a2,<- a3,<- a4,<- a5,<- a6,<- a8,<- a10,<- a11,<- a12]
   ·have hm:=HO.out.sm
    rw [<- ey] at hm;refine ⟨⟨hm.n.1,hm.n.2.1,by have h1:x.wn<=16:=hm.n.2.2.1;show x.wn - 1<=16;omega,hm.n.2.2.2⟩,hm.p,hm.s,fun i hi=>hm.w (i+1) (by have h1:i<x.wn - 1:=hi;show i+1<x.wn;omega),hm.h⟩
  have hTz:T<=(w3.setCell ⟨N,2,none⟩ (.slice A (y.wn - 1) (wc - 1))).heap.size:=by
   have:=zJ w3 _ b0;simp at this ⊢;omega
  clear r0 r1 r2 r3 rf b0 b1 b2 b3 bf;generalize y.wn - 1=wn1 at *;generalize wc - 1=wc1 at *;generalize w3.setCell ⟨N,2,none⟩ (.slice A wn1 wc1)=wz at *;obtain ⟨⟨r0,r1,r2,r3⟩,rf⟩:=KZ.2.2.1;obtain ⟨b0,b1,b2,b3⟩:=KZ.2.2.2;go_wp2;obtain ⟨x,ev,hm,hX⟩:=SX.out;refine bodyPost_ret (v:=sysV pa y.pn pc sa y.sn sc A wn1 wc1 ha y.hn hh) (by simp [results,Tryz.results43,go_sem,r0,r1,r2,r3]) rfl ?_;rw [show sysV pa y.pn pc sa y.sn sc A wn1 wc1 ha y.hn hh=x.v from ev];exact DrwS.fin hX hm KZ.1 KZ.2.1 (by omega) (by omega) (Nat.le_refl _) (by omega) (by omega) hTz _ _ _ _
 have t3:(jj == 3)=false:=by simpa using e3
 by_cases e4:jj=4
 ·subst e4
  clear t0 e0 t1 e1 t2 e2 t3 e3;obtain ⟨col,vp,vs,vw,vh,up,us,uw,uh,ev,o,ht⟩:=KC.1.sy;obtain ⟨rfl,rfl,rfl,rfl⟩:=qex ev;have hsn:y.sn=y.pn:=HO.out.cn.2.1;have hhn:y.hn=y.pn:=HO.out.cn.2.2.1;have hph:p<y.hn:=by omega
  have hph':(p:Int)<(y.hn:Int):=by omega
  clear hsn hhn;have KX3:Hid (KX w w3 W0 c a0 len cap N B T col y (.slice pa y.pn pc) (.slice sa y.sn sc) (.slice wa y.wn wc) (.slice ha y.hn hh) up us uw uh):=⟨KC.1.cu,KC.1.gr,o,KC.2.1,KC.2.2,ht,hcl,HS.1,HS.2.1,HS.2.2⟩
  clear o ht ev KC;obtain ⟨g,cpp,eh,Pg,lg,cg,fg⟩:=KX3.out.ow.p.cell hpp;simp only [Value.slice.injEq] at eh;obtain ⟨rfl,-,rfl⟩:=eh;have hpp':(p:Int)<(y.pn:Int):=by omega
  have hN3:=KX3.out.b5.bx.1;have AP:Hid (g≠c/\g≠w.heap.size/\g≠N/\w.heap.size<g):=KX3.out.apart (by decide) Pg;go_upto_region 16 with fail
  refine qaj (fun w'=>w'.cell? ⟨N,0,none⟩=some (.slice (some ⟨g,0,none⟩) y.pn pc)/\w'.cell? ⟨g,p,none⟩=some (up p)) (fun i=>i == 6) (by kernel_rfl) ?_;have hHeld:=And.intro hN3 cg;refine qax [0,1,2,3] ?_;iterate 4 (refine qa8 rfl hHeld ?_)
  refine qao ?_;refine qaa 4 rfl (by kernel_rfl) (fun K hK=>?_);refine qae rfl 76 _ _ rfl #[.pointer (some ⟨c,0,none⟩)] (by simp [Act.eval]) (yB Tryz.func76 (by kernel_rfl) rfl) (qjw W0 c len cap a0 w3.drew KX3.out.cu.drew) ?_;rintro e w4 ⟨g4,m4,gc4,rfl,hm4,hl4,hc4,hg4⟩;refine ⟨_,rfl,?_⟩;have hg9':w3.grownBy w4 (some c):=⟨hg4.os,hg4.tape,hg4.output,hg4.size,hg4.block⟩
  have KX4:Hid (KX w w4 W0 c a0 len cap N B T col y (.slice (some ⟨g,0,none⟩) y.pn pc) (.slice sa y.sn sc) (.slice wa y.wn wc) (.slice ha y.hn hh) up us uw uh):=KX3.out.draw hc4 hg9';have hHeld:=And.intro KX4.out.b5.bx.1 ((zH (hg9'.block g lg (by have:=AP.out;simp;omega))).trans hHeld.2);have lg4:g<w4.heap.size:=zL lg hg9'.size;obtain ⟨G4,hG4⟩:=hl4.known
  have hfg:w4.frozen? ⟨g,p,none⟩=false:=by
   rw [zI (hg9'.block g lg (by have:=AP.out;simp;omega))];exact fg p
  have hupc:∃ ua uc,up p=.slice ua (y.pL p) uc:=zU (KX3.out.ow.p.own p hpp)
  have SZ:Hid (SysT (w4.setCell ⟨g,p,none⟩ (.slice (some ⟨g4,0,none⟩) m4 gc4)) B w4.heap.size (y.setP p m4 G4) (sysV (some ⟨g,0,none⟩) y.pn pc sa y.sn sc wa y.wn wc ha y.hn hh)):=by
   have hs3:w3.heap.size<=w4.heap.size:=hg9'.size;have ho:OwnS false (World.cut w4 w3.heap.size) B col y (.slice (some ⟨g,0,none⟩) y.pn pc) (.slice sa y.sn sc) (.slice wa y.wn wc) (.slice ha y.hn hh) up us uw uh:=KX3.out.ow.kept fun k hk hl=>(qk7 w4 hs3 hl).trans (hg9'.block k hl (by have:=KX3.out.sz;simp;omega));have h:=OwnS.putP ho hpp (u':=.slice (some ⟨g4,0,none⟩) m4 gc4) (m:=m4) (H':=G4) (w1:=w4) (by rw [qhj w4 hs3];have h1:B<=g:=Pg.1;omega) (by rw [qhj w4 hs3];exact hs3) (fun k h1 _=>by rw [qhj w4 hs3] at h1;exact (qk7 w4 hs3 h1).symm) (hG4.mono (Nat.zero_le _)) (fun e=>by cases e) (fun k hk=>.inr (by rw [qhj w4 hs3];exact (hG4.lt k hk).1));have h2:=h.sysT;rw [World.size_setCell] at h2;exact h2
  have KZ:Hid (Cur (w4.setCell ⟨g,p,none⟩ (.slice (some ⟨g4,0,none⟩) m4 gc4)) W0 c a0 len cap/\w.grownBy (w4.setCell ⟨g,p,none⟩ (.slice (some ⟨g4,0,none⟩) m4 gc4)) (some c)/\Bx (w4.setCell ⟨g,p,none⟩ (.slice (some ⟨g4,0,none⟩) m4 gc4)) w.heap.size (.slice none 0 0) (.slice none 0 0) (.slice none 0 0) (.slice none 0 0)/\Bx (w4.setCell ⟨g,p,none⟩ (.slice (some ⟨g4,0,none⟩) m4 gc4)) N (.slice (some ⟨g,0,none⟩) y.pn pc) (.slice sa y.sn sc) (.slice wa y.wn wc) (.slice ha y.hn hh)):=by
   have hgg:w4.grownBy (w4.setCell ⟨g,p,none⟩ (.slice (some ⟨g4,0,none⟩) m4 gc4)) (some g):=zV (World.grownBy.refl _ _) (.inl rfl) _;have hA:=AP.out;have hW:=KX4.out.cu.ge;exact ⟨KX4.out.cu.kept hgg (fun e=>hA.1 (by simpa using e.symm)) (fun k hk=>by cases hk;omega),KX4.out.gr.andThen hgg (fun k hk=>by cases hk;exact .inl (by omega)),KX4.out.b4.set (by omega),KX4.out.b5.set (by omega)⟩
  refine hK.out _ _ (fun _=>hHeld) ?_;clear hc4 hg4 hg9' hl4 hG4;clear hK K
  (try simp only [Act.put,zD,zE,zF])
  refine qbl 5 rfl hHeld ?_;refine qaa 6 rfl (by kernel_rfl) (fun K hK=>?_);have hcN:=hHeld.2;obtain ⟨ua,uc,eup⟩:=hupc;rw [eup] at hcN;go_simp;refine hK.out _ _ (fun h=>?_) ?_
  ·exact absurd h (by decide)
  clear hK K
  (try simp only [Act.put,zD,zE,zF])
  refine qar (by kernel_rfl) ?_ _
  have SM:Hid (y.setP p m4 G4).Sm:=by
   have hm:=HO.out.sm;refine ⟨hm.n,fun i hi=>?_,hm.s,hm.w,hm.h⟩;show (if i=p then m4 else y.pL i)<=1000;by_cases ei:i=p
   ·rw [if_pos ei];omega
   ·rw [if_neg ei];exact hm.p i hi
  have hTz:w4.heap.size<=(w4.setCell ⟨g,p,none⟩ (.slice (some ⟨g4,0,none⟩) m4 gc4)).heap.size:=by simp
  generalize w4.setCell ⟨g,p,none⟩ (.slice (some ⟨g4,0,none⟩) m4 gc4)=wz at *;obtain ⟨⟨r0,r1,r2,r3⟩,rf⟩:=KZ.2.2.1;obtain ⟨⟨b0,b1,b2,b3⟩,-⟩:=KZ.2.2.2;have hsz:=KX3.out.sz;have hW:=KX3.out.cu.ge;clear hHeld;go_wp2;obtain ⟨x,ev,ey,hX⟩:=SZ.out.x;refine bodyPost_ret (v:=(sysV (some ⟨g,0,none⟩) y.pn pc sa y.sn sc wa y.wn wc ha y.hn hh)) (by simp [results,Tryz.results43,go_sem,r0,r1,r2,r3]) rfl ?_;rw [show (sysV (some ⟨g,0,none⟩) y.pn pc sa y.sn sc wa y.wn wc ha y.hn hh)=x.v from ev];exact DrwS.fin hX (by rw [ey];exact SM.out) KZ.1 KZ.2.1 (by omega) (by omega) (Nat.le_refl _) (by omega) (by omega) hTz _ _ _ _
 have t4:(jj == 4)=false:=by simpa using e4
 by_cases e5:jj=5
 ·subst e5
  clear t0 e0 t1 e1 t2 e2 t3 e3 t4 e4;obtain ⟨col,vp,vs,vw,vh,up,us,uw,uh,ev,o,ht⟩:=KC.1.sy;obtain ⟨rfl,rfl,rfl,rfl⟩:=qex ev;have hsn:y.sn=y.pn:=HO.out.cn.2.1;have hhn:y.hn=y.pn:=HO.out.cn.2.2.1;have hph:p<y.hn:=by omega
  have hph':(p:Int)<(y.hn:Int):=by omega
  clear hsn hhn;have KX3:Hid (KX w w3 W0 c a0 len cap N B T col y (.slice pa y.pn pc) (.slice sa y.sn sc) (.slice wa y.wn wc) (.slice ha y.hn hh) up us uw uh):=⟨KC.1.cu,KC.1.gr,o,KC.2.1,KC.2.2,ht,hcl,HS.1,HS.2.1,HS.2.2⟩
  clear o ht ev KC
  have hw1:1<=y.wn/\y.wn<=16:=by
   obtain ⟨⟨h1,h4⟩,-,-,hw⟩:=HO.out.cn;rw [hw];exact ⟨Nat.mul_le_mul h1 h1,zP (Nat.mul_le_mul h4 h4) (by omega)⟩
  have b2:=KX3.out.b5.bx.2.2.1;go_wp2_with fail
  refine (zY W0 c len cap a0 (y.wn:Nat) w3 KX3.out.cu (by omega) (by omega)).mono ?_;rintro e w4 ⟨ii,rfl,⟨i0,i1⟩,hc4,hg4⟩;have KX4:Hid (KX w w4 W0 c a0 len cap N B T col y (.slice pa y.pn pc) (.slice sa y.sn sc) (.slice wa y.wn wc) (.slice ha y.hn hh) up us uw uh):=KX3.out.draw hc4 hg4;clear hc4 hg4 b2;obtain ⟨iw,rfl⟩:∃ iw:Nat,ii=iw:=⟨ii.toNat,by omega⟩
  have hiw:iw<y.wn:=by omega
  have hiw':(iw:Int)<(y.wn:Int):=by omega
  have hlw:y.wL iw<=12:=HO.out.bds.2.2.1 iw hiw;obtain ⟨g,cww,eh,Pg,lg,cg,fg⟩:=KX4.out.ow.t.cell hiw;simp only [Value.slice.injEq] at eh;obtain ⟨rfl,-,rfl⟩:=eh;obtain ⟨ua,uc,eu⟩:=zU (KX4.out.ow.t.own iw hiw);rw [eu] at cg;have hN3:=KX4.out.b5.bx.2.2.1;have AP:Hid (g≠c/\g≠w.heap.size/\g≠N/\w.heap.size<g):=KX4.out.apart (by decide) Pg;have hM4:w4.drew.heap.size=w4.heap.size:=rfl;go_upto_region 19 with fail
  refine qaj (fun w'=>w'.cell? ⟨N,2,none⟩=some (.slice (some ⟨g,0,none⟩) y.wn wc)/\w'.cell? ⟨g,iw,none⟩=some (.slice ua (y.wL iw) uc)) (fun i=>i == 12) (by kernel_rfl) ?_;have hHeld:=And.intro hN3 cg;refine qax [0,1,2,3,5,6,7,8,9] ?_;iterate 9 (refine qa8 rfl hHeld ?_)
  refine qao ?_;refine qaa 4 rfl (by kernel_rfl) (fun K hK=>?_);go_simp;have ba:Below w4.heap.size w4 (w4.drew.alloc (.cells #[.bool true,.int .i64 0] 88)):=(Below.refl w4.heap.size w4).drew.trans (zQ w4.drew _);have BA:Hid (Below w4.heap.size w4 (w4.drew.alloc (.cells #[.bool true,.int .i64 0] 88))):=ba;have hca:=(qag ba).1;have hHeld:=And.intro ((hca _ _ KX4.out.b5.lt).trans hHeld.1) ((hca _ _ lg).trans hHeld.2);refine hK.out _ _ (fun _=>hHeld) ?_;clear hca ba;clear hK K
  (try simp only [Act.put,zD,zE,zF])
  refine qaa 10 rfl (by kernel_rfl) (fun K hK=>?_);have OH1:(w4.drew.alloc (.cells #[.bool true,.int .i64 0] 88)).ownsRow 0 88 2 (.slice (some ⟨w4.heap.size,0,none⟩) 1 1) 1 [.bool true,.int .i64 0]:=World.ownsRow_lit (base:=0) (e:=88) (size:=2) w4.drew #[.bool true,.int .i64 0] 1 (Nat.zero_le _) (by unfold maxLen;omega) (by simp)
  have OH2:Src (w4.drew.alloc (.cells #[.bool true,.int .i64 0] 88)) ua (fT (y.wH iw) (y.wL iw)):=by
   have:=KX4.out.ow.t.own iw hiw;rw [eu] at this;exact (qvo this (qi2 _ _)).below BA.out
  refine qcr kndT (w4.drew.alloc (.cells #[.bool true,.int .i64 0] 88)) rfl _ _ rfl 0 (.slice (some ⟨w4.heap.size,0,none⟩) 1 1) 1 [.bool true,.int .i64 0] rfl OH1 ua (y.wL iw) uc (fT (y.wH iw) (y.wL iw)) rfl (qi2 _ _) OH2 (qld _ _) (by omega) (Nat.zero_le _) ?_;intro v8 w8 o8 g8 q8 n8;have n8':v8≠.slice none 0 0:=n8 (.inl (by simp));rw [Nat.add_comm 1] at o8;obtain ⟨a8,c8,rfl⟩:=zU o8;have hsA:(w4.drew.alloc (.cells #[.bool true,.int .i64 0] 88)).heap.size=w4.heap.size+1:=by simp
  have hb8:∀ k,k<w4.heap.size->w8.heap[k]? = w4.heap[k]?:=fun k h1=>(g8.block k (by rw [hsA];omega) (fun e=>by have:=qom e.symm;omega)).trans (BA.out.block k h1);have hHeld:=And.intro ((zH (hb8 N KX4.out.b5.lt)).trans hN3) ((zH (hb8 g lg)).trans cg);have hs8:w4.heap.size<=w8.heap.size:=by have:=g8.size;rw [hsA] at this;omega
  have hq8:∀ k,(Value.slice a8 (y.wL iw+1) c8).ownBlock=some k->w4.heap.size<=k:=fun k hk=>by
   rcases q8 with h | h
   ·rw [hk] at h
    have:=qom h.symm;omega
   ·rw [hk,hsA] at h
    simp only [Option.some.injEq] at h;omega
  have hfg:w8.frozen? ⟨g,iw,none⟩=false:=by
   rw [zI (hb8 g lg)];exact fg iw
  have SZ:Hid (SysT (w8.setCell ⟨g,iw,none⟩ (.slice a8 (y.wL iw+1) c8)) B w8.heap.size (y.setW iw (y.wL iw+1) (fun i=>if i=0 then ⟨true,0⟩ else y.wH iw (i - 1))) (sysV pa y.pn pc sa y.sn sc (some ⟨g,0,none⟩) y.wn wc ha y.hn hh)):=by
   have h:=OwnS.putW KX4.out.ow hiw (u':=.slice a8 (y.wL iw+1) c8) (m:=y.wL iw+1) (H':=fun i=>if i=0 then ⟨true,0⟩ else y.wH iw (i - 1)) (w1:=w8) (by have h1:B<=g:=Pg.1;omega) hs8 (fun k h1 _=>hb8 k h1) (by rw [qvh];exact o8) n8' (fun k hk=>.inr (hq8 k hk));have h2:=h.sysT;rw [World.size_setCell] at h2;exact h2
  have KZ:Hid (Cur (w8.setCell ⟨g,iw,none⟩ (.slice a8 (y.wL iw+1) c8)) W0 c a0 len cap/\w.grownBy (w8.setCell ⟨g,iw,none⟩ (.slice a8 (y.wL iw+1) c8)) (some c)/\Bx (w8.setCell ⟨g,iw,none⟩ (.slice a8 (y.wL iw+1) c8)) w.heap.size (.slice none 0 0) (.slice none 0 0) (.slice none 0 0) (.slice none 0 0)/\Bx (w8.setCell ⟨g,iw,none⟩ (.slice a8 (y.wL iw+1) c8)) N (.slice pa y.pn pc) (.slice sa y.sn sc) (.slice (some ⟨g,0,none⟩) y.wn wc) (.slice ha y.hn hh)):=by
   have g0:w4.grownBy w8 none:=⟨g8.os.trans BA.out.os,g8.tape.trans BA.out.tape,g8.output.trans BA.out.output,hs8,fun k hk _=>hb8 k hk⟩
   have KX8:=KX4.out.below (qde g0);have hgg:w8.grownBy (w8.setCell ⟨g,iw,none⟩ (.slice a8 (y.wL iw+1) c8)) (some g):=zV (World.grownBy.refl _ _) (.inl rfl) _;have hA:=AP.out;have hW:=KX8.cu.ge;exact ⟨KX8.cu.kept hgg (fun e=>hA.1 (by simpa using e.symm)) (fun k hk=>by cases hk;omega),KX8.gr.andThen hgg (fun k hk=>by cases hk;exact .inl (by omega)),KX8.b4.set (by omega),KX8.b5.set (by omega)⟩
  refine hK.out _ _ (fun _=>hHeld) ?_;clear o8 g8 q8 n8 hb8 n8' hq8 hs8 hsA;clear hK K
  (try simp only [Act.put,zD,zE,zF])
  refine qbl 11 rfl hHeld ?_;refine qaa 12 rfl (by kernel_rfl) (fun K hK=>?_);have hcN:=hHeld.2;go_simp;refine hK.out _ _ (fun h=>?_) ?_
  ·exact absurd h (by decide)
  clear hK K
  (try simp only [Act.put,zD,zE,zF])
  refine qar (by kernel_rfl) ?_ _
  have SM:Hid (y.setW iw (y.wL iw+1) (fun i=>if i=0 then ⟨true,0⟩ else y.wH iw (i - 1))).Sm:=by
   have hm:=HO.out.sm;have hb:=HO.out.bds.2.2.1 iw hiw;refine ⟨hm.n,hm.p,hm.s,fun i hi=>?_,hm.h⟩;show (if i=iw then y.wL iw+1 else y.wL i)<=1000;by_cases ei:i=iw
   ·rw [if_pos ei];omega
   ·rw [if_neg ei];exact hm.w i hi
  have hTz:w8.heap.size<=(w8.setCell ⟨g,iw,none⟩ (.slice a8 (y.wL iw+1) c8)).heap.size:=by simp
  generalize w8.setCell ⟨g,iw,none⟩ (.slice a8 (y.wL iw+1) c8)=wz at *;obtain ⟨⟨r0,r1,r2,r3⟩,rf⟩:=KZ.2.2.1;obtain ⟨⟨b0,b1,b2,b3⟩,-⟩:=KZ.2.2.2;have hsz:=KX3.out.sz;have hW:=KX3.out.cu.ge;clear hHeld;go_wp2;obtain ⟨x,ev,ey,hX⟩:=SZ.out.x;refine bodyPost_ret (v:=(sysV pa y.pn pc sa y.sn sc (some ⟨g,0,none⟩) y.wn wc ha y.hn hh)) (by simp [results,Tryz.results43,go_sem,r0,r1,r2,r3]) rfl ?_;rw [show (sysV pa y.pn pc sa y.sn sc (some ⟨g,0,none⟩) y.wn wc ha y.hn hh)=x.v from ev];exact DrwS.fin hX (by rw [ey];exact SM.out) KZ.1 KZ.2.1 (by omega) (by omega) (Nat.le_refl _) (by omega) (by omega) hTz _ _ _ _
 have t5:(jj == 5)=false:=by simpa using e5
 clear e0 e1 e2 e3 e4 e5 j0 j1;obtain ⟨⟨r0,r1,r2,r3⟩,rf⟩:=KC.2.1;obtain ⟨⟨b0,b1,b2,b3⟩,-⟩:=KC.2.2;go_upto_region 20 with fail
 go_wp2;obtain ⟨x,ev,ey,hX⟩:=KC.1.sy.x;refine bodyPost_ret (v:=(sysV pa y.pn pc sa y.sn sc wa y.wn wc ha y.hn hh)) (by simp [results,Tryz.results43,go_sem,r0,r1,r2,r3]) rfl ?_;rw [show (sysV pa y.pn pc sa y.sn sc wa y.wn wc ha y.hn hh)=x.v from ev];exact DrwS.fin hX (by rw [ey];exact HO.out.sm) KC.1.cu KC.1.gr KC.1.lt HS.1 (Nat.le_refl _) (by omega) (by omega) (by have:=KC.2.2.lt;have:=HS.out;omega) _ _ _ _
theorem qpu (W0 c len cap:Nat) (a0:Option Addr) (w:World) (hc:Cur w W0 c a0 len cap):
  Calls Tryz.prog 43 #[.pointer (some ⟨c,0,none⟩),.slice a0 len cap] w (DrwS w W0 c a0 len cap):=(qm7 W0 c len cap a0 w hc).mono fun _ _ ⟨x,B,T,h1,h2,h3,h4,h5,h6,h7⟩=>⟨x,B,T,h1,h2,h3,h4,h5,h6.1,h7⟩
