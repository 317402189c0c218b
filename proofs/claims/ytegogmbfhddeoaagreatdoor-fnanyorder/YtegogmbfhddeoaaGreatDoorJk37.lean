import Derived.Test.YtegogmbfhddeoaaGreatDoorJk36
import Derived.Test.YtegogmbfhddeoaaGreatDoorJk32
import Derived.Test.YtegogmbfhddeoaaGreatDoorJk33
namespace Go.Proofs.YtegogmbfhddeoaaGreatDoor
set_option maxRecDepth 100000
set_option maxHeartbeats 8000000
open Go.RowKit Go.Deep
theorem qky (W0 c len cap:Nat) (a0:Option Addr) (n:Int) (w:World) (hc:Cur w W0 c a0 len cap) (n1:1<=n) (n2:n<=1048576):
  Calls Tryz.prog 108 #[.pointer (some ⟨c,0,none⟩),.int .i64 n] w fun e w'=>∃ x:Int,e=.returned (.int .i64 x)/\(0<=x/\x<n)/\Cur w' W0 c a0 len cap/\w.grownBy w' (some c):=by
 by_cases hs:n<=256
 ·exact zY W0 c len cap a0 n w hc n1 hs
 have n3:¬ n<=0:=by omega
 have n4:(n == 0)=false:=by simp;omega
 have HCur:Hid (Cur w W0 c a0 len cap):=hc;clear hc
 go_enter Tryz.func108,Tryz.ntmps108
 go_wp2_with fail
 refine (qdd W0 c len cap a0 _ HCur.out).mono ?_;rintro e w1 ⟨x,rfl,⟨x0,x1⟩,hc1,hg1⟩;have H1:Hid (Cur w1 W0 c a0 len cap/\w.grownBy w1 (some c)):=⟨hc1,hg1⟩
 clear hc1 hg1 HCur;go_wp2_with fail
 refine (qdd W0 c len cap a0 _ H1.1).mono ?_;rintro e w2 ⟨y,rfl,⟨y0,y1⟩,hc2,hg2⟩;have H2:Hid (Cur w2 W0 c a0 len cap/\w.grownBy w2 (some c)):=⟨hc2,H1.2.trans hg2⟩
 clear hc2 hg2 H1;go_wp2_with fail
 refine (qdd W0 c len cap a0 _ H2.1).mono ?_;rintro e w3 ⟨z,rfl,⟨z0,z1⟩,hc3,hg3⟩;have H3:Hid (Cur w3 W0 c a0 len cap/\w.grownBy w3 (some c)):=⟨hc3,H2.2.trans hg3⟩
 clear hc3 hg3 H2;go_wp2_with fail
 refine (qdd W0 c len cap a0 _ H3.1).mono ?_;rintro e w4 ⟨u,rfl,⟨u0,u1⟩,hc4,hg4⟩;have H4:Hid (Cur w4 W0 c a0 len cap/\w.grownBy w4 (some c)):=⟨hc4,H3.2.trans hg4⟩
 clear hc4 hg4 H3;have hp:0<=x*16777216+y*65536+z*256+u:=by omega
 go_wp2;go_ret;exact ⟨_,rfl,⟨Int.emod_nonneg _ (by omega),Int.emod_lt_of_pos _ (by omega)⟩,H4.1,H4.2⟩
open Go.ChangeShapes Go.WideShapes Go.ChangeAt
theorem qow (y:Sy) (p f:Int) (w:World) (B:Nat) (v:Value) (o:qaw true w B y v) (hB:B<=w.heap.size) (hn:y.pn<=1048576) (t1:inB p 0 ((y.pn:Int) - 1)=false):
  Calls Tryz.prog 45 #[v,.int .i64 p,.int .i64 f] w fun e w'=>e=.returned (.tuple #[v,.int .i64 2])/\Below B w w'/\qaw true w' B y v:=by
 obtain ⟨c,vp,vs,vw,vh,up,us,uw,uh,rfl,o⟩:=o;obtain ⟨pa,pc,rfl⟩:=zU o.p.row;obtain ⟨sa,sc,rfl⟩:=zU o.s.row;obtain ⟨wa,wc,rfl⟩:=zU o.t.row;obtain ⟨ha,hc,rfl⟩:=zU o.h.row;have hpn:(y.pn:Int)<=1048576:=by omega
 have hM:B<=w.heap.size+1:=by omega
 have BW:Hid (Below w.heap.size w ((w.alloc (oQ5 pa y.pn pc sa y.sn sc wa y.wn wc ha y.hn hc)).alloc (zQ4))):=(zQ _ _).trans ((zQ _ _).mono (by simp));have NB:Hid (BoxC ((w.alloc (oQ5 pa y.pn pc sa y.sn sc wa y.wn wc ha y.hn hc)).alloc (zQ4)) w.heap.size (.slice pa y.pn pc) (.slice sa y.sn sc) (.slice wa y.wn wc) (.slice ha y.hn hc)):=(BoxC.new w _ _ _ _ _).below (zQ _ _);have RB:Hid (BoxC ((w.alloc (oQ5 pa y.pn pc sa y.sn sc wa y.wn wc ha y.hn hc)).alloc (zQ4)) (w.heap.size+1) (.slice none 0 0) (.slice none 0 0) (.slice none 0 0) (.slice none 0 0)/\∀ j,((w.alloc (oQ5 pa y.pn pc sa y.sn sc wa y.wn wc ha y.hn hc)).alloc (zQ4)).frozen? ⟨w.heap.size+1,j,none⟩=false):=⟨⟨zW _ _ _ 0 (by simp),zW _ _ _ 1 (by simp),zW _ _ _ 2 (by simp),zW _ _ _ 3 (by simp)⟩,fun j=>yB _ _ _ _ (by simp)⟩
 have l1:w.heap.size+1<((w.alloc (oQ5 pa y.pn pc sa y.sn sc wa y.wn wc ha y.hn hc)).alloc (zQ4)).heap.size:=by simp
 have OO:Hid (OwnS true w B c y (.slice pa y.pn pc) (.slice sa y.sn sc) (.slice wa y.wn wc) (.slice ha y.hn hc) up us uw uh):=o;clear o
 go_enter Tryz.func45,Tryz.ntmps45
 go_wp2_with fail
 refine (l1In_any _ _ _ _).mono ?_;rintro e w1 ⟨rfl,rfl⟩;rw [t1];generalize (w.alloc (oQ5 pa y.pn pc sa y.sn sc wa y.wn wc ha y.hn hc)).alloc (zQ4)=W2 at *;obtain ⟨b0,b1,b2,b3⟩:=NB.out;obtain ⟨⟨r0,r1,r2,r3⟩,rf⟩:=RB.out;have O2:Hid (OwnS true W2 B (rcol c w.heap.size 0) y (.slice pa y.pn pc) (.slice sa y.sn sc) (.slice wa y.wn wc) (.slice ha y.hn hc) up us uw uh):=(OO.out.recol 0).below BW.out;have BB:Hid (Below B w W2):=BW.out.mono hB;go_wp2;exact bodyPost_ret (v:=.tuple #[sysV pa y.pn pc sa y.sn sc wa y.wn wc ha y.hn hc,.int .i64 2]) (by simp [results,Tryz.results45,go_sem,r0,r1,r2,r3]) rfl ⟨rfl,(((BB.out.setCell hM _).setCell hM _).setCell hM _).setCell hM _,_,_,_,_,_,_,_,_,_,rfl,(((O2.out.setOut (qaf (Nat.le_succ _)) 0 _).setOut (qaf (Nat.le_succ _)) 1 _).setOut (qaf (Nat.le_succ _)) 2 _).setOut (qaf (Nat.le_succ _)) 3 _⟩
noncomputable def stC (y:Sy) (p f:Int):Int:=if y.okB=true then (if belB p y.pn=true then cmS y p.toNat f else 2) else 1
noncomputable def stY (y:Sy) (p f:Int):Sy:=if y.okB=true then (if belB p y.pn=true then y.step p.toNat f else y) else { y with pn:=0,sn:=0,wn:=0,hn:=0 }
theorem qll (x:SysIn) (p f:Int) (w:World) (hG:SysG w x) (hL:x.Len) (hcap:∀ i,i<x.hn->x.hL i<=x.hC i):
  Calls Tryz.prog 212 #[x.v,.int .i64 p,.int .i64 f] w fun e w'=>∃ v,e=.returned (.tuple #[v,.int .i64 (stC x.y p f)])/\qaw true w' w.heap.size (stY x.y p f) v/\Below w.heap.size w w':=by
 have HG:Hid (SysG w x):=hG;have HL:Hid x.Len:=hL;have HS:Hid (∀ wx,Below w.heap.size w wx->Calls Tryz.prog 40 #[x.v] wx fun e w'=>e=.returned (.bool x.y.okB)/\Below wx.heap.size wx w'):=fun wx hb=>qcf x wx (HG.out.below hb) hL hcap;have HC4:Hid (∀ wx,Below w.heap.size w wx->Calls Tryz.prog 61 #[x.v] wx fun e w'=>∃ v,e=.returned v/\qaw true w' wx.heap.size x.y v/\Below wx.heap.size wx w'):=fun wx hb=>qeb x wx (HG.out.below hb) hL;have BW:Hid (Below w.heap.size w ((w.alloc (oQ5 x.pa x.pn x.pc x.sa x.sn x.sc x.wa x.wn x.wc x.ha x.hn x.hc)).alloc (zQ4))):=(zQ _ _).trans ((zQ _ _).mono (by simp));have NB:Hid (BoxC ((w.alloc (oQ5 x.pa x.pn x.pc x.sa x.sn x.sc x.wa x.wn x.wc x.ha x.hn x.hc)).alloc (zQ4)) w.heap.size (.slice x.pa x.pn x.pc) (.slice x.sa x.sn x.sc) (.slice x.wa x.wn x.wc) (.slice x.ha x.hn x.hc)):=(BoxC.new w _ _ _ _ _).below (zQ _ _);have RB:Hid (BoxC ((w.alloc (oQ5 x.pa x.pn x.pc x.sa x.sn x.sc x.wa x.wn x.wc x.ha x.hn x.hc)).alloc (zQ4)) (w.heap.size+1) (.slice none 0 0) (.slice none 0 0) (.slice none 0 0) (.slice none 0 0)/\∀ j,((w.alloc (oQ5 x.pa x.pn x.pc x.sa x.sn x.sc x.wa x.wn x.wc x.ha x.hn x.hc)).alloc (zQ4)).frozen? ⟨w.heap.size+1,j,none⟩=false):=⟨⟨zW _ _ _ 0 (by simp),zW _ _ _ 1 (by simp),zW _ _ _ 2 (by simp),zW _ _ _ 3 (by simp)⟩,fun j=>yB _ _ _ _ (by simp)⟩
 have hM:w.heap.size<=w.heap.size+1:=Nat.le_succ _;clear hG hL hcap
 go_enter Tryz.func212,Tryz.ntmps212
 go_wp2_with fail
 generalize (w.alloc (oQ5 x.pa x.pn x.pc x.sa x.sn x.sc x.wa x.wn x.wc x.ha x.hn x.hc)).alloc (zQ4)=W2 at *;refine (HS.out W2 BW.out).mono ?_;rintro e w1 ⟨rfl,q1⟩;have B1:Hid (Below w.heap.size w w1/\BoxC w1 w.heap.size (.slice x.pa x.pn x.pc) (.slice x.sa x.sn x.sc) (.slice x.wa x.wn x.wc) (.slice x.ha x.hn x.hc)/\BoxC w1 (w.heap.size+1) (.slice none 0 0) (.slice none 0 0) (.slice none 0 0) (.slice none 0 0)/\∀ j,w1.frozen? ⟨w.heap.size+1,j,none⟩=false):=⟨BW.out.trans (q1.mono BW.out.size),NB.out.below q1,RB.1.below q1,fun j=>((qag q1).2 _ j (zJ _ _ RB.1.1)).trans (RB.2 j)⟩
 clear q1 BW NB RB HS;have l1:w.heap.size+1<w1.heap.size:=zJ _ _ B1.2.2.1.1;obtain ⟨b0,b1,b2,b3⟩:=B1.2.1
 rcases zK x.y.okB with t | t
 case inr=>
  have HV:Hid (stC x.y p f=1/\stY x.y p f={ x.y with pn:=0,sn:=0,wn:=0,hn:=0 }):=⟨if_neg (by rw [t];simp),if_neg (by rw [t];simp)⟩
  obtain ⟨⟨r0,r1,r2,r3⟩,rf⟩:=B1.2.2;rw [t];clear t;go_wp2;exact bodyPost_ret (v:=.tuple #[sysV none 0 0 none 0 0 none 0 0 none 0 0,.int .i64 1]) (by simp [results,Tryz.results212,go_sem,r0,r1,r2,r3]) rfl ⟨_,by rw [HV.1],by rw [HV.2];exact qaw.zero _ _ _,(((B1.1.setCell hM _).setCell hM _).setCell hM _).setCell hM _⟩
 have HO:Hid x.y.Ok:=Sy.ok_of t
 have HC:Hid (∀ wx v,w1.heap.size<=wx.heap.size->qaw true wx w1.heap.size x.y v->Calls Tryz.prog 45 #[v,.int .i64 p,.int .i64 f] wx fun e w'=>e=.returned (.tuple #[v,.int .i64 (stC x.y p f)])/\Below w1.heap.size wx w'/\qaw true w' w1.heap.size (stY x.y p f) v):=by
  show ∀ wx v,_;intro wx v hwx o;have hc4:x.y.pn<=4:=HO.out.cn.1.2;by_cases hb:belB p x.y.pn=true
  ·have hb':0<=p/\p<(x.y.pn:Int):=by simpa [belB] using hb
   obtain ⟨k,rfl⟩:∃ k:Nat,p=k:=⟨p.toNat,by omega⟩
   rw [stC,if_pos t,if_pos hb,stY,if_pos t,if_pos hb];exact qh4 x.y k f wx _ v o (by omega) HO.out
  ·rw [stC,if_pos t,if_neg hb,stY,if_pos t,if_neg hb]
   exact qow x.y p f wx _ v o hwx (by omega) (by
    simp only [inB,decide_eq_false_iff_not];simp only [belB,decide_eq_true_eq] at hb
    omega)
 have HZ:Hid (stC x.y p f≠0->stY x.y p f=x.y):=fun h=>by
  rw [stC,if_pos t] at h;rw [stY,if_pos t];by_cases hb:belB p x.y.pn=true
  ·rw [if_pos hb] at h ⊢
   exact Sy.step_no h
  ·rw [if_neg hb]
 rw [t];clear t;go_wp2_with fail
 refine (HC4.out w1 B1.1).mono ?_;rintro e w3 ⟨v3,rfl,o3,q3⟩;obtain ⟨pa,pc,sa,sc,wa,wc,ha,hc,rfl⟩:=o3.form;have HC':=HC.out w3 _ q3.size o3;clear HC;generalize hC:stC x.y p f=C at *;generalize hY:stY x.y p f=Y at *;go_wp2_with fail
 refine HC'.mono ?_;rintro e w5 ⟨rfl,q5,o5⟩;have Q5:Below w1.heap.size w1 w5:=q3.trans q5;have B5:Hid (Below w.heap.size w w5/\BoxC w5 w.heap.size (.slice x.pa x.pn x.pc) (.slice x.sa x.sn x.sc) (.slice x.wa x.wn x.wc) (.slice x.ha x.hn x.hc)/\BoxC w5 (w.heap.size+1) (.slice none 0 0) (.slice none 0 0) (.slice none 0 0) (.slice none 0 0)/\(∀ j,w5.frozen? ⟨w.heap.size+1,j,none⟩=false)/\w1.heap.size<=w5.heap.size/\qaw true w5 w1.heap.size Y (sysV pa x.y.pn pc sa x.y.sn sc wa x.y.wn wc ha x.y.hn hc)):=⟨B1.1.trans (Q5.mono B1.1.size),B1.2.1.below Q5,B1.2.2.1.below Q5,fun j=>((qag Q5).2 _ j l1).trans (B1.2.2.2 j),Q5.size,o5⟩
 clear o3 q3 q5 o5 Q5 HC' B1 b0 b1 b2 b3;obtain ⟨b0,b1,b2,b3⟩:=B5.2.1;obtain ⟨r0,r1,r2,r3⟩:=B5.2.2.1;have rf:=B5.2.2.2.1;have l5:w.heap.size+1<w5.heap.size:=zJ _ _ r0;have l50:w.heap.size<w5.heap.size:=by omega
 by_cases hc0:C=0
 ·subst hc0
  go_wp2
  exact bodyPost_ret (v := .tuple #[sysV pa x.y.pn pc sa x.y.sn sc wa x.y.wn wc ha x.y.hn hc, .int .i64 0]) (by simp [results, Tryz.results212, go_sem, r0, r1, r2, r3, l5]) rfl ⟨_, by rw [hC], by
   rw [hY]
   exact (((((B5.2.2.2.2.2.setBelow l1 0 _).setBelow l1 1 _).setBelow l1 2 _).setBelow l1 3 _).below (zQ _ _)).base (by omega),((((B5.1.setCell hM _).setCell hM _).setCell hM _).setCell hM _).trans ((zQ _ _).mono (by simp;omega))⟩
 ·have tc:(C == 0)=false:=by simpa using hc0
  go_wp2_with fail
  refine (HC4.out _ (B5.1.trans ((zQ _ _).mono (Nat.le_of_lt l50)))).mono ?_;rintro e w7 ⟨v7,rfl,o7,q7⟩;obtain ⟨pa7,pc7,sa7,sc7,wa7,wc7,ha7,hc7,rfl⟩:=o7.form;have Q7:Below w5.heap.size w5 w7:=(zQ _ _).trans (q7.mono (by simp));have hc:=(qag Q7).1;replace r0:=(hc _ _ l5).trans r0;replace r1:=(hc _ _ l5).trans r1;replace r2:=(hc _ _ l5).trans r2;replace r3:=(hc _ _ l5).trans r3;replace rf:∀ j,w7.frozen? ⟨w.heap.size+1,j,none⟩=false:=fun j=>((qag Q7).2 _ j l5).trans (rf j);have l7:w.heap.size+1<w7.heap.size:=zL l5 Q7.size;have B7:Hid (Below w.heap.size w w7/\qaw true w7 w5.heap.size x.y (sysV pa7 x.y.pn pc7 sa7 x.y.sn sc7 wa7 x.y.wn wc7 ha7 x.y.hn hc7)):=⟨B5.1.trans (Q7.mono (Nat.le_of_lt l50)),o7.base (by simp)⟩
  clear o7 q7 Q7 hc B5 b0 b1 b2 b3;go_wp2
  exact bodyPost_ret (v := .tuple #[sysV pa7 x.y.pn pc7 sa7 x.y.sn sc7 wa7 x.y.wn wc7 ha7 x.y.hn hc7, .int .i64 C]) (by simp [results, Tryz.results212, go_sem, r0, r1, r2, r3]) rfl ⟨_, by rw [hC], by
   rw [hY,HZ.out hc0]
   exact ((((B7.2.setBelow l5 0 _).setBelow l5 1 _).setBelow l5 2 _).setBelow l5 3 _).base (by omega),(((B7.1.setCell hM _).setCell hM _).setCell hM _).setCell hM _⟩
def SysT (w:World) (B T:Nat) (y:Sy) (v:Value):Prop:=∃ c vp vs vw vh up us uw uh,v=.agg #[vp,vs,vw,vh]/\OwnS false w B c y vp vs vw vh up us uw uh/\∀ b,T<=b->c b=0
theorem OwnS.sysT {z:Bool} {w:World} {B:Nat} {c:Nat->Nat} {y:Sy} {vp vs vw vh:Value} {up us uw uh:Nat->Value} (o:OwnS z w B c y vp vs vw vh up us uw uh):SysT w B w.heap.size y (.agg #[vp,vs,vw,vh]):=by
 have o:=o.weak
 have h : ∀ i k, Cl B c i k → k < w.heap.size → Cl B (fun b => if b < w.heap.size then c b else 0) i k := fun i k hk hl => ⟨hk.1, by
  show (if k<w.heap.size then c k else 0)=i;rw [if_pos hl]
  exact hk.2⟩
 exact ⟨fun b=>if b<w.heap.size then c b else 0,vp,vs,vw,vh,up,us,uw,uh,rfl,⟨o.p.mono (h 1),o.s.mono (h 2),o.t.mono (h 3),o.h.mono (h 4)⟩,fun b hb=>if_neg (by omega)⟩
theorem qaw.sysT {z:Bool} {w:World} {B:Nat} {y:Sy} {v:Value} (o:qaw z w B y v):SysT w B w.heap.size y v:=by
 obtain ⟨c,vp,vs,vw,vh,up,us,uw,uh,rfl,o⟩:=o;exact OwnS.sysT o
theorem Own1.sysT {w:World} {B T n:Nat} {L:Nat->Nat} {H:Nat->Nat->I5} {vp vs vw vh:Value} (o:Own1 w B T n L H vp vs vw vh):SysT w B w.heap.size (nwY n L H) (.agg #[vp,vs,vw,vh]):=by
 obtain ⟨c,up,us,o⟩:=o.s;exact OwnS.sysT o
theorem SysT.keep {w w':World} {B T:Nat} {y:Sy} {v:Value} (o:SysT w B T y v) (h:∀ b,B<=b->b<T->b<w.heap.size->w'.heap[b]? = w.heap[b]?):SysT w' B T y v:=by
 obtain ⟨c,vp,vs,vw,vh,up,us,uw,uh,e,o,ht⟩:=o
 have key : ∀ i, i ≠ 0 → ∀ k, Cl B c i k → k < w.heap.size → w'.heap[k]? = w.heap[k]? := fun i hi k hk hl => h k hk.1 (by
  apply Classical.byContradiction;intro hn;have h1:=ht k (by omega);have h2:c k=i:=hk.2
  omega) hl
 exact ⟨c,vp,vs,vw,vh,up,us,uw,uh,e,⟨o.p.keep (key 1 (by decide)),o.s.keep (key 2 (by decide)),o.t.keep (key 3 (by decide)),o.h.keep (key 4 (by decide))⟩,ht⟩
theorem SysT.below {w w':World} {B T:Nat} {y:Sy} {v:Value} (o:SysT w B T y v) (hb:Below w.heap.size w w'):SysT w' B T y v:=o.keep fun b _ _ hl=>hb.block b hl
theorem SysT.base {w:World} {B B' T:Nat} {y:Sy} {v:Value} (o:SysT w B T y v) (h:B'<=B):SysT w B' T y v:=by
 obtain ⟨c,vp,vs,vw,vh,up,us,uw,uh,e,o,ht⟩:=o;exact ⟨c,vp,vs,vw,vh,up,us,uw,uh,e,⟨o.p.mono fun _ q _=>⟨zP h q.1,q.2⟩,o.s.mono fun _ q _=>⟨zP h q.1,q.2⟩,o.t.mono fun _ q _=>⟨zP h q.1,q.2⟩,o.h.mono fun _ q _=>⟨zP h q.1,q.2⟩⟩,ht⟩
theorem SysT.top {w:World} {B T T':Nat} {y:Sy} {v:Value} (o:SysT w B T y v) (h:T<=T'):SysT w B T' y v:=by
 obtain ⟨c,vp,vs,vw,vh,up,us,uw,uh,e,o,ht⟩:=o;exact ⟨c,vp,vs,vw,vh,up,us,uw,uh,e,o,fun b hb=>ht b (by omega)⟩
theorem qpm {w:World} {B sz n:Nat} {e:TypeId} {u:Value} {xs:List Value} (o:w.ownsRow B e sz u n xs):n<=cpOf u:=by
 rcases o.2 with ⟨rfl,h⟩ | ⟨g,cap,cur,rfl,_,_,hnc,_⟩
 ·rw [h];exact Nat.zero_le _
 ·exact hnc
structure SysX (w:World) (B T:Nat) (x:SysIn):Prop where
 g:∀ w',(∀ b,B<=b->b<T->b<w.heap.size->w'.heap[b]? = w.heap[b]?)->SysG w' x
 cap:∀ i,i<x.hn->x.hL i<=x.hC i
 nn:x.Nn false
theorem SysT.x {w:World} {B T:Nat} {y:Sy} {v:Value} (o:SysT w B T y v):∃ x:SysIn,v=x.v/\x.y=y/\SysX w B T x:=by
 obtain ⟨c,vp,vs,vw,vh,up,us,uw,uh,rfl,o,ht⟩:=o;refine ⟨y.sysIn vp vs vw vh up us uw uh,o.v.symm,rfl,fun w' h=>?_,fun i hi=>qpm (o.h.own i hi),o.nf⟩
 have key : ∀ i, i ≠ 0 → ∀ k, Cl B c i k → k < w.heap.size → w'.heap[k]? = w.heap[k]? := fun i hi k hk hl => h k hk.1 (by
  apply Classical.byContradiction;intro hn;have h1:=ht k (by omega);have h2:c k=i:=hk.2
  omega) hl
 exact OwnS.g (z:=false) (B:=B) (c:=c) ⟨o.p.keep (key 1 (by decide)),o.s.keep (key 2 (by decide)),o.t.keep (key 3 (by decide)),o.h.keep (key 4 (by decide))⟩
theorem SysX.abv {w w':World} {B T c:Nat} {x:SysIn} (h:SysX w B T x) (hc:c<B) (ha:Abv c w w'):SysG w' x:=h.g w' fun b hb _ hl=>ha.2 b (by omega) hl
theorem SysX.below {w w':World} {B T:Nat} {x:SysIn} (h:SysX w B T x) (hb:Below w.heap.size w w'):SysG w' x:=h.g w' fun b _ _ hl=>hb.block b hl
theorem SysX.self {w:World} {B T:Nat} {x:SysIn} (h:SysX w B T x):SysG w x:=h.g w fun _ _ _ _=>rfl
theorem Sy.Sm.inLen {x:SysIn} (h:x.y.Sm):x.Len:=by
 obtain ⟨⟨h1,h2,h3,h4⟩,hp,hs,hw,hh⟩:=h;have h1':x.pn<=16:=h1;have h2':x.sn<=16:=h2;have h3':x.wn<=16:=h3;have h4':x.hn<=16:=h4;refine ⟨⟨by omega,fun i hi=>?_⟩,⟨by omega,fun i hi=>?_⟩,⟨by omega,fun i hi=>?_⟩,⟨by omega,fun i hi=>?_⟩⟩
 ·have:x.pL i<=1000:=hp i hi
  omega
 ·have:(x.sQ i).rs.length<=1000/\(x.sQ i).os.length<=1000:=hs i hi
  omega
 ·have:x.wL i<=1000:=hw i hi
  omega
 ·have:x.hL i<=1000:=hh i hi
  omega
def Sy.Good (y:Sy):Prop:=y.Ok\/(y.pn=0/\y.sn=0/\y.wn=0/\y.hn=0)
theorem Sy.Good.sm {y:Sy} (h:y.Good):y.Sm:=by
 rcases h with h | ⟨h1,h2,h3,h4⟩
 ·exact h.sm
 ·exact ⟨by omega,fun i hi=>by omega,fun i hi=>by omega,fun i hi=>by omega,fun i hi=>by omega⟩
theorem Sy.Good.step {y:Sy} (_h:y.Good) {p f:Int} (hc:stC y p f=0):(stY y p f).Good:=by
 unfold stC at hc;unfold stY;by_cases ho:y.okB=true
 ·rw [if_pos ho] at hc ⊢
  by_cases hb:belB p y.pn=true
  ·rw [if_pos hb] at hc ⊢
   have hb':0<=p/\p<(y.pn:Int):=by simpa [belB] using hb
   exact .inl ((Sy.ok_of ho).step (by omega) hc)
  ·rw [if_neg hb] at hc
   cases hc
 ·rw [if_neg ho] at hc
  cases hc
structure DK (w wr:World) (W0 c:Nat) (a0:Option Addr) (len cap B T:Nat) (y:Sy) (v:Value):Prop where
 cu:Cur wr W0 c a0 len cap
 sy:SysT wr B T y v
 gr:w.grownBy wr (some c)
 lt:c<B
theorem DK.draw {w wr w':World} {W0 c:Nat} {a0:Option Addr} {len cap B T:Nat} {y:Sy} {v:Value} (h:DK w wr W0 c a0 len cap B T y v) (hc:Cur w' W0 c a0 len cap) (hg:wr.grownBy w' (some c)):DK w w' W0 c a0 len cap B T y v:=
 ⟨hc,h.sy.keep fun b hb _ hl=>hg.block b hl (by have:=h.lt;simp;omega),h.gr.trans hg,h.lt⟩
theorem DK.below {w wr w':World} {W0 c:Nat} {a0:Option Addr} {len cap B T:Nat} {y:Sy} {v:Value} (h:DK w wr W0 c a0 len cap B T y v) (hb:Below wr.heap.size wr w'):DK w w' W0 c a0 len cap B T y v:=
 ⟨h.cu.kept (zZ hb) (by simp) (fun k hk=>by cases hk),h.sy.below hb,h.gr.andThen (zZ hb) (fun j hj=>by cases hj),h.lt⟩
theorem DK.alloc {w wr:World} {W0 c:Nat} {a0:Option Addr} {len cap B T:Nat} {y:Sy} {v:Value} (h:DK w wr W0 c a0 len cap B T y v) (o:Obj):DK w (wr.alloc o) W0 c a0 len cap B T y v:=h.below (zQ _ _)
theorem DK.set {w wr:World} {W0 c:Nat} {a0:Option Addr} {len cap B T:Nat} {y:Sy} {v:Value} (h:DK w wr W0 c a0 len cap B T y v) {N:Nat} (hN:w.heap.size<=N) (hc:c≠N) (hT:N<B\/T<=N) (hW:W0<=N) (j:Nat) (u:Value):DK w (wr.setCell ⟨N,j,none⟩ u) W0 c a0 len cap B T y v:=by
 have hg:wr.grownBy (wr.setCell ⟨N,j,none⟩ u) (some N):=zV (World.grownBy.refl _ _) (.inl rfl) u;exact ⟨h.cu.kept hg (fun e=>hc (by simpa using e)) (fun k hk=>by cases hk;exact hW),h.sy.keep fun b hb ht hl=>hg.block b hl (by simp;omega),h.gr.andThen hg (fun k hk=>by cases hk;exact .inl hN),h.lt⟩
variable {z:Bool}
structure Hp (z:Bool) (w:World) (B:Nat) (c0:Nat->Nat) (k q v:Int) (y:Sy) (vp vs vw vh:Value) (wx:World):Prop where
 be:Below B w wx
 bx:BoxC wx w.heap.size vp vs vw vh
 ev:EvK wx (w.heap.size+1) k q v
 kp:∀ b,b<w.heap.size->c0 b=0->wx.heap[b]? = w.heap[b]?
 ow:∃ c up us uw uh,OwnS z wx B c y vp vs vw vh up us uw uh/\c w.heap.size=0/\c (w.heap.size+1)=0/\∀ b,b<w.heap.size->c b=c0 b
theorem Sy.Ok.lens {y:Sy} (h:y.Ok) {p:Nat} (hp:p<y.pn):y.pL p<=maxLen/\(y.sS p).rs.length<=1048576/\(y.sS p).os.length<=1048576:=by
 have h1:=h.four hp;simp only [qad,Bool.and_eq_true,inB,decide_eq_true_eq] at h1;obtain ⟨⟨r0,r1,r2,r3,e,-⟩,-,h60,-⟩:=qby (h.st hp);refine ⟨?_,by rw [e];simp,by omega⟩;have:=h1.2.1;unfold maxLen;omega
theorem qmu {w:World} {B sz n m c:Nat} {e:TypeId} {a:Option Addr} {xs:List Value} (h:w.ownsRow B e sz (.slice a n c) m xs):c<=maxLen:=by
 rcases h.2 with ⟨e,-⟩ | ⟨g,cap,cur,e,-,-,-,hc,-⟩
 ·simp only [Value.slice.injEq] at e
  omega
 ·simp only [Value.slice.injEq] at e
  omega
theorem Hp.below {w wx wy:World} {B:Nat} {c0:Nat->Nat} {k q v:Int} {y:Sy} {vp vs vw vh:Value} (h:Hp z w B c0 k q v y vp vs vw vh wx) (hB:B<=wx.heap.size) (b:Below wx.heap.size wx wy):Hp z w B c0 k q v y vp vs vw vh wy:=by
 obtain ⟨c,up,us,uw,uh,o,z0,z1,zc⟩:=h.ow;exact ⟨h.be.trans (b.mono hB),h.bx.below b,h.ev.below b,fun j hj hc=>(b.block j (Nat.lt_trans hj h.bx.ltM)).trans (h.kp j hj hc),c,up,us,uw,uh,o.below b,z0,z1,zc⟩
theorem Hp.le {w wx:World} {B:Nat} {c0:Nat->Nat} {k q v:Int} {y:Sy} {vp vs vw vh:Value} (h:Hp z w B c0 k q v y vp vs vw vh wx) (hB:B<=w.heap.size):B<=wx.heap.size:=zP hB (Nat.le_of_lt h.bx.ltM)
theorem qpo {c:Nat->Nat} {a b i j:Nat} (ha:c a=i) (hb:c b=j) (h:i≠j):a≠b:=fun e=>h (by rw [<- ha,<- hb,e])
theorem Hp.putW {w wx w1:World} {B g cap:Nat} {c0:Nat->Nat} {k q v:Int} {y:Sy} {vp vs vh:Value} (h:Hp z w B c0 k q v y vp vs (.slice (some ⟨g,0,none⟩) y.wn cap) vh wx) (hB:B<=w.heap.size) {J m:Nat} {u':Value} {H':Nat->I2} (hJ:J<y.wn) (b1:Below wx.heap.size wx w1) (hu:w1.ownsRow wx.heap.size 78 2 u' m (fT H' m)) (hne:u'≠.slice none 0 0):
  Hp z w B c0 k q v (y.setW J m H') vp vs (.slice (some ⟨g,0,none⟩) y.wn cap) vh (w1.setCell ⟨g,J,none⟩ u'):=by
 obtain ⟨c,up,us,uw,uh,o,z0,z1,zc⟩:=h.ow;have hg:=o.t.rb g rfl;have hz:∀ b,c b=0->b<wx.heap.size->(w1.setCell ⟨g,J,none⟩ u').heap[b]? = wx.heap[b]?:=fun b hb hl=>(zO _ _ _ _ (qpo hb hg.2 (by decide))).trans (b1.block b hl);have hW:=h.le hB;exact ⟨(h.be.trans (b1.mono hW)).setCell hg.1 _,h.bx.blkM (hz _ z0 h.bx.ltM),h.ev.blk (hz _ z1 h.ev.lt),fun j hj hc=>(hz j ((zc j hj).trans hc) (Nat.lt_trans hj h.bx.ltM)).trans (h.kp j hj hc),_,up,us,_,uh,o.putW hJ hW b1.size (fun b hb _=>b1.block b hb) (qcd hu) hne (fun b hb=>.inr (hu.lt b hb).1),(qau h.bx.ltM).trans z0,(qau h.ev.lt).trans z1,fun j hj=>(qau (Nat.lt_trans hj h.bx.ltM)).trans (zc j hj)⟩
theorem Hp.putH {w wx w1:World} {B g cap:Nat} {c0:Nat->Nat} {k q v:Int} {y:Sy} {vp vs vw:Value} (h:Hp z w B c0 k q v y vp vs vw (.slice (some ⟨g,0,none⟩) y.hn cap) wx) (hB:B<=w.heap.size) {J m:Nat} {u':Value} {H':Nat->E3} (hJ:J<y.hn) (b1:Below wx.heap.size wx w1) (hu:w1.ownsRow wx.heap.size 57 3 u' m (fE H' m)) (hne:u'≠.slice none 0 0):
  Hp z w B c0 k q v (y.setH J m H') vp vs vw (.slice (some ⟨g,0,none⟩) y.hn cap) (w1.setCell ⟨g,J,none⟩ u'):=by
 obtain ⟨c,up,us,uw,uh,o,z0,z1,zc⟩:=h.ow;have hg:=o.h.rb g rfl;have hz:∀ b,c b=0->b<wx.heap.size->(w1.setCell ⟨g,J,none⟩ u').heap[b]? = wx.heap[b]?:=fun b hb hl=>(zO _ _ _ _ (qpo hb hg.2 (by decide))).trans (b1.block b hl);have hW:=h.le hB;exact ⟨(h.be.trans (b1.mono hW)).setCell hg.1 _,h.bx.blkM (hz _ z0 h.bx.ltM),h.ev.blk (hz _ z1 h.ev.lt),fun j hj hc=>(hz j ((zc j hj).trans hc) (Nat.lt_trans hj h.bx.ltM)).trans (h.kp j hj hc),_,up,us,uw,_,o.putH hJ hW b1.size (fun b hb _=>b1.block b hb) (qcd hu) hne (fun b hb=>.inr (hu.lt b hb).1),(qau h.bx.ltM).trans z0,(qau h.ev.lt).trans z1,fun j hj=>(qau (Nat.lt_trans hj h.bx.ltM)).trans (zc j hj)⟩
theorem Hp.putS {w wx w1:World} {B g cap:Nat} {c0:Nat->Nat} {k q v:Int} {y:Sy} {vp vw vh:Value} (h:Hp z w B c0 k q v y vp (.slice (some ⟨g,0,none⟩) y.sn cap) vw vh wx) (hB:B<=w.heap.size) {i:Nat} (hi:i<y.sn) {ra oa:Option Addr} {rn rc on oc:Nat} {p code:Int} {T:S4} (b1:Below wx.heap.size wx w1) (hu:qah w1 wx.heap.size (stV p ra rn rc oa on oc code) T.p T.rs T.os T.c):
  Hp z w B c0 k q v (y.setS i T) vp (.slice (some ⟨g,0,none⟩) y.sn cap) vw vh ((((w1.setCell ⟨g,i*4,none⟩ (.int .i64 p)).setCell ⟨g,i*4+1,none⟩ (.slice ra rn rc)).setCell ⟨g,i*4+2,none⟩ (.slice oa on oc)).setCell ⟨g,i*4+3,none⟩ (.int .i64 code)):=by
 obtain ⟨c,up,us,uw,uh,o,z0,z1,zc⟩:=h.ow;have hg:=o.s.rb g rfl
 have hz:∀ b,c b=0->b<wx.heap.size->((((w1.setCell ⟨g,i*4,none⟩ (.int .i64 p)).setCell ⟨g,i*4+1,none⟩ (.slice ra rn rc)).setCell ⟨g,i*4+2,none⟩ (.slice oa on oc)).setCell ⟨g,i*4+3,none⟩ (.int .i64 code)).heap[b]? = wx.heap[b]?:=fun b hb hl=>by
  have hn:=qpo hb hg.2 (by decide);exact ((zO _ _ _ _ hn).trans ((zO _ _ _ _ hn).trans ((zO _ _ _ _ hn).trans (zO _ _ _ _ hn)))).trans (b1.block b hl)
 have hW:=h.le hB;exact ⟨((((h.be.trans (b1.mono hW)).setCell hg.1 _).setCell hg.1 _).setCell hg.1 _).setCell hg.1 _,h.bx.blkM (hz _ z0 h.bx.ltM),h.ev.blk (hz _ z1 h.ev.lt),fun j hj hc=>(hz j ((zc j hj).trans hc) (Nat.lt_trans hj h.bx.ltM)).trans (h.kp j hj hc),_,up,_,uw,uh,o.putS hi hW b1 hu,(qau h.bx.ltM).trans z0,(qau h.ev.lt).trans z1,fun j hj=>(qau (Nat.lt_trans hj h.bx.ltM)).trans (zc j hj)⟩
def OwnK (z:Bool) (w:World) (B:Nat) (c0:Nat->Nat) (N:Nat) (y:Sy) (vp vs vw vh:Value):Prop:=∃ c up us uw uh,OwnS z w B c y vp vs vw vh up us uw uh/\∀ b,b<N->c b=c0 b
theorem OwnK.own {w:World} {B N:Nat} {c0:Nat->Nat} {y:Sy} {vp vs vw vh:Value} (h:OwnK z w B c0 N y vp vs vw vh):qaw z w B y (.agg #[vp,vs,vw,vh]):=by
 obtain ⟨c,up,us,uw,uh,o,-⟩:=h;exact ⟨c,vp,vs,vw,vh,up,us,uw,uh,rfl,o⟩
theorem Hp.ownK {w wx:World} {B:Nat} {c0:Nat->Nat} {k q v:Int} {y:Sy} {vp vs vw vh:Value} (h:Hp z w B c0 k q v y vp vs vw vh wx):OwnK z wx B c0 w.heap.size y vp vs vw vh:=by
 obtain ⟨c,up,us,uw,uh,o,-,-,hc⟩:=h.ow;exact ⟨c,up,us,uw,uh,o,hc⟩
theorem NwS.progs {W1:World} {N n k:Nat} {L:Nat->Nat} {H:Nat->Nat->I5} {own:Bool} {w w':World} {vp vs vw vh:Value} {c:Nat->Nat} {up us:Nat->Value} (h:NwS W1 N n L H own k w vp vs vw vh c up us) {v:Value} {u:Nat->Value} (o:LI true w' (fun j=>w.heap.size<=j/\j<w'.heap.size) v n u L H) (hb:Below w.heap.size w w'):NwS W1 N n L H true k (w'.setCell ⟨N,0,none⟩ v) v vs vw vh (rcol c w.heap.size 1) u us:=by
 have hs:=h.be.size;have hN:=h.lt;have h2:=h.below hb;have hcN:rcol c w.heap.size 1 N=0:=(qau hN).trans h.cN;have hk:∀ i,i≠0->∀ j,Cl W1.heap.size (rcol c w.heap.size 1) i j->j<w'.heap.size->(w'.setCell ⟨N,0,none⟩ v).heap[j]? = w'.heap[j]?:=fun i hi j hj _=>zO _ _ _ _ fun e=>hi (by rw [<- hj.2,e,hcN]);obtain ⟨x0,x1,x2,x3⟩:=h2.bx;exact ⟨h2.be.setCell h.bN _,⟨World.cell?_setCell_same _ _ _ x0,(World.cell?_setCell_other _ _ _ _ (by simp)).trans x1,(World.cell?_setCell_other _ _ _ _ (by simp)).trans x2,(World.cell?_setCell_other _ _ _ _ (by simp)).trans x3⟩,fun j=>by rw [World.frozen?_setCell];exact h2.fr j,h.bN,hcN,fun _=>(o.mono fun j hj _=>⟨zP hs hj.1,qaf hj.1⟩).keep (hk 1 (by decide)),((h.s.mono fun j hj hl=>hj.old hl).below hb).keep (hk 2 (by decide)),((h.t.mono fun j hj hl=>hj.old hl).below hb).keep (hk 3 (by decide)),((h.h.mono fun j hj hl=>hj.old hl).below hb).keep (hk 4 (by decide))⟩
theorem qhq (pa:Option Addr) (n pc:Nat) (A:Nat->Option Addr) (L C:Nat->Nat) (H:Nat->Nat->I5) (w:World) (hn:n<=1048576) (hL:∀ i,i<n->L i<=1048576) (hr:RowS w pa n fun i=>.slice (A i) (L i) (C i)) (hI:∀ i,i<n->∃ b,A i=some ⟨b,0,none⟩/\b<w.heap.size/\qan w b 0 (L i) (H i)) (hV:w.cell? ⟨0,0,none⟩=some (.iface 253 (.agg #[.pointer (some ⟨1,171,none⟩)]))):
  Calls Tryz.prog 42 #[.slice pa n pc] w (NwR w n L H):=by
 have hn':(n:Int)<=1048576:=by omega
 have HR : Hid (∀ wx, Below w.heap.size w wx → (RowS wx pa n fun i => .slice (A i) (L i) (C i)) ∧ ∀ i, i < n → ∃ b, A i = some ⟨b, 0, none⟩ ∧ b < wx.heap.size ∧ qan wx b 0 (L i) (H i)) := fun wx hb => ⟨hr.below hb, fun i hi => by
  obtain ⟨b,e,hlt,h⟩:=hI i hi
  exact ⟨b,e,zL hlt hb.size,h.below hb hlt⟩⟩
 have HV0:Hid (∀ wx,Below w.heap.size w wx->wx.cell? ⟨0,0,none⟩=some (.iface 253 (.agg #[.pointer (some ⟨1,171,none⟩)]))):=fun wx hb=>(hb.cell (p:=⟨0,0,none⟩) (zJ w _ hV)).trans hV
 have HP:Hid (∀ wx,Below w.heap.size w wx->Calls Tryz.prog 92 #[.slice pa n pc] wx fun e w'=>∃ v u,e=.returned v/\LI true w' (fun k=>wx.heap.size<=k/\k<w'.heap.size) v n u L H/\Below wx.heap.size wx w'):=fun wx hb=>qge pa n pc A L C H wx hn hL (HR.out wx hb).1 fun i hi=>by
  obtain ⟨b,e,hlt,h⟩:=(HR.out wx hb).2 i hi;exact ⟨b,0,e,by rw [e];exact srcI hlt h⟩
 have HL:Hid (∀ i,i<n->L i<=1048576):=hL;have BW:Hid (Below w.heap.size w (w.alloc (zQ4))):=zQ _ _;have RB:Hid (BoxC (w.alloc (zQ4)) w.heap.size (.slice none 0 0) (.slice none 0 0) (.slice none 0 0) (.slice none 0 0)/\∀ j,(w.alloc (zQ4)).frozen? ⟨w.heap.size,j,none⟩=false):=⟨BoxC.new w _ _ _ _ _,fun j=>yB _ _ _ _ rfl⟩
 have hM:w.heap.size<=w.heap.size:=Nat.le_refl _;clear hL hr hI hV;by_cases h4:n<=4
 case neg=>
  have h4':(4:Int)<(n:Int):=by omega
  have HV:Hid (snB n L H=false):=by
   show snB n L H=false;rw [snB,decide_eq_false h4];rfl
  go_enter Tryz.func42,Tryz.ntmps42
  go_upto_region 1 with fail
  generalize w.alloc (zQ4)=W1 at *;obtain ⟨⟨r0,r1,r2,r3⟩,rf⟩:=RB.out;go_wp2;exact bodyPost_ret (v:=.tuple #[sysV none 0 0 none 0 0 none 0 0 none 0 0,.bool false]) (by simp [results,Tryz.results42,go_sem,r0,r1,r2,r3]) rfl (NwR.no HV.out ((((BW.out.setCell hM _).setCell hM _).setCell hM _).setCell hM _))
 have h4':¬ (4:Int)<(n:Int):=by omega
 obtain ⟨NN,hNN⟩:∃ NN,NN=n*n:=⟨_,rfl⟩
 have HNN:Hid (NN=n*n):=hNN;have hm0:(n:Int)*(n:Int)=(NN:Int):=by rw [hNN];simp
 have h16:NN<=16:=by rw [hNN];exact zP (Nat.mul_le_mul h4 h4) (by omega)
 have h16':(NN:Int)<=16:=by omega
 have hn4:(n:Int)<=4:=by omega
 clear hNN
 go_enter Tryz.func42,Tryz.ntmps42
 go_upto_region 4 with fail
 have z1:w.heap.size<(w.alloc (zQ4)).heap.size:=by simp
 generalize w.alloc (zQ4)=W1 at *;have F0:Hid (NwF W1 n L H false false false false (.slice pa n pc) undef undef undef W1.drew):=⟨(Below.refl _ _).drew,fun _=>0,(fun e=>by cases e),(fun e=>by cases e),(fun e=>by cases e),(fun e=>by cases e)⟩
 refine qak (fun _=>True) (fun _=>false) (by kernel_rfl) ?_;refine qaa 0 rfl trivial ?_;apply Exists.intro;refine ⟨fun wq hSw=>?_,?_⟩
 ·(try dsimp only at hSw)
  go_simp;try with_reducible rfl
 (try simp only [Act.put,zD,zE,zF])
 refine qaa 1 rfl trivial ?_;apply Exists.intro;refine ⟨fun wq hSw=>?_,?_⟩
 ·(try dsimp only at hSw)
  go_simp;try with_reducible rfl
 (try simp only [Act.put,zD,zE,zF])
 refine qaa 2 rfl trivial ?_;apply Exists.intro;refine ⟨fun wq hSw=>?_,?_⟩
 ·(try dsimp only at hSw)
  go_simp;try with_reducible rfl
 (try simp only [Act.put,zD,zE,zF])
 refine qaa 3 rfl trivial ⟨.int .i64 (NN:Int),fun wq _=>?_,?_⟩
 ·go_simp
  rw [IntKind.wrap_i64];omega
 (try simp only [Act.put,zD,zE,zF])
 refine qaa 5 rfl trivial ?_;apply Exists.intro;refine ⟨fun wq hSw=>?_,?_⟩
 ·(try dsimp only at hSw)
  go_simp;try with_reducible rfl
 (try simp only [Act.put,zD,zE,zF])
 refine qn7 5 #[true,true,true,true,false,true,false,false,false,false] (by kernel_rfl) (by kernel_rfl) ?_;refine qrm (fun b c d e=>#[true,true,true,true,b,true,c,e,d,false]) 4 6 8 7 (fun b c d x wq=>∃ v2 v3 v4,x=⟨#[.slice pa n pc,undef,.pointer (some ⟨w.heap.size,0,none⟩),.bool false,.int .i64 n,v4,.slice pa n pc,.int .i64 n,.int .i64 n,.bool false,undef,.slice pa n pc,.int .i64 n,.int .i64 n,.int .i64 NN,v2,.int .i64 n,v3,undef,undef,undef,undef,undef,undef,undef,undef,undef,undef,undef,undef,undef,undef,undef,undef,undef,undef,undef,undef],[]⟩/\NwF W1 n L H false b c d (.slice pa n pc) v2 v3 v4 wq) (fun d x wq=>∃ a2 c2 a3 c3 v4,x=⟨#[.slice pa n pc,undef,.pointer (some ⟨w.heap.size,0,none⟩),.bool false,.int .i64 n,v4,.slice pa n pc,.int .i64 n,.int .i64 n,.bool false,undef,.slice pa n pc,.int .i64 n,.int .i64 n,.int .i64 NN,.slice a2 (n*n) c2,.int .i64 n,.slice a3 n c3,.agg #[.slice pa n pc,.slice none 0 0,.slice a2 (n*n) c2,.slice a3 n c3],undef,undef,undef,undef,undef,undef,undef,undef,undef,undef,undef,undef,undef,undef,undef,undef,undef,undef,undef],[]⟩/\NwF W1 n L H false true true d (.slice pa n pc) (.slice a2 (n*n) c2) (.slice a3 n c3) v4 wq) (f0:=1) ?_ (fun _ _=>rfl) (fun _ _=>rfl) (fun _ _ _=>rfl) (fun _=>rfl) rfl (by kernel_rfl) (fun d=>by cases d <;> kernel_rfl) (fun d=>by cases d <;> kernel_rfl) (by kernel_rfl) (fun _ _ _ _ h=>h) ?_ ?_ ?_ ?_ ?_ ?_ 3 false false false _ _ rfl ⟨_,_,_,rfl,F0.out⟩
 ·intro b c d h
  cases b <;> cases c <;> cases d <;> first | exact absurd h (by decide) | kernel_rfl
 ·rintro c d x wq ⟨v2,v3,v4,rfl,F⟩
  have hmk:=qcs qum qql NN (by omega) wq;refine wpOp_step rfl fun K hK=>?_;go_simp;refine hK _ _ ⟨fun _ _=>trivial,.slice (some ⟨wq.heap.size,0,none⟩) NN NN,v3,v4,rfl,?_⟩;rw [HNN.out];exact F.two (by rw [<- HNN.out];omega)
 ·rintro b d x wq ⟨v2,v3,v4,rfl,F⟩
  have hmk:=qcs qul qnv n (by omega) wq;refine wpOp_step rfl fun K hK=>?_;go_simp;exact hK _ _ ⟨fun _ _=>trivial,v2,.slice (some ⟨wq.heap.size,0,none⟩) n n,v4,rfl,F.three (by omega)⟩
 ·rintro b c x wq ⟨v2,v3,v4,rfl,F⟩
  refine wpOp_step rfl fun K hK=>?_;go_simp;exact hK _ _ ⟨fun _ _=>trivial,v2,v3,.pointer (some ⟨wq.heap.size,0,none⟩),rfl,F.four⟩
 ·rintro d x wq ⟨v2,v3,v4,rfl,F⟩
  obtain ⟨k,-,h2,h3,-⟩:=F.ow;obtain ⟨a2,c2,rfl⟩:=zU (h2 rfl).row;obtain ⟨a3,c3,rfl⟩:=zU (h3 rfl).row;refine ⟨rfl,.agg #[.slice pa n pc,.slice none 0 0,.slice a2 (n*n) c2,.slice a3 n c3],fun wz=>?_,a2,c2,a3,c3,v4,rfl,F⟩;go_simp
 ·rintro x wq ⟨a2,c2,a3,c3,v4,rfl,F⟩
  refine wpOp_step rfl fun K hK=>?_;go_simp;exact hK _ _ ⟨fun _ _=>trivial,a2,c2,a3,c3,.pointer (some ⟨wq.heap.size,0,none⟩),rfl,F.four⟩
 rintro x w4 ⟨a2,c2,a3,c3,v4,rfl,F⟩;clear F0;obtain ⟨N,c,up,us,rfl,nl,⟨g0,g1,g2,g3⟩,gf,ns⟩:=NwS.start F rfl (.inr trivial);refine qac 9 rfl (by kernel_rfl) (fun K hK=>?_);go_simp;refine hK.out _ _ (fun _=>trivial) ?_;clear hK K
 (try simp only [zD,zE,zF])
 refine qas (by kernel_rfl) ?_ _;have NS0:Hid (NwS W1 N n L H false 0 ((((w4.setCell ⟨N,0,none⟩ (.slice pa n pc)).setCell ⟨N,1,none⟩ (.slice none 0 0)).setCell ⟨N,2,none⟩ (.slice a2 (n*n) c2)).setCell ⟨N,3,none⟩ (.slice a3 n c3)) (.slice pa n pc) (.slice none 0 0) (.slice a2 (n*n) c2) (.slice a3 n c3) c up us):=ns;clear ns g0 g1 g2 g3 gf nl F;go_upto_region 5 with fail
 generalize ((((w4.setCell ⟨N,0,none⟩ (.slice pa n pc)).setCell ⟨N,1,none⟩ (.slice none 0 0)).setCell ⟨N,2,none⟩ (.slice a2 (n*n) c2)).setCell ⟨N,3,none⟩ (.slice a3 n c3))=W5 at *;go_wp2_with fail
 go_loopw [21] (fun i wr=>∃ k:Nat,k<=n/\i=.int .i64 k/\Hid (∃ vs c up us,NwS W1 N n L H false k wr (.slice pa n pc) vs (.slice a2 (n*n) c2) (.slice a3 n c3) c up us)) (fun i _=>n - (intOf i).toNat)
 case atStart=>exact ⟨0,Nat.zero_le _,rfl,_,_,_,_,NS0.out⟩
 case round=>
  clear NS0 c up us;obtain ⟨k,hk,rfl,HK⟩:=hrel;obtain ⟨vs,c,up,us,ns⟩:=HK.out;have NS:Hid (NwS W1 N n L H false k wr (.slice pa n pc) vs (.slice a2 (n*n) c2) (.slice a3 n c3) c up us):=ns;clear ns HK;by_cases hlt:k<n
  ·have hlt':(k:Int)<(n:Int):=by omega
   go_wp2_with fail
   obtain ⟨x0,x1,x2,x3⟩:=NS.out.bx;have xf:=NS.out.fr;obtain ⟨sa,sc,rfl⟩:=zU NS.out.s.row;have nl:=NS.out.lt;refine qak (fun w'=>w'.cell? ⟨N,1,none⟩=some (.slice sa k sc)) (fun i=>i == 6) (by kernel_rfl) ?_;have hHeld:(fun w':World=>w'.cell? ⟨N,1,none⟩=some (.slice sa k sc)) wr.drew:=x1;refine qa7 [0,1] ?_;iterate 2 (refine qat rfl hHeld ?_;apply Exists.intro;refine ⟨fun wq hSw=>?_,?_⟩;(· ((try dsimp only at hSw);go_simp;try with_reducible rfl));(try simp only [Act.put,zD,zE,zF]))
   refine qay ?_;refine qac 2 rfl (by kernel_rfl) (fun K hK=>?_);refine qal rfl 91 _ _ rfl #[] (by simp) (yA Tryz.func91 (by kernel_rfl) rfl) (qcp wr.drew) ?_;rintro e w5 ⟨u5,rfl,o5,d5⟩;refine ⟨_,rfl,?_⟩;obtain ⟨ra5,rc5,oa5,oc5,rfl,-,-⟩:=o5.read;have q5:Below wr.heap.size wr w5:=(Below.refl wr.heap.size wr).drew.trans d5;have hc5:=(qag q5).1;refine hK.out _ _ (fun _=>(hc5 _ _ nl).trans x1) ?_;clear hK K
   (try simp only [Act.put,zD,zE,zF])
   refine qac 3 rfl (by kernel_rfl) (fun K hK=>?_);go_simp;have ba:=zQ w5 (oQ1 0 ra5 4 rc5 oa5 0 oc5 0);refine hK.out _ _ (fun _=>((ba.cell (p:=⟨N,1,none⟩) (zL nl q5.size)).trans ((hc5 _ _ nl).trans x1))) ?_;clear ba;clear hK K
   (try simp only [Act.put,zD,zE,zF])
   refine qac 4 rfl (by kernel_rfl) (fun K hK=>?_);refine qa6 kndS w5 rfl rfl _ _ rfl 0 (.slice sa k sc) k _ rfl (NS.out.s.below q5).row #[.int .i64 0,.slice ra5 4 rc5,.slice oa5 0 oc5,.int .i64 0] rfl rfl (by intro u hu;simp at hu;rcases hu with rfl | rfl | rfl | rfl <;> rfl) (by omega) (Nat.zero_le _) ?_;intro v6 w6 o6 g6 q6 n6;obtain ⟨a6,c6,rfl⟩:=zU o6
   have gN : w6.heap[N]? = wr.heap[N]? := (g6.block N (Nat.lt_of_lt_of_le nl q5.size) fun e => by
    have:=(NS.out.s.rb N e.symm).2;rw [NS.out.cN] at this
    cases this).trans (q5.block N nl)
   have y1:=(zH gN).trans x1;have yf:∀ j,w6.frozen? ⟨N,j,none⟩=false:=fun j=>(zI gN).trans (xf j);have NS6:Hid (NwS W1 N n L H false (k+1) (w6.setCell ⟨N,1,none⟩ (.slice a6 (k+1) c6)) (.slice pa n pc) (.slice a6 (k+1) c6) (.slice a2 (n*n) c2) (.slice a3 n c3) (rcol c wr.heap.size 2) up (fun j=>if j=k then stV 0 ra5 4 rc5 oa5 0 oc5 0 else us j)):=NS.out.push q5 (o5.mono (by simp)) o6 g6 q6;refine hK.out _ _ (fun _=>y1) ?_;clear hHeld;have hHeld:(fun w':World=>w'.cell? ⟨N,1,none⟩=some (.slice sa k sc)) w6:=y1;clear o6 g6 q6 n6 gN;clear hK K
   (try simp only [Act.put,zD,zE,zF])
   refine qaa 5 rfl hHeld ?_;apply Exists.intro;refine ⟨fun wq hSw=>?_,?_⟩
   ·(try dsimp only at hSw)
    go_simp;try with_reducible rfl
   (try simp only [Act.put,zD,zE,zF])
   refine qac 6 rfl (by kernel_rfl) (fun K hK=>?_);have y2:=yf 1;go_simp;refine hK.out _ _ (fun h=>?_) ?_
   ·exact absurd h (by decide)
   clear hK K
   (try simp only [Act.put,zD,zE,zF])
   refine qas (by kernel_rfl) ?_ _;clear x0 x1 x2 x3 xf y1 y2 yf hHeld o5 d5 q5 hc5;go_wp2;go_roundw
   case rel=>exact ⟨k+1,by omega,by go_num,_,_,_,_,NS6.out⟩
   case measure=>simp [intOf];omega
  ·have hkn:k=n:=by omega
   have NS':=NS.out;rw [hkn] at NS';obtain ⟨sa,sc,rfl⟩:=zU NS'.s.row;have NE:Hid (NwS W1 N n L H false n wr (.slice pa n pc) (.slice sa n sc) (.slice a2 (n*n) c2) (.slice a3 n c3) c up us):=NS';clear NS NS' hkn
   have HG:Hid (∀ wx,Below wr.heap.size wr wx->Calls Tryz.prog 19 #[sysV pa n pc sa n sc a2 (n*n) c2 a3 n c3] wx fun e w'=>e=.returned (.bool (nwY n L H).okB)/\Below wx.heap.size wx w'):=fun wx hb=>by
    have h:=NE.out.below hb;have hw:=BW.out.trans (h.be.mono BW.out.size);exact qdk (nwX pa n pc A L C H (.slice sa n sc) (.slice a2 (n*n) c2) (.slice a3 n c3) us) wx (h.g (HR.out wx hw).1 (HR.out wx hw).2) (qqq h4 HL.out) (HV0.out wx hw)
   obtain ⟨x0,x1,x2,x3⟩:=NE.out.bx;go_wp2_with fail
   refine (HG.out wr (Below.refl _ _)).mono ?_;rintro e w6 ⟨rfl,q6⟩;have NF:Hid (NwS W1 N n L H false n w6 (.slice pa n pc) (.slice sa n sc) (.slice a2 (n*n) c2) (.slice a3 n c3) c up us):=NE.out.below q6;have hbe:=NF.out.be;have R6:Hid (BoxC w6 w.heap.size (.slice none 0 0) (.slice none 0 0) (.slice none 0 0) (.slice none 0 0)/\∀ j,w6.frozen? ⟨w.heap.size,j,none⟩=false):=⟨RB.1.below hbe,fun j=>((qag hbe).2 _ j z1).trans (RB.2 j)⟩
   have B6:Hid (Below w.heap.size w w6):=BW.out.trans (hbe.mono BW.out.size);clear q6 NE HG x0 x1 x2 x3 hbe;obtain ⟨⟨r0,r1,r2,r3⟩,rf⟩:=R6.out
   rcases zK (nwY n L H).okB with t | t
   case inr=>
    have HV:Hid (snB n L H=false):=by
     show snB n L H=false;rw [snB,t,Bool.and_false]
    rw [t];clear t;go_wp2;exact bodyPost_ret (v:=.tuple #[sysV none 0 0 none 0 0 none 0 0 none 0 0,.bool false]) (by simp [results,Tryz.results42,go_sem,r0,r1,r2,r3]) rfl (NwR.no HV.out ((((B6.out.setCell hM _).setCell hM _).setCell hM _).setCell hM _))
   have HV:Hid (snB n L H=true):=by
    show snB n L H=true;rw [snB,t,decide_eq_true h4];rfl
   rw [t];clear t;go_wp2_with fail
   refine (HP.out w6 B6.out).mono ?_;rintro e w7 ⟨v7,u7,rfl,o7,q7⟩;obtain ⟨a7,c7,rfl⟩:=zU o7.row;have NG:Hid (NwS W1 N n L H true n (w7.setCell ⟨N,0,none⟩ (.slice a7 n c7)) (.slice a7 n c7) (.slice sa n sc) (.slice a2 (n*n) c2) (.slice a3 n c3) (rcol c w6.heap.size 1) u7 us):=NF.out.progs o7 q7;have N7:=NF.out.below q7;obtain ⟨x0,-,-,-⟩:=N7.bx;have xf:=N7.fr;go_upto_region 12 with fail
   clear o7 q7 N7 x0 xf r0 r1 r2 r3 rf;generalize w7.setCell ⟨N,0,none⟩ (.slice a7 n c7)=w8 at *;have hbe:=NG.out.be;have R8:Hid (BoxC w8 w.heap.size (.slice none 0 0) (.slice none 0 0) (.slice none 0 0) (.slice none 0 0)/\∀ j,w8.frozen? ⟨w.heap.size,j,none⟩=false):=⟨RB.1.below hbe,fun j=>((qag hbe).2 _ j z1).trans (RB.2 j)⟩
   have B8:Hid (Below w.heap.size w w8):=BW.out.trans (hbe.mono BW.out.size);clear hbe;obtain ⟨⟨r0,r1,r2,r3⟩,rf⟩:=R8.out;obtain ⟨x0,x1,x2,x3⟩:=NG.out.bx;go_wp2;exact bodyPost_ret (v:=.tuple #[sysV a7 n c7 sa n sc a2 (n*n) c2 a3 n c3,.bool true]) (by simp [results,Tryz.results42,go_sem,r0,r1,r2,r3]) rfl (NwR.yes HV.out (((NG.out.own1 rfl).out4 z1 _ _ _ _).base (Nat.le_of_lt z1) (by simp)) ((((B8.out.setCell hM _).setCell hM _).setCell hM _).setCell hM _))
