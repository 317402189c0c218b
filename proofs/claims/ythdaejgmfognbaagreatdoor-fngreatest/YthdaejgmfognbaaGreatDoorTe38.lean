import Derived.Test.YthdaejgmfognbaaGreatDoorTe0
import Derived.Test.YthdaejgmfognbaaGreatDoorTe37
import Derived.Test.YthdaejgmfognbaaGreatDoorTe35
import Derived.Test.YthdaejgmfognbaaGreatDoorTe33
import Derived.Test.YthdaejgmfognbaaGreatDoorTe36
import Derived.Test.YthdaejgmfognbaaGreatDoorTe29
import Derived.Deep.Cut
namespace Go.Proofs.YthdaejgmfognbaaGreatDoor
set_option maxRecDepth 100000
set_option maxHeartbeats 4000000
open Go.ChangeShapes Go.WideShapes Go.ChangeAt Go.RowKit Go.Deep
theorem l5Step_out (y:Sy) (p f:Int) (w:World) (B:Nat) (v:Value) (o:OwnSys true w B y v) (hB:B<=w.heap.size) (hn:y.pn<=1048576) (t1:inB p 0 ((y.pn:Int) - 1)=false):
  Calls Tryz.prog 180 #[v,.int .i64 p,.int .i64 f] w fun e w'=>e=.returned (.tuple #[v,.int .i64 2])/\Below B w w'/\OwnSys true w' B y v:=by
 obtain ⟨c,vp,vs,vw,vh,up,us,uw,uh,rfl,o⟩:=o
 obtain ⟨pa,pc,rfl⟩:=zU o.p.row
 obtain ⟨sa,sc,rfl⟩:=zU o.s.row
 obtain ⟨wa,wc,rfl⟩:=zU o.t.row
 obtain ⟨ha,hc,rfl⟩:=zU o.h.row
 have hpn:(y.pn:Int)<=1048576:=by omega
 have hM:B<=w.heap.size+1:=by omega
 have BW:Hid (Below w.heap.size w ((w.alloc (oQ4 pa y.pn pc sa y.sn sc wa y.wn wc ha y.hn hc)).alloc (zQ4))):=(zQ _ _).trans ((zQ _ _).mono (by simp))
 have NB:Hid (BoxC ((w.alloc (oQ4 pa y.pn pc sa y.sn sc wa y.wn wc ha y.hn hc)).alloc (zQ4)) w.heap.size (.slice pa y.pn pc) (.slice sa y.sn sc) (.slice wa y.wn wc) (.slice ha y.hn hc)):=(BoxC.new w _ _ _ _ _).below (zQ _ _)
 have RB:Hid (BoxC ((w.alloc (oQ4 pa y.pn pc sa y.sn sc wa y.wn wc ha y.hn hc)).alloc (zQ4)) (w.heap.size+1) (.slice none 0 0) (.slice none 0 0) (.slice none 0 0) (.slice none 0 0)/\∀ j,((w.alloc (oQ4 pa y.pn pc sa y.sn sc wa y.wn wc ha y.hn hc)).alloc (zQ4)).frozen? ⟨w.heap.size+1,j,none⟩=false):=⟨⟨zW _ _ _ 0 (by simp),zW _ _ _ 1 (by simp),zW _ _ _ 2 (by simp),zW _ _ _ 3 (by simp)⟩,fun j=>yB _ _ _ _ (by simp)⟩
 have l1:w.heap.size+1<((w.alloc (oQ4 pa y.pn pc sa y.sn sc wa y.wn wc ha y.hn hc)).alloc (zQ4)).heap.size:=by simp
 have OO:Hid (OwnS true w B c y (.slice pa y.pn pc) (.slice sa y.sn sc) (.slice wa y.wn wc) (.slice ha y.hn hc) up us uw uh):=o
 clear o
 go_enter Tryz.func180,Tryz.ntmps180
 go_wp2_with fail
 refine (l1In_any _ _ _ _).mono ?_
 rintro e w1 ⟨rfl,rfl⟩
 rw [t1]
 generalize (w.alloc (oQ4 pa y.pn pc sa y.sn sc wa y.wn wc ha y.hn hc)).alloc (zQ4)=W2 at *
 obtain ⟨b0,b1,b2,b3⟩:=NB.out
 obtain ⟨⟨r0,r1,r2,r3⟩,rf⟩:=RB.out
 have O2:Hid (OwnS true W2 B (rcol c w.heap.size 0) y (.slice pa y.pn pc) (.slice sa y.sn sc) (.slice wa y.wn wc) (.slice ha y.hn hc) up us uw uh):=(OO.out.recol 0).below BW.out
 have BB:Hid (Below B w W2):=BW.out.mono hB
 go_wp2
 exact bodyPost_ret (v:=.tuple #[sysV pa y.pn pc sa y.sn sc wa y.wn wc ha y.hn hc,.int .i64 2]) (by simp [results,Tryz.results180,go_sem,r0,r1,r2,r3]) rfl ⟨rfl,(((BB.out.setCell hM _).setCell hM _).setCell hM _).setCell hM _,O2.out.out4 (rcol_new (Nat.le_succ _)) rfl _ _ _ _⟩
noncomputable def stC (y:Sy) (p f:Int):Int:=if y.okB=true then (if belB p y.pn=true then cmS y p.toNat f else 2) else 1
noncomputable def stY (y:Sy) (p f:Int):Sy:=if y.okB=true then (if belB p y.pn=true then y.step p.toNat f else y) else { y with pn:=0,sn:=0,wn:=0,hn:=0 }
theorem specStep_any (x:SysIn) (p f:Int) (w:World) (hG:SysG w x) (hL:x.Len) (hcap:∀ i,i<x.hn->x.hL i<=x.hC i):
  Calls Tryz.prog 167 #[x.v,.int .i64 p,.int .i64 f] w fun e w'=>∃ v,e=.returned (.tuple #[v,.int .i64 (stC x.y p f)])/\OwnSys true w' w.heap.size (stY x.y p f) v/\Below w.heap.size w w':=by
 have HG:Hid (SysG w x):=hG
 have HL:Hid x.Len:=hL
 have HS:Hid (∀ wx,Below w.heap.size w wx->Calls Tryz.prog 20 #[x.v] wx fun e w'=>e=.returned (.bool x.y.okB)/\Below wx.heap.size wx w'):=fun wx hb=>specSysOk_any x wx (HG.out.below hb) hL hcap
 have HC4:Hid (∀ wx,Below w.heap.size w wx->Calls Tryz.prog 181 #[x.v] wx fun e w'=>∃ v,e=.returned v/\OwnSys true w' wx.heap.size x.y v/\Below wx.heap.size wx w'):=fun wx hb=>l4Copy_any x wx (HG.out.below hb) hL
 have BW:Hid (Below w.heap.size w ((w.alloc (oQ4 x.pa x.pn x.pc x.sa x.sn x.sc x.wa x.wn x.wc x.ha x.hn x.hc)).alloc (zQ4))):=(zQ _ _).trans ((zQ _ _).mono (by simp))
 have NB:Hid (BoxC ((w.alloc (oQ4 x.pa x.pn x.pc x.sa x.sn x.sc x.wa x.wn x.wc x.ha x.hn x.hc)).alloc (zQ4)) w.heap.size (.slice x.pa x.pn x.pc) (.slice x.sa x.sn x.sc) (.slice x.wa x.wn x.wc) (.slice x.ha x.hn x.hc)):=(BoxC.new w _ _ _ _ _).below (zQ _ _)
 have RB:Hid (BoxC ((w.alloc (oQ4 x.pa x.pn x.pc x.sa x.sn x.sc x.wa x.wn x.wc x.ha x.hn x.hc)).alloc (zQ4)) (w.heap.size+1) (.slice none 0 0) (.slice none 0 0) (.slice none 0 0) (.slice none 0 0)/\∀ j,((w.alloc (oQ4 x.pa x.pn x.pc x.sa x.sn x.sc x.wa x.wn x.wc x.ha x.hn x.hc)).alloc (zQ4)).frozen? ⟨w.heap.size+1,j,none⟩=false):=⟨⟨zW _ _ _ 0 (by simp),zW _ _ _ 1 (by simp),zW _ _ _ 2 (by simp),zW _ _ _ 3 (by simp)⟩,fun j=>yB _ _ _ _ (by simp)⟩
 have hM:w.heap.size<=w.heap.size+1:=Nat.le_succ _
 clear hG hL hcap
 go_enter Tryz.func167,Tryz.ntmps167
 go_wp2_with fail
 generalize (w.alloc (oQ4 x.pa x.pn x.pc x.sa x.sn x.sc x.wa x.wn x.wc x.ha x.hn x.hc)).alloc (zQ4)=W2 at *
 refine (HS.out W2 BW.out).mono ?_
 rintro e w1 ⟨rfl,q1⟩
 have B1:Hid (Below w.heap.size w w1/\BoxC w1 w.heap.size (.slice x.pa x.pn x.pc) (.slice x.sa x.sn x.sc) (.slice x.wa x.wn x.wc) (.slice x.ha x.hn x.hc)/\BoxC w1 (w.heap.size+1) (.slice none 0 0) (.slice none 0 0) (.slice none 0 0) (.slice none 0 0)/\∀ j,w1.frozen? ⟨w.heap.size+1,j,none⟩=false):=⟨BW.out.trans (q1.mono BW.out.size),NB.out.below q1,RB.out.1.below q1,fun j=>((bcell q1).2 _ j (zJ _ _ RB.out.1.1)).trans (RB.out.2 j)⟩
 clear q1 BW NB RB HS
 have l1:w.heap.size+1<w1.heap.size:=zJ _ _ B1.out.2.2.1.1
 obtain ⟨b0,b1,b2,b3⟩:=B1.out.2.1
 rcases zK x.y.okB with t | t
 case inr=>
  have HV:Hid (stC x.y p f=1/\stY x.y p f={ x.y with pn:=0,sn:=0,wn:=0,hn:=0 }):=⟨if_neg (by rw [t];simp),if_neg (by rw [t];simp)⟩
  obtain ⟨⟨r0,r1,r2,r3⟩,rf⟩:=B1.out.2.2
  rw [t]
  clear t
  go_wp2
  exact bodyPost_ret (v:=.tuple #[sysV none 0 0 none 0 0 none 0 0 none 0 0,.int .i64 1]) (by simp [results,Tryz.results167,go_sem,r0,r1,r2,r3]) rfl ⟨_,by rw [HV.out.1],by rw [HV.out.2];exact OwnSys.zero _ _ _,(((B1.out.1.setCell hM _).setCell hM _).setCell hM _).setCell hM _⟩
 have HO:Hid x.y.Ok:=Sy.ok_of t
 have HC:Hid (∀ wx v,w1.heap.size<=wx.heap.size->OwnSys true wx w1.heap.size x.y v->Calls Tryz.prog 180 #[v,.int .i64 p,.int .i64 f] wx fun e w'=>e=.returned (.tuple #[v,.int .i64 (stC x.y p f)])/\Below w1.heap.size wx w'/\OwnSys true w' w1.heap.size (stY x.y p f) v):=by
  show ∀ wx v,_
  intro wx v hwx o
  have hc4:x.y.pn<=4:=HO.out.cn.1.2
  by_cases hb:belB p x.y.pn=true
  ·have hb':0<=p/\p<(x.y.pn:Int):=by simpa [belB] using hb
   obtain ⟨k,rfl⟩:∃ k:Nat,p=k:=⟨p.toNat,by omega⟩
   rw [stC,if_pos t,if_pos hb,stY,if_pos t,if_pos hb]
   exact l5Step_any x.y k f wx _ v o (by omega) HO.out
  ·rw [stC,if_pos t,if_neg hb,stY,if_pos t,if_neg hb]
   exact l5Step_out x.y p f wx _ v o hwx (by omega) (by
    simp only [inB,decide_eq_false_iff_not]
    simp only [belB,decide_eq_true_eq] at hb
    omega)
 have HZ:Hid (stC x.y p f≠0->stY x.y p f=x.y):=fun h=>by
  rw [stC,if_pos t] at h
  rw [stY,if_pos t]
  by_cases hb:belB p x.y.pn=true
  ·rw [if_pos hb] at h ⊢
   exact Sy.step_no h
  ·rw [if_neg hb]
 rw [t]
 clear t
 go_wp2_with fail
 refine (HC4.out w1 B1.out.1).mono ?_
 rintro e w3 ⟨v3,rfl,o3,q3⟩
 obtain ⟨pa,pc,sa,sc,wa,wc,ha,hc,rfl⟩:=o3.form
 have HC':=HC.out w3 _ q3.size o3
 clear HC
 generalize hC:stC x.y p f=C at *
 generalize hY:stY x.y p f=Y at *
 go_wp2_with fail
 refine HC'.mono ?_
 rintro e w5 ⟨rfl,q5,o5⟩
 have Q5:Below w1.heap.size w1 w5:=q3.trans q5
 have B5:Hid (Below w.heap.size w w5/\BoxC w5 w.heap.size (.slice x.pa x.pn x.pc) (.slice x.sa x.sn x.sc) (.slice x.wa x.wn x.wc) (.slice x.ha x.hn x.hc)/\BoxC w5 (w.heap.size+1) (.slice none 0 0) (.slice none 0 0) (.slice none 0 0) (.slice none 0 0)/\(∀ j,w5.frozen? ⟨w.heap.size+1,j,none⟩=false)/\w1.heap.size<=w5.heap.size/\OwnSys true w5 w1.heap.size Y (sysV pa x.y.pn pc sa x.y.sn sc wa x.y.wn wc ha x.y.hn hc)):=⟨B1.out.1.trans (Q5.mono B1.out.1.size),B1.out.2.1.below Q5,B1.out.2.2.1.below Q5,fun j=>((bcell Q5).2 _ j l1).trans (B1.out.2.2.2 j),Q5.size,o5⟩
 clear o3 q3 q5 o5 Q5 HC' B1 b0 b1 b2 b3
 obtain ⟨b0,b1,b2,b3⟩:=B5.out.2.1
 obtain ⟨r0,r1,r2,r3⟩:=B5.out.2.2.1
 have rf:=B5.out.2.2.2.1
 have l5:w.heap.size+1<w5.heap.size:=zJ _ _ r0
 have l50:w.heap.size<w5.heap.size:=by omega
 by_cases hc0:C=0
 ·subst hc0
  go_wp2
  exact bodyPost_ret (v := .tuple #[sysV pa x.y.pn pc sa x.y.sn sc wa x.y.wn wc ha x.y.hn hc, .int .i64 0]) (by simp [results, Tryz.results167, go_sem, r0, r1, r2, r3, l5]) rfl ⟨_, by rw [hC], by
   rw [hY]
   exact (((((B5.out.2.2.2.2.2.setBelow l1 0 _).setBelow l1 1 _).setBelow l1 2 _).setBelow l1 3 _).below (zQ _ _)).base (by omega),((((B5.out.1.setCell hM _).setCell hM _).setCell hM _).setCell hM _).trans ((zQ _ _).mono (by simp;omega))⟩
 ·have tc:(C == 0)=false:=by simpa using hc0
  go_wp2_with fail
  refine (HC4.out _ (B5.out.1.trans ((zQ _ _).mono (Nat.le_of_lt l50)))).mono ?_
  rintro e w7 ⟨v7,rfl,o7,q7⟩
  obtain ⟨pa7,pc7,sa7,sc7,wa7,wc7,ha7,hc7,rfl⟩:=o7.form
  have Q7:Below w5.heap.size w5 w7:=(zQ _ _).trans (q7.mono (by simp))
  have hc:=(bcell Q7).1
  replace r0:=(hc _ _ l5).trans r0
  replace r1:=(hc _ _ l5).trans r1
  replace r2:=(hc _ _ l5).trans r2
  replace r3:=(hc _ _ l5).trans r3
  replace rf:∀ j,w7.frozen? ⟨w.heap.size+1,j,none⟩=false:=fun j=>((bcell Q7).2 _ j l5).trans (rf j)
  have l7:w.heap.size+1<w7.heap.size:=zL l5 Q7.size
  have B7:Hid (Below w.heap.size w w7/\OwnSys true w7 w5.heap.size x.y (sysV pa7 x.y.pn pc7 sa7 x.y.sn sc7 wa7 x.y.wn wc7 ha7 x.y.hn hc7)):=⟨B5.out.1.trans (Q7.mono (Nat.le_of_lt l50)),o7.base (by simp)⟩
  clear o7 q7 Q7 hc B5 b0 b1 b2 b3
  go_wp2
  exact bodyPost_ret (v := .tuple #[sysV pa7 x.y.pn pc7 sa7 x.y.sn sc7 wa7 x.y.wn wc7 ha7 x.y.hn hc7, .int .i64 C]) (by simp [results, Tryz.results167, go_sem, r0, r1, r2, r3]) rfl ⟨_, by rw [hC], by
   rw [hY,HZ.out hc0]
   exact ((((B7.out.2.setBelow l5 0 _).setBelow l5 1 _).setBelow l5 2 _).setBelow l5 3 _).base (by omega),(((B7.out.1.setCell hM _).setCell hM _).setCell hM _).setCell hM _⟩
def SysT (w:World) (B T:Nat) (y:Sy) (v:Value):Prop:=∃ c vp vs vw vh up us uw uh,v=.agg #[vp,vs,vw,vh]/\OwnS false w B c y vp vs vw vh up us uw uh/\∀ b,T<=b->c b=0
theorem OwnS.sysT {z:Bool} {w:World} {B:Nat} {c:Nat->Nat} {y:Sy} {vp vs vw vh:Value} {up us uw uh:Nat->Value} (o:OwnS z w B c y vp vs vw vh up us uw uh):SysT w B w.heap.size y (.agg #[vp,vs,vw,vh]):=by
 have o:=o.weak
 have h : ∀ i k, Cl B c i k → k < w.heap.size → Cl B (fun b => if b < w.heap.size then c b else 0) i k := fun i k hk hl => ⟨hk.1, by
  show (if k<w.heap.size then c k else 0)=i
  rw [if_pos hl]
  exact hk.2⟩
 exact ⟨fun b=>if b<w.heap.size then c b else 0,vp,vs,vw,vh,up,us,uw,uh,rfl,⟨o.p.mono (h 1),o.s.mono (h 2),o.t.mono (h 3),o.h.mono (h 4)⟩,fun b hb=>if_neg (by omega)⟩
theorem OwnSys.sysT {z:Bool} {w:World} {B:Nat} {y:Sy} {v:Value} (o:OwnSys z w B y v):SysT w B w.heap.size y v:=by
 obtain ⟨c,vp,vs,vw,vh,up,us,uw,uh,rfl,o⟩:=o
 exact OwnS.sysT o
theorem Own1.sysT {w:World} {B T n:Nat} {L:Nat->Nat} {H:Nat->Nat->I5} {vp vs vw vh:Value} (o:Own1 w B T n L H vp vs vw vh):SysT w B w.heap.size (nwY n L H) (.agg #[vp,vs,vw,vh]):=by
 obtain ⟨c,up,us,o⟩:=o.s
 exact OwnS.sysT o
theorem SysT.keep {w w':World} {B T:Nat} {y:Sy} {v:Value} (o:SysT w B T y v) (h:∀ b,B<=b->b<T->b<w.heap.size->w'.heap[b]? = w.heap[b]?):SysT w' B T y v:=by
 obtain ⟨c,vp,vs,vw,vh,up,us,uw,uh,e,o,ht⟩:=o
 have key : ∀ i, i ≠ 0 → ∀ k, Cl B c i k → k < w.heap.size → w'.heap[k]? = w.heap[k]? := fun i hi k hk hl => h k hk.1 (by
  apply Classical.byContradiction
  intro hn
  have h1:=ht k (by omega)
  have h2:c k=i:=hk.2
  omega) hl
 exact ⟨c,vp,vs,vw,vh,up,us,uw,uh,e,⟨o.p.keep (key 1 (by decide)),o.s.keep (key 2 (by decide)),o.t.keep (key 3 (by decide)),o.h.keep (key 4 (by decide))⟩,ht⟩
theorem SysT.below {w w':World} {B T:Nat} {y:Sy} {v:Value} (o:SysT w B T y v) (hb:Below w.heap.size w w'):SysT w' B T y v:=o.keep fun b _ _ hl=>hb.block b hl
theorem SysT.base {w:World} {B B' T:Nat} {y:Sy} {v:Value} (o:SysT w B T y v) (h:B'<=B):SysT w B' T y v:=by
 obtain ⟨c,vp,vs,vw,vh,up,us,uw,uh,e,o,ht⟩:=o
 exact ⟨c,vp,vs,vw,vh,up,us,uw,uh,e,⟨o.p.mono fun _ q _=>⟨zP h q.1,q.2⟩,o.s.mono fun _ q _=>⟨zP h q.1,q.2⟩,o.t.mono fun _ q _=>⟨zP h q.1,q.2⟩,o.h.mono fun _ q _=>⟨zP h q.1,q.2⟩⟩,ht⟩
theorem SysT.top {w:World} {B T T':Nat} {y:Sy} {v:Value} (o:SysT w B T y v) (h:T<=T'):SysT w B T' y v:=by
 obtain ⟨c,vp,vs,vw,vh,up,us,uw,uh,e,o,ht⟩:=o
 exact ⟨c,vp,vs,vw,vh,up,us,uw,uh,e,o,fun b hb=>ht b (by omega)⟩
theorem cap_own {w:World} {B sz n:Nat} {e:TypeId} {u:Value} {xs:List Value} (o:w.ownsRow B e sz u n xs):n<=cpOf u:=by
 rcases o.2 with ⟨rfl,h⟩ | ⟨g,cap,cur,rfl,_,_,hnc,_⟩
 ·rw [h];exact Nat.zero_le _
 ·exact hnc
structure SysX (w:World) (B T:Nat) (x:SysIn):Prop where
 g:∀ w',(∀ b,B<=b->b<T->b<w.heap.size->w'.heap[b]? = w.heap[b]?)->SysG w' x
 cap:∀ i,i<x.hn->x.hL i<=x.hC i
 nn:x.Nn false
theorem SysT.x {w:World} {B T:Nat} {y:Sy} {v:Value} (o:SysT w B T y v):∃ x:SysIn,v=x.v/\x.y=y/\SysX w B T x:=by
 obtain ⟨c,vp,vs,vw,vh,up,us,uw,uh,rfl,o,ht⟩:=o
 refine ⟨y.sysIn vp vs vw vh up us uw uh,o.v.symm,rfl,fun w' h=>?_,fun i hi=>cap_own (o.h.own i hi),o.nf⟩
 have key : ∀ i, i ≠ 0 → ∀ k, Cl B c i k → k < w.heap.size → w'.heap[k]? = w.heap[k]? := fun i hi k hk hl => h k hk.1 (by
  apply Classical.byContradiction
  intro hn
  have h1:=ht k (by omega)
  have h2:c k=i:=hk.2
  omega) hl
 exact OwnS.g (z:=false) (B:=B) (c:=c) ⟨o.p.keep (key 1 (by decide)),o.s.keep (key 2 (by decide)),o.t.keep (key 3 (by decide)),o.h.keep (key 4 (by decide))⟩
theorem SysX.abv {w w':World} {B T c:Nat} {x:SysIn} (h:SysX w B T x) (hc:c<B) (ha:Abv c w w'):SysG w' x:=h.g w' fun b hb _ hl=>ha.2 b (by omega) hl
theorem SysX.below {w w':World} {B T:Nat} {x:SysIn} (h:SysX w B T x) (hb:Below w.heap.size w w'):SysG w' x:=h.g w' fun b _ _ hl=>hb.block b hl
theorem SysX.self {w:World} {B T:Nat} {x:SysIn} (h:SysX w B T x):SysG w x:=h.g w fun _ _ _ _=>rfl
theorem Sy.Sm.inLen {x:SysIn} (h:x.y.Sm):x.Len:=by
 obtain ⟨⟨h1,h2,h3,h4⟩,hp,hs,hw,hh⟩:=h
 have h1':x.pn<=16:=h1
 have h2':x.sn<=16:=h2
 have h3':x.wn<=16:=h3
 have h4':x.hn<=16:=h4
 refine ⟨⟨by omega,fun i hi=>?_⟩,⟨by omega,fun i hi=>?_⟩,⟨by omega,fun i hi=>?_⟩,⟨by omega,fun i hi=>?_⟩⟩
 ·have:x.pL i<=1000:=hp i hi
  omega
 ·have:(x.sQ i).rs.length<=1000/\(x.sQ i).os.length<=1000:=hs i hi
  omega
 ·have:x.wL i<=1000:=hw i hi
  omega
 ·have:x.hL i<=1000:=hh i hi
  omega
def Sy.Good (y:Sy):Prop:=y.Ok\/(y.pn=0/\y.sn=0/\y.wn=0/\y.hn=0)
theorem Sy.Good.sm {y:Sy} (h:y.Good):y.Sm:=by
 rcases h with h | ⟨h1,h2,h3,h4⟩
 ·exact h.sm
 ·exact ⟨by omega,fun i hi=>by omega,fun i hi=>by omega,fun i hi=>by omega,fun i hi=>by omega⟩
theorem Sy.Good.step {y:Sy} (_h:y.Good) {p f:Int} (hc:stC y p f=0):(stY y p f).Good:=by
 unfold stC at hc
 unfold stY
 by_cases ho:y.okB=true
 ·rw [if_pos ho] at hc ⊢
  by_cases hb:belB p y.pn=true
  ·rw [if_pos hb] at hc ⊢
   have hb':0<=p/\p<(y.pn:Int):=by simpa [belB] using hb
   exact .inl ((Sy.ok_of ho).step (by omega) hc)
  ·rw [if_neg hb] at hc
   cases hc
 ·rw [if_neg ho] at hc
  cases hc
structure DK (w wr:World) (W0 c:Nat) (a0:Option Addr) (len cap B T:Nat) (y:Sy) (v:Value):Prop where
 cu:Cur wr W0 c a0 len cap
 sy:SysT wr B T y v
 gr:w.grownBy wr (some c)
 lt:c<B
theorem DK.draw {w wr w':World} {W0 c:Nat} {a0:Option Addr} {len cap B T:Nat} {y:Sy} {v:Value} (h:DK w wr W0 c a0 len cap B T y v) (hc:Cur w' W0 c a0 len cap) (hg:wr.grownBy w' (some c)):DK w w' W0 c a0 len cap B T y v:=
 ⟨hc,h.sy.keep fun b hb _ hl=>hg.block b hl (by have:=h.lt;simp;omega),h.gr.trans hg,h.lt⟩
theorem DK.below {w wr w':World} {W0 c:Nat} {a0:Option Addr} {len cap B T:Nat} {y:Sy} {v:Value} (h:DK w wr W0 c a0 len cap B T y v) (hb:Below wr.heap.size wr w'):DK w w' W0 c a0 len cap B T y v:=
 ⟨h.cu.kept (zZ hb) (by simp) (fun k hk=>by cases hk),h.sy.below hb,h.gr.andThen (zZ hb) (fun j hj=>by cases hj),h.lt⟩
theorem DK.alloc {w wr:World} {W0 c:Nat} {a0:Option Addr} {len cap B T:Nat} {y:Sy} {v:Value} (h:DK w wr W0 c a0 len cap B T y v) (o:Obj):DK w (wr.alloc o) W0 c a0 len cap B T y v:=h.below (zQ _ _)
theorem DK.set {w wr:World} {W0 c:Nat} {a0:Option Addr} {len cap B T:Nat} {y:Sy} {v:Value} (h:DK w wr W0 c a0 len cap B T y v) {N:Nat} (hN:w.heap.size<=N) (hc:c≠N) (hT:N<B\/T<=N) (hW:W0<=N) (j:Nat) (u:Value):DK w (wr.setCell ⟨N,j,none⟩ u) W0 c a0 len cap B T y v:=by
 have hg:wr.grownBy (wr.setCell ⟨N,j,none⟩ u) (some N):=zV (World.grownBy.refl _ _) (.inl rfl) u
 exact ⟨h.cu.kept hg (fun e=>hc (by simpa using e)) (fun k hk=>by cases hk;exact hW),h.sy.keep fun b hb ht hl=>hg.block b hl (by simp;omega),h.gr.andThen hg (fun k hk=>by cases hk;exact .inl hN),h.lt⟩
theorem l1Below_wide (W0 c len cap:Nat) (a0:Option Addr) (n:Int) (w:World) (hc:Cur w W0 c a0 len cap) (n1:1<=n) (n2:n<=1048576):
  Calls Tryz.prog 100 #[.pointer (some ⟨c,0,none⟩),.int .i64 n] w fun e w'=>∃ x:Int,e=.returned (.int .i64 x)/\(0<=x/\x<n)/\Cur w' W0 c a0 len cap/\w.grownBy w' (some c):=by
 by_cases hs:n<=256
 ·exact zY W0 c len cap a0 n w hc n1 hs
 have n3:¬ n<=0:=by omega
 have n4:(n == 0)=false:=by simp;omega
 have HCur:Hid (Cur w W0 c a0 len cap):=hc
 clear hc
 go_enter Tryz.func100,Tryz.ntmps100
 go_wp2_with fail
 refine (l1Byte_any W0 c len cap a0 _ HCur.out).mono ?_
 rintro e w1 ⟨x,rfl,⟨x0,x1⟩,hc1,hg1⟩
 have H1:Hid (Cur w1 W0 c a0 len cap/\w.grownBy w1 (some c)):=⟨hc1,hg1⟩
 clear hc1 hg1 HCur
 go_wp2_with fail
 refine (l1Byte_any W0 c len cap a0 _ H1.out.1).mono ?_
 rintro e w2 ⟨y,rfl,⟨y0,y1⟩,hc2,hg2⟩
 have H2:Hid (Cur w2 W0 c a0 len cap/\w.grownBy w2 (some c)):=⟨hc2,H1.out.2.trans hg2⟩
 clear hc2 hg2 H1
 go_wp2_with fail
 refine (l1Byte_any W0 c len cap a0 _ H2.out.1).mono ?_
 rintro e w3 ⟨z,rfl,⟨z0,z1⟩,hc3,hg3⟩
 have H3:Hid (Cur w3 W0 c a0 len cap/\w.grownBy w3 (some c)):=⟨hc3,H2.out.2.trans hg3⟩
 clear hc3 hg3 H2
 go_wp2_with fail
 refine (l1Byte_any W0 c len cap a0 _ H3.out.1).mono ?_
 rintro e w4 ⟨u,rfl,⟨u0,u1⟩,hc4,hg4⟩
 have H4:Hid (Cur w4 W0 c a0 len cap/\w.grownBy w4 (some c)):=⟨hc4,H3.out.2.trans hg4⟩
 clear hc4 hg4 H3
 have hp:0<=x*16777216+y*65536+z*256+u:=by omega
 go_wp2
 go_ret
 exact ⟨_,rfl,⟨Int.emod_nonneg _ (by omega),Int.emod_lt_of_pos _ (by omega)⟩,H4.out.1,H4.out.2⟩
def pickP (i:Nat):Int:=if i=0 then -1 else 4
theorem pickP_le (i:Nat):-1<=pickP i/\pickP i<=4:=by unfold pickP;split <;> omega
theorem pickP_at (w:World):IntsAt (w.alloc (.cells #[.int .i64 (-1),.int .i64 4] 3)) w.heap.size 2 pickP:=fun j hj=>by
 rw [zW _ _ _ j rfl]
 match j,hj with
 | 0,_=>rfl
 | 1,_=>rfl
