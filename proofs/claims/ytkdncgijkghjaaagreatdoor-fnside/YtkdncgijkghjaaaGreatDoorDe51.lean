import Derived.Test.YtkdncgijkghjaaaGreatDoorDe0
import Derived.Test.YtkdncgijkghjaaaGreatDoorDe50
import Derived.Test.YtkdncgijkghjaaaGreatDoorDe48
import Derived.Test.YtkdncgijkghjaaaGreatDoorDe49
import Derived.Test.YtkdncgijkghjaaaGreatDoorRows
import Derived.Test.YtkdncgijkghjaaaGreatDoorTie
import Derived.ChangeSame
import Derived.ChangeVars
import Derived.JoinedOf
import Derived.RowKit
import Derived.RowKitTokens
import Derived.LaidLaws
import Derived.LaidHandle
import Derived.Stop.Joined
namespace Go.Proofs.YtkdncgijkghjaaaGreatDoor
set_option maxRecDepth 100000
set_option maxHeartbeats 4000000
open Go.ChangeShapes Go.WideShapes Go.ChangeAt Go.RowKit Go.Deep Go.Sort
theorem C3.at {w:World} {B O:Nat} {y:Sy} {d c:Nat->Nat} {V:Nat->Value} {U:Nat->Nat->Value} (h:C3 w B O y d c V U) {p i:Nat} (hp:p<y.pn) (hd:d p=y.hL p) (hi:i<y.hL p):
  ∃ g cp au cu,w.cell? ⟨O,p,none⟩=some (.slice (some ⟨g,0,none⟩) (y.hL p) cp)/\w.cell? ⟨g,i,none⟩=some (.slice au y.pn cu)/\Sl w au (ckN y p i)/\O<w.heap.size/\g<w.heap.size:=by
 obtain ⟨g,cp,eV,-,hgs,cs2,-⟩:=(h.ll p hp).cell (show i<d p by rw [hd];exact hi)
 have oU:OwnI w 0 (U p i) (ckN y p i):=by
  have h9:=(h.ll p hp).own i (by rw [hd];exact hi)
  unfold OwnI
  rw [ckN_len]
  exact h9
 obtain ⟨au,cu,eU,sU⟩:=oU.form
 have ht:=h.top p hp
 rw [eV,hd] at ht
 rw [eU,ckN_len] at cs2
 exact ⟨g,cp,au,cu,ht,cs2,sU,h.lt,hgs⟩
theorem specHangs_any (x:SysIn) (p i q j:Int) (w:World) (hG:SysG w x) (hL:x.Len) (hcap:∀ i,i<x.hn->x.hL i<=x.hC i):
  Calls Tryz.prog 10 #[x.v,.int .i64 p,.int .i64 i,.int .i64 q,.int .i64 j] w fun e w'=>e=.returned (.bool (hgB x.y p i q j))/\Below w.heap.size w w':=by
 have HS1:Hid (∀ t,hasB x.y p i=t->∀ wx,Below w.heap.size w wx->Calls Tryz.prog 30 #[x.v,.int .i64 p,.int .i64 i] wx fun e w'=>e=.returned (.bool t)/\Below wx.heap.size wx w'):=fun t h wx hb=>by rw [<- h];exact l7Has_any x p i wx (hG.below hb) hL hcap
 have HS2:Hid (∀ t,hasB x.y q j=t->∀ wx,Below w.heap.size w wx->Calls Tryz.prog 30 #[x.v,.int .i64 q,.int .i64 j] wx fun e w'=>e=.returned (.bool t)/\Below wx.heap.size wx w'):=fun t h wx hb=>by rw [<- h];exact l7Has_any x q j wx (hG.below hb) hL hcap
 have BW:Hid (Below w.heap.size w (w.alloc (oQ4 x.pa x.pn x.pc x.sa x.sn x.sc x.wa x.wn x.wc x.ha x.hn x.hc))):=zT _ _
 have NB:Hid (BoxC (w.alloc (oQ4 x.pa x.pn x.pc x.sa x.sn x.sc x.wa x.wn x.wc x.ha x.hn x.hc)) w.heap.size (.slice x.pa x.pn x.pc) (.slice x.sa x.sn x.sc) (.slice x.wa x.wn x.wc) (.slice x.ha x.hn x.hc)):=BoxC.new w _ _ _ _ _
 by_cases h1:hasB x.y p i=true
 case neg=>
  have hv:hgB x.y p i q j=false:=by simp [hgB,bothB,h1]
  rw [hv]
  have H1:Hid (hasB x.y p i=false):=Bool.eq_false_iff.2 h1
  clear hv h1 HS2 hG hL hcap
  go_enter Tryz.func10,Tryz.ntmps10
  go_wp2_with fail
  generalize w.alloc (oQ4 x.pa x.pn x.pc x.sa x.sn x.sc x.wa x.wn x.wc x.ha x.hn x.hc)=W2 at *
  refine (HS1.out false H1.out W2 BW.out).mono ?_
  rintro e w1 ⟨rfl,q1⟩
  have B1:Hid (Below w.heap.size w w1/\BoxC w1 w.heap.size (.slice x.pa x.pn x.pc) (.slice x.sa x.sn x.sc) (.slice x.wa x.wn x.wc) (.slice x.ha x.hn x.hc)):=⟨BW.out.trans (q1.mono BW.out.size),NB.out.below q1⟩
  clear q1 BW NB HS1
  go_wp2
  go_ret
  exact ⟨rfl,B1.out.1⟩
 have H1:Hid (hasB x.y p i=true):=h1
 by_cases h2:hasB x.y q j=true
 case neg=>
  have hv:hgB x.y p i q j=false:=by simp [hgB,bothB,h2]
  rw [hv]
  have H2:Hid (hasB x.y q j=false):=Bool.eq_false_iff.2 h2
  clear hv h1 h2 hG hL hcap
  go_enter Tryz.func10,Tryz.ntmps10
  go_wp2_with fail
  generalize w.alloc (oQ4 x.pa x.pn x.pc x.sa x.sn x.sc x.wa x.wn x.wc x.ha x.hn x.hc)=W2 at *
  refine (HS1.out true H1.out W2 BW.out).mono ?_
  rintro e w1 ⟨rfl,q1⟩
  have B1:Hid (Below w.heap.size w w1/\BoxC w1 w.heap.size (.slice x.pa x.pn x.pc) (.slice x.sa x.sn x.sc) (.slice x.wa x.wn x.wc) (.slice x.ha x.hn x.hc)):=⟨BW.out.trans (q1.mono BW.out.size),NB.out.below q1⟩
  clear q1 BW NB HS1
  obtain ⟨b0,b1,b2,b3⟩:=B1.out.2
  go_wp2_with fail
  refine (HS2.out false H2.out w1 B1.out.1).mono ?_
  rintro e w2 ⟨rfl,q2⟩
  have B2:Hid (Below w.heap.size w w2/\BoxC w2 w.heap.size (.slice x.pa x.pn x.pc) (.slice x.sa x.sn x.sc) (.slice x.wa x.wn x.wc) (.slice x.ha x.hn x.hc)):=⟨B1.out.1.trans (q2.mono B1.out.1.size),B1.out.2.below q2⟩
  clear q2 b0 b1 b2 b3 B1 HS2
  go_wp2
  go_ret
  exact ⟨rfl,B2.out.1⟩
 have H2:Hid (hasB x.y q j=true):=h2
 obtain ⟨ho,a,b,rfl,rfl,ha,hb⟩:=hasB_parts h1
 obtain ⟨-,c,d,rfl,rfl,hc,hd⟩:=hasB_parts h2
 have hv:hgB x.y a b c d=hgN x.y a b c d:=by simp [hgB,bothB,h1,h2]
 rw [hv]
 have HC:Hid (∀ wx,Below w.heap.size w wx->Calls Tryz.prog 31 #[x.v] wx fun e w'=>∃ O d c V U,e=.returned (.slice (some ⟨O,0,none⟩) x.pn x.pn)/\(∀ p,p<x.pn->d p=x.y.hL p)/\C3 w' O O x.y d c V U/\Below wx.heap.size wx w'):=fun wx hb=>l7Clocks_any x wx (hG.below hb) hcap ho
 have HA:Hid (a<x.pn/\b<x.y.hL a/\c<x.pn):=⟨ha,hb,hc⟩
 clear hv h1 h2 hG hL hcap ho ha hb hc hd
 have HE:Hid ((a=c/\b=d)\/¬ (a=c/\b=d)):=Classical.em _
 rcases HE.out with ⟨rfl,rfl⟩ | hne
 ·have hv:hgN x.y a b a b=false:=by simp [hgN,spEq]
  rw [hv]
  have e1:((a:Int) == (a:Int))=true:=by simp
  have e2:((b:Int) == (b:Int))=true:=by simp
  clear hv
  go_enter Tryz.func10,Tryz.ntmps10
  go_wp2_with fail
  generalize w.alloc (oQ4 x.pa x.pn x.pc x.sa x.sn x.sc x.wa x.wn x.wc x.ha x.hn x.hc)=W2 at *
  refine (HS1.out true H1.out W2 BW.out).mono ?_
  rintro e w1 ⟨rfl,q1⟩
  have B1:Hid (Below w.heap.size w w1/\BoxC w1 w.heap.size (.slice x.pa x.pn x.pc) (.slice x.sa x.sn x.sc) (.slice x.wa x.wn x.wc) (.slice x.ha x.hn x.hc)):=⟨BW.out.trans (q1.mono BW.out.size),NB.out.below q1⟩
  clear q1 BW NB HS1
  obtain ⟨b0,b1,b2,b3⟩:=B1.out.2
  go_wp2_with fail
  refine (HS2.out true H2.out w1 B1.out.1).mono ?_
  rintro e w2 ⟨rfl,q2⟩
  have B2:Hid (Below w.heap.size w w2/\BoxC w2 w.heap.size (.slice x.pa x.pn x.pc) (.slice x.sa x.sn x.sc) (.slice x.wa x.wn x.wc) (.slice x.ha x.hn x.hc)):=⟨B1.out.1.trans (q2.mono B1.out.1.size),B1.out.2.below q2⟩
  clear q2 b0 b1 b2 b3 B1 HS2
  go_wp2
  go_ret
  exact ⟨rfl,B2.out.1⟩
 have HV:Hid (hgN x.y a b c d=decide (d<clk x.y a b c)):=by
  show _=_
  have h9:spEq a b c d=false:=by
   unfold spEq
   simp
   omega
  simp [hgN,h9]
 rw [HV.out]
 have HQ:Hid ((((a:Int) == (c:Int))=true/\((b:Int) == (d:Int))=false)\/((a:Int) == (c:Int))=false):=by
  show _\/_
  by_cases e:a=c
  ·refine .inl ⟨by simp [e],?_⟩
   have:¬ (b:Int)=(d:Int):=by omega
   simpa using this
  ·refine .inr ?_
   have:¬ (a:Int)=(c:Int):=by omega
   simpa using this
 clear hne HE HV
 rcases HQ.out with ⟨e1,e2⟩ | e1
 all_goals
  clear HQ
  go_enter Tryz.func10,Tryz.ntmps10
  go_wp2_with fail
  generalize w.alloc (oQ4 x.pa x.pn x.pc x.sa x.sn x.sc x.wa x.wn x.wc x.ha x.hn x.hc)=W2 at *
  refine (HS1.out true H1.out W2 BW.out).mono ?_
  rintro e w1 ⟨rfl,q1⟩
  have B1:Hid (Below w.heap.size w w1/\BoxC w1 w.heap.size (.slice x.pa x.pn x.pc) (.slice x.sa x.sn x.sc) (.slice x.wa x.wn x.wc) (.slice x.ha x.hn x.hc)):=⟨BW.out.trans (q1.mono BW.out.size),NB.out.below q1⟩
  clear q1 BW NB HS1
  obtain ⟨b0,b1,b2,b3⟩:=B1.out.2
  go_wp2_with fail
  refine (HS2.out true H2.out w1 B1.out.1).mono ?_
  rintro e w2 ⟨rfl,q2⟩
  have B2:Hid (Below w.heap.size w w2/\BoxC w2 w.heap.size (.slice x.pa x.pn x.pc) (.slice x.sa x.sn x.sc) (.slice x.wa x.wn x.wc) (.slice x.ha x.hn x.hc)):=⟨B1.out.1.trans (q2.mono B1.out.1.size),B1.out.2.below q2⟩
  clear q2 b0 b1 b2 b3 B1 HS2
  obtain ⟨b0,b1,b2,b3⟩:=B2.out.2
  go_wp2_with fail
  clear b0 b1 b2 b3 H1 H2
  refine (HC.out w2 B2.out.1).mono ?_
  rintro e w3 ⟨O,dd,cc,V,U,rfl,hd,h3,b3⟩
  obtain ⟨g,cp,au,cu,k1,k2,sl,k3,k4⟩:=h3.at HA.out.1 (hd a HA.out.1) HA.out.2.1
  obtain ⟨bq,oq,rfl,zq,cq⟩:=sl.at (k:=c) (by rw [ckN_len];exact HA.out.2.2)
  rw [ckN_at x.y a b c HA.out.2.2] at cq
  have B3:Hid (Below w.heap.size w w3):=B2.out.1.trans (b3.mono B2.out.1.size)
  have n1:(a:Int)<(x.pn:Int):=by have:=HA.out.1;omega
  have n2:(b:Int)<(x.y.hL a:Int):=by have:=HA.out.2.1;omega
  have n3:(c:Int)<(x.pn:Int):=by have:=HA.out.2.2;omega
  have k2':w3.cell? ⟨g,b,none⟩=some (.slice (some ⟨bq,oq,none⟩) x.pn cu):=k2
  clear hd h3 b3 sl B2 HC HA k2
  generalize x.y.hL a=HLa at *
  go_wp2
  go_ret
  exact ⟨rfl,B3.out⟩
theorem specSide_any (x:SysIn) (p i q j:Int) (w:World) (hG:SysG w x) (hL:x.Len) (hcap:∀ i,i<x.hn->x.hL i<=x.hC i):
  Calls Tryz.prog 15 #[x.v,.int .i64 p,.int .i64 i,.int .i64 q,.int .i64 j] w fun e w'=>e=.returned (.bool (sdB x.y p i q j))/\Below w.heap.size w w':=by
 have HS1:Hid (∀ t,hasB x.y p i=t->∀ wx,Below w.heap.size w wx->Calls Tryz.prog 30 #[x.v,.int .i64 p,.int .i64 i] wx fun e w'=>e=.returned (.bool t)/\Below wx.heap.size wx w'):=fun t h wx hb=>by rw [<- h];exact l7Has_any x p i wx (hG.below hb) hL hcap
 have HS2:Hid (∀ t,hasB x.y q j=t->∀ wx,Below w.heap.size w wx->Calls Tryz.prog 30 #[x.v,.int .i64 q,.int .i64 j] wx fun e w'=>e=.returned (.bool t)/\Below wx.heap.size wx w'):=fun t h wx hb=>by rw [<- h];exact l7Has_any x q j wx (hG.below hb) hL hcap
 have BW:Hid (Below w.heap.size w (w.alloc (oQ4 x.pa x.pn x.pc x.sa x.sn x.sc x.wa x.wn x.wc x.ha x.hn x.hc))):=zT _ _
 have NB:Hid (BoxC (w.alloc (oQ4 x.pa x.pn x.pc x.sa x.sn x.sc x.wa x.wn x.wc x.ha x.hn x.hc)) w.heap.size (.slice x.pa x.pn x.pc) (.slice x.sa x.sn x.sc) (.slice x.wa x.wn x.wc) (.slice x.ha x.hn x.hc)):=BoxC.new w _ _ _ _ _
 by_cases h1:hasB x.y p i=true
 case neg=>
  have hv:sdB x.y p i q j=false:=by simp [sdB,bothB,h1]
  rw [hv]
  have H1:Hid (hasB x.y p i=false):=Bool.eq_false_iff.2 h1
  clear hv h1 HS2 hG hL hcap
  go_enter Tryz.func15,Tryz.ntmps15
  go_wp2_with fail
  generalize w.alloc (oQ4 x.pa x.pn x.pc x.sa x.sn x.sc x.wa x.wn x.wc x.ha x.hn x.hc)=W2 at *
  refine (HS1.out false H1.out W2 BW.out).mono ?_
  rintro e w1 ⟨rfl,q1⟩
  have B1:Hid (Below w.heap.size w w1/\BoxC w1 w.heap.size (.slice x.pa x.pn x.pc) (.slice x.sa x.sn x.sc) (.slice x.wa x.wn x.wc) (.slice x.ha x.hn x.hc)):=⟨BW.out.trans (q1.mono BW.out.size),NB.out.below q1⟩
  clear q1 BW NB HS1
  go_wp2
  go_ret
  exact ⟨rfl,B1.out.1⟩
 have H1:Hid (hasB x.y p i=true):=h1
 by_cases h2:hasB x.y q j=true
 case neg=>
  have hv:sdB x.y p i q j=false:=by simp [sdB,bothB,h2]
  rw [hv]
  have H2:Hid (hasB x.y q j=false):=Bool.eq_false_iff.2 h2
  clear hv h1 h2 hG hL hcap
  go_enter Tryz.func15,Tryz.ntmps15
  go_wp2_with fail
  generalize w.alloc (oQ4 x.pa x.pn x.pc x.sa x.sn x.sc x.wa x.wn x.wc x.ha x.hn x.hc)=W2 at *
  refine (HS1.out true H1.out W2 BW.out).mono ?_
  rintro e w1 ⟨rfl,q1⟩
  have B1:Hid (Below w.heap.size w w1/\BoxC w1 w.heap.size (.slice x.pa x.pn x.pc) (.slice x.sa x.sn x.sc) (.slice x.wa x.wn x.wc) (.slice x.ha x.hn x.hc)):=⟨BW.out.trans (q1.mono BW.out.size),NB.out.below q1⟩
  clear q1 BW NB HS1
  obtain ⟨b0,b1,b2,b3⟩:=B1.out.2
  go_wp2_with fail
  refine (HS2.out false H2.out w1 B1.out.1).mono ?_
  rintro e w2 ⟨rfl,q2⟩
  have B2:Hid (Below w.heap.size w w2/\BoxC w2 w.heap.size (.slice x.pa x.pn x.pc) (.slice x.sa x.sn x.sc) (.slice x.wa x.wn x.wc) (.slice x.ha x.hn x.hc)):=⟨B1.out.1.trans (q2.mono B1.out.1.size),B1.out.2.below q2⟩
  clear q2 b0 b1 b2 b3 B1 HS2
  go_wp2
  go_ret
  exact ⟨rfl,B2.out.1⟩
 have H2:Hid (hasB x.y q j=true):=h2
 obtain ⟨ho,a,b,rfl,rfl,ha,hb⟩:=hasB_parts h1
 obtain ⟨-,c,d,rfl,rfl,hc,hd⟩:=hasB_parts h2
 have HE:Hid ((a=c/\b=d)\/¬ (a=c/\b=d)):=Classical.em _
 rcases HE.out with ⟨rfl,rfl⟩ | hne
 ·have hv:sdB x.y a b a b=false:=by simp [sdB,spEq]
  rw [hv]
  have e1:((a:Int) == (a:Int))=true:=by simp
  have e2:((b:Int) == (b:Int))=true:=by simp
  clear hv h1 h2 hG hL hcap ho ha hb hc hd HE
  go_enter Tryz.func15,Tryz.ntmps15
  go_wp2_with fail
  generalize w.alloc (oQ4 x.pa x.pn x.pc x.sa x.sn x.sc x.wa x.wn x.wc x.ha x.hn x.hc)=W2 at *
  refine (HS1.out true H1.out W2 BW.out).mono ?_
  rintro e w1 ⟨rfl,q1⟩
  have B1:Hid (Below w.heap.size w w1/\BoxC w1 w.heap.size (.slice x.pa x.pn x.pc) (.slice x.sa x.sn x.sc) (.slice x.wa x.wn x.wc) (.slice x.ha x.hn x.hc)):=⟨BW.out.trans (q1.mono BW.out.size),NB.out.below q1⟩
  clear q1 BW NB HS1
  obtain ⟨b0,b1,b2,b3⟩:=B1.out.2
  go_wp2_with fail
  refine (HS2.out true H2.out w1 B1.out.1).mono ?_
  rintro e w2 ⟨rfl,q2⟩
  have B2:Hid (Below w.heap.size w w2/\BoxC w2 w.heap.size (.slice x.pa x.pn x.pc) (.slice x.sa x.sn x.sc) (.slice x.wa x.wn x.wc) (.slice x.ha x.hn x.hc)):=⟨B1.out.1.trans (q2.mono B1.out.1.size),B1.out.2.below q2⟩
  clear q2 b0 b1 b2 b3 B1 HS2
  go_wp2
  go_ret
  exact ⟨rfl,B2.out.1⟩
 have hv:sdB x.y a b c d=(!hgB x.y a b c d && !hgB x.y c d a b):=by
  have h9:spEq a b c d=false:=by
   unfold spEq
   simp
   omega
  simp [sdB,hgB,bothB,h1,h2,h9]
 rw [hv]
 have HH1:Hid (∀ t,hgB x.y a b c d=t->∀ wx,Below w.heap.size w wx->Calls Tryz.prog 10 #[x.v,.int .i64 a,.int .i64 b,.int .i64 c,.int .i64 d] wx fun e w'=>e=.returned (.bool t)/\Below wx.heap.size wx w'):=fun t h wx hb=>by rw [<- h];exact specHangs_any x a b c d wx (hG.below hb) hL hcap
 have HH2:Hid (∀ t,hgB x.y c d a b=t->∀ wx,Below w.heap.size w wx->Calls Tryz.prog 10 #[x.v,.int .i64 c,.int .i64 d,.int .i64 a,.int .i64 b] wx fun e w'=>e=.returned (.bool t)/\Below wx.heap.size wx w'):=fun t h wx hb=>by rw [<- h];exact specHangs_any x c d a b wx (hG.below hb) hL hcap
 have HQ:Hid ((((a:Int) == (c:Int))=true/\((b:Int) == (d:Int))=false)\/((a:Int) == (c:Int))=false):=by
  show _\/_
  by_cases e:a=c
  ·refine .inl ⟨by simp [e],?_⟩
   have:¬ (b:Int)=(d:Int):=by omega
   simpa using this
  ·refine .inr ?_
   have:¬ (a:Int)=(c:Int):=by omega
   simpa using this
 clear hne HE hv h1 h2 hG hL hcap ho ha hb hc hd
 generalize hgB x.y a b c d=t1 at *
 generalize hgB x.y c d a b=t2 at *
 rcases HQ.out with ⟨e1,e2⟩ | e1
 all_goals
  clear HQ
  go_enter Tryz.func15,Tryz.ntmps15
  go_wp2_with fail
  generalize w.alloc (oQ4 x.pa x.pn x.pc x.sa x.sn x.sc x.wa x.wn x.wc x.ha x.hn x.hc)=W2 at *
  refine (HS1.out true H1.out W2 BW.out).mono ?_
  rintro e w1 ⟨rfl,q1⟩
  have B1:Hid (Below w.heap.size w w1/\BoxC w1 w.heap.size (.slice x.pa x.pn x.pc) (.slice x.sa x.sn x.sc) (.slice x.wa x.wn x.wc) (.slice x.ha x.hn x.hc)):=⟨BW.out.trans (q1.mono BW.out.size),NB.out.below q1⟩
  clear q1 BW NB HS1
  obtain ⟨b0,b1,b2,b3⟩:=B1.out.2
  go_wp2_with fail
  refine (HS2.out true H2.out w1 B1.out.1).mono ?_
  rintro e w2 ⟨rfl,q2⟩
  have B2:Hid (Below w.heap.size w w2/\BoxC w2 w.heap.size (.slice x.pa x.pn x.pc) (.slice x.sa x.sn x.sc) (.slice x.wa x.wn x.wc) (.slice x.ha x.hn x.hc)):=⟨B1.out.1.trans (q2.mono B1.out.1.size),B1.out.2.below q2⟩
  clear q2 b0 b1 b2 b3 B1 HS2
  obtain ⟨b0,b1,b2,b3⟩:=B2.out.2
  go_wp2_with fail
  clear b0 b1 b2 b3 H1 H2
  refine (HH1.out _ rfl w2 B2.out.1).mono ?_
  rintro e w3 ⟨rfl,q3⟩
  have B3:Hid (Below w.heap.size w w3/\BoxC w3 w.heap.size (.slice x.pa x.pn x.pc) (.slice x.sa x.sn x.sc) (.slice x.wa x.wn x.wc) (.slice x.ha x.hn x.hc)):=⟨B2.out.1.trans (q3.mono B2.out.1.size),B2.out.2.below q3⟩
  clear q3 B2 HH1
  cases t1 with
  | true=>
   go_wp2
   go_ret
   exact ⟨rfl,B3.out.1⟩
  | false=>
   obtain ⟨b0,b1,b2,b3⟩:=B3.out.2
   go_wp2_with fail
   clear b0 b1 b2 b3
   refine (HH2.out _ rfl w3 B3.out.1).mono ?_
   rintro e w4 ⟨rfl,q4⟩
   have B4:Hid (Below w.heap.size w w4):=B3.out.1.trans (q4.mono B3.out.1.size)
   clear q4 B3 HH2
   cases t2 with
   | true=>
    go_wp2
    go_ret
    exact ⟨rfl,B4.out⟩
   | false=>
    go_wp2
    go_ret
    exact ⟨rfl,B4.out⟩
structure Ckx (y:Sy) (d:Nat->Nat):Prop where
 self:∀ p,p<y.pn->∀ i,i<d p->clk y p i p=i+1
 le:∀ p,p<y.pn->∀ i,i<d p->∀ q,clk y p i q<=d q
 mono:∀ p,p<y.pn->∀ i,i<d p->0<i->∀ q,clk y p (i - 1) q<=clk y p i q
 tr:∀ p,p<y.pn->∀ i,i<d p->∀ q,q<y.pn->0<clk y p i q->∀ r,clk y q (clk y p i q - 1) r<=clk y p i r
 anti:∀ p,p<y.pn->∀ i,i<d p->∀ q,q<y.pn->∀ j,j<d q->(p≠q\/i≠j)->j<clk y p i q->¬ i<clk y q j p
 snd:∀ p,p<y.pn->∀ i,i<d p->∀ s,sdr y p i=some s->s.1<y.pn/\s.2<clk y p i s.1
theorem put_ckx {y:Sy} {d:Nat->Nat} (hO:y.Ok) (h:y.hs.Put d):Ckx y d:=by
 induction h with
 | start=>exact ⟨fun p _ i hi=>absurd hi (Nat.not_lt_zero _),fun p _ i hi=>absurd hi (Nat.not_lt_zero _),fun p _ i hi=>absurd hi (Nat.not_lt_zero _),fun p _ i hi=>absurd hi (Nat.not_lt_zero _),fun p _ i hi=>absurd hi (Nat.not_lt_zero _),fun p _ i hi=>absurd hi (Nat.not_lt_zero _)⟩
 | @next d p0 hput hp0 hc ih=>
  have hp0':p0<y.pn:=hp0
  have nx:=clk_next hO hput hp0' hc
  have old:∀ p i,i<up d p0 p->(p=p0/\i=d p0)\/i<d p:=fun p i hi=>by
   by_cases e:p=p0
   ·subst e
    rw [up_same] at hi
    by_cases e':i=d p
    ·exact .inl ⟨rfl,e'⟩
    ·exact .inr (by omega)
   ·rw [up_other e] at hi
    exact .inr hi
  have upl:∀ q,d q<=up d p0 q:=fun q=>by
   by_cases e:q=p0
   ·subst e
    rw [up_same]
    omega
   ·rw [up_other e]
    exact Nat.le_refl _
  have sl:clk y p0 (d p0) p0=d p0+1:=by rw [nx,if_pos rfl]
  have A:∀ q,0<d p0->clk y p0 (d p0 - 1) q<=clk y p0 (d p0) q:=fun q h0=>by
   by_cases e:q=p0
   ·subst e
    rw [sl,ih.self q hp0' (d q - 1) (by omega)]
    omega
   ·rw [nx,if_neg e,if_neg (by omega:¬ d p0=0)]
    exact Nat.le_max_left _ _
  have B:∀ s,sdr y p0 (d p0)=some s->s.1<y.pn/\s.2<d s.1/\∀ q,clk y s.1 s.2 q<=clk y p0 (d p0) q:=fun s hs=>by
   obtain ⟨s1,s2,-⟩:=can_sdr hO hput.le hp0' hc hs
   refine ⟨s1,s2,fun q=>?_⟩
   by_cases e:q=p0
   ·subst e
    rw [sl]
    exact zP (ih.le s.1 s1 s.2 s2 q) (Nat.le_succ _)
   ·rw [nx,if_neg e,hs]
    exact Nat.le_max_right _ _
  have ca:∀ q,q≠p0->0<clk y p0 (d p0) q->(0<d p0/\clk y p0 (d p0) q=clk y p0 (d p0 - 1) q)\/∃ s,sdr y p0 (d p0)=some s/\clk y p0 (d p0) q=clk y s.1 s.2 q:=fun q e h0=>by
   rw [nx,if_neg e] at h0 ⊢
   cases hs:sdr y p0 (d p0) with
   | none=>
    rw [hs] at h0
    by_cases e0:d p0=0
    ·rw [if_pos e0] at h0
     simp at h0
    ·rw [if_neg e0]
     exact .inl ⟨by omega,by simp⟩
   | some s=>
    rw [hs] at h0
    by_cases e0:d p0=0
    ·rw [if_pos e0]
     exact .inr ⟨s,rfl,by simp⟩
    ·rw [if_neg e0]
     rcases Nat.le_total (clk y p0 (d p0 - 1) q) (clk y s.1 s.2 q) with h1 | h1
     ·exact .inr ⟨s,rfl,Nat.max_eq_right h1⟩
     ·exact .inl ⟨by omega,Nat.max_eq_left h1⟩
  have le:∀ q,clk y p0 (d p0) q<=up d p0 q:=fun q=>by
   by_cases e:q=p0
   ·subst e
    rw [sl,up_same]
    exact Nat.le_refl _
   ·rw [up_other e]
    by_cases h0:0<clk y p0 (d p0) q
    ·rcases ca q e h0 with ⟨h1,h2⟩ | ⟨s,h1,h2⟩
     ·rw [h2]
      exact ih.le p0 hp0' _ (by omega) q
     ·obtain ⟨s1,s2,-⟩:=B s h1
      rw [h2]
      exact ih.le s.1 s1 s.2 s2 q
    ·omega
  refine ⟨fun p hp i hi=>?_,fun p hp i hi q=>?_,fun p hp i hi h0 q=>?_,fun p hp i hi q hq h0 r=>?_,fun p hp i hi q hq j hj hne h1 h2=>?_,fun p hp i hi s hs=>?_⟩
  ·rcases old p i hi with ⟨rfl,rfl⟩ | hi'
   ·exact sl
   ·exact ih.self p hp i hi'
  ·rcases old p i hi with ⟨rfl,rfl⟩ | hi'
   ·exact le q
   ·exact zP (ih.le p hp i hi' q) (upl q)
  ·rcases old p i hi with ⟨rfl,rfl⟩ | hi'
   ·exact A q h0
   ·exact ih.mono p hp i hi' h0 q
  ·rcases old p i hi with ⟨rfl,rfl⟩ | hi'
   ·by_cases e:q=p
    ·subst e
     rw [sl,Nat.add_sub_cancel]
     exact Nat.le_refl _
    ·rcases ca q e h0 with ⟨h1,h2⟩ | ⟨s,h1,h2⟩
     ·rw [h2] at h0 ⊢
      exact zP (ih.tr p hp _ (by omega) q hq h0 r) (A r h1)
     ·obtain ⟨s1,s2,s3⟩:=B s h1
      rw [h2] at h0 ⊢
      exact zP (ih.tr s.1 s1 s.2 s2 q hq h0 r) (s3 r)
   ·exact ih.tr p hp i hi' q hq h0 r
  ·rcases old p i hi with ⟨rfl,rfl⟩ | hi'
   ·rcases old q j hj with ⟨rfl,rfl⟩ | hj'
    ·rcases hne with h | h <;> exact h rfl
    ·have:=ih.le q hq j hj' p
     omega
   ·rcases old q j hj with ⟨rfl,rfl⟩ | hj'
    ·have:=ih.le p hp i hi' q
     omega
    ·exact ih.anti p hp i hi' q hq j hj' hne h1 h2
  ·rcases old p i hi with ⟨rfl,rfl⟩ | hi'
   ·obtain ⟨s1,s2,s3⟩:=B s hs
    have h9:=s3 s.1
    rw [ih.self s.1 s1 s.2 s2] at h9
    exact ⟨s1,by omega⟩
   ·exact ih.snd p hp i hi' s hs
theorem Sy.Ok.ckx {y:Sy} (hO:y.Ok):∃ d,Ckx y d/\∀ p,p<y.pn->d p=y.hL p:=by
 obtain ⟨d,hA,hall⟩:=hO.ro
 exact ⟨d,put_ckx hO hA,hall⟩
theorem hgB_parts {y:Sy} {p i q j:Int} (h:hgB y p i q j=true):∃ a b c d:Nat,p=a/\i=b/\q=c/\j=d/\y.Ok/\a<y.pn/\b<y.hL a/\c<y.pn/\d<y.hL c/\(a≠c\/b≠d)/\d<clk y a b c:=by
 unfold hgB bothB at h
 simp only [Bool.and_eq_true] at h
 obtain ⟨⟨h1,h2⟩,h3⟩:=h
 obtain ⟨ho,a,b,rfl,rfl,ha,hb⟩:=hasB_parts h1
 obtain ⟨-,c,d,rfl,rfl,hc,hd⟩:=hasB_parts h2
 refine ⟨a,b,c,d,rfl,rfl,rfl,rfl,ho,ha,hb,hc,hd,?_,?_⟩
 ·simp [hgN,spEq] at h3
  omega
 ·simp [hgN,spEq] at h3
  exact h3.2
theorem hgB_anti {y:Sy} {p i q j:Int} (h:hgB y p i q j=true):hgB y q j p i=false:=by
 refine Bool.eq_false_iff.2 fun h'=>?_
 obtain ⟨a,b,c,d,rfl,rfl,rfl,rfl,ho,ha,hb,hc,hd,hne,hlt⟩:=hgB_parts h
 obtain ⟨c',d',a',b',e1,e2,e3,e4,-,-,-,-,-,-,hlt'⟩:=hgB_parts h'
 obtain rfl:c=c':=by omega
 obtain rfl:d=d':=by omega
 obtain rfl:a=a':=by omega
 obtain rfl:b=b':=by omega
 obtain ⟨D,hD,hall⟩:=ho.ckx
 exact hD.anti a ha b (by rw [hall a ha];exact hb) c hc d (by rw [hall c hc];exact hd) hne hlt hlt'
theorem sdB_symm (y:Sy) (p i q j:Int):sdB y p i q j=sdB y q j p i:=by
 have e1:spEq p i q j=spEq q j p i:=by
  unfold spEq
  rw [Bool.beq_comm (a:=p),Bool.beq_comm (a:=i)]
 unfold sdB bothB
 rw [e1,Bool.and_comm (hasB y p i),Bool.and_comm (!hgN y p.toNat i.toNat q.toNat j.toNat)]
theorem ckL_there {y:Sy} {p i:Int}:0<(ckL y p i).length ↔ hasB y p i=true:=by
 unfold ckL
 by_cases h:hasB y p i=true
 ·rw [if_pos h,ckN_len]
  obtain ⟨ho,-⟩:=hasB_parts h
  exact ⟨fun _=>h,fun _=>ho.cn.1.1⟩
 ·rw [if_neg h]
  exact ⟨fun h'=>absurd h' (by simp),fun h'=>absurd h' h⟩
theorem sdB_one {y:Sy} {p i q j:Int} (h1:hasB y p i=true) (h2:hasB y q j=true) (hne:spEq p i q j=false):sdB y p i q j=(!hgB y p i q j && !hgB y q j p i):=by
 simp [sdB,hgB,bothB,h1,h2,hne]
theorem sdB_no {y:Sy} {p i q j:Int} (h:¬ (hasB y p i=true/\hasB y q j=true/\spEq p i q j=false)):sdB y p i q j=false/\hgB y p i q j=false/\hgB y q j p i=false:=by
 have key:∀ {p i q j:Int},¬ (hasB y p i=true/\hasB y q j=true/\spEq p i q j=false)->hgB y p i q j=false:=fun {p i q j} h=>by
  refine Bool.eq_false_iff.2 fun h'=>h ?_
  obtain ⟨a,b,c,d,rfl,rfl,rfl,rfl,ho,ha,hb,hc,hd,hne,-⟩:=hgB_parts h'
  refine ⟨hasB_mk (Sy.okB_true ho) ha hb,hasB_mk (Sy.okB_true ho) hc hd,?_⟩
  simp [spEq]
  omega
 refine ⟨?_,key h,key fun h'=>h ⟨h'.2.1,h'.1,?_⟩⟩
 ·refine Bool.eq_false_iff.2 fun h'=>h ?_
  simp only [sdB,bothB,Bool.and_eq_true,Bool.not_eq_true'] at h'
  exact ⟨h'.1.2.1,h'.1.2.2,h'.1.1⟩
 ·have h9:=h'.2.2
  unfold spEq at h9 ⊢
  rw [Bool.beq_comm (a:=p),Bool.beq_comm (a:=i)]
  exact h9
theorem Tryz.et : Tryz.prog.globalNamed "errors.errorType" = some 0 := by kernel_rfl
theorem Tryz.rt : (Tryz.prog.cutTypes.find? (·.1 == "internal/reflectlite.rtype")).map (·.2) = some 193 := by kernel_rfl
theorem Tryz.oneRow:((List.range 254).filter fun t=>Tryz.prog.rowNamed t [101,114,114,111,114])=[141]:=by kernel_rfl
theorem Tryz.tsize:Tryz.prog.types.size=254:=by kernel_rfl
theorem handle_of_laid {W : World} (h : laidMetH Tryz.prog [("errors.errorType", Rows.laid_errors_errorType)] W) : W.cell? ⟨0, 0, none⟩ = some (.iface 193 (.agg #[.pointer (some ⟨1, 141, none⟩)])) := by
 have h' : laidMet Tryz.prog [] W /\ handlesMet Tryz.prog [("errors.errorType", Rows.laid_errors_errorType)] W := h
 obtain ⟨name,u,ty,e1,e2,e3,e4,e5⟩:=h'.2 _ (List.mem_singleton.2 rfl)
 have en:name=[101,114,114,111,114]:=(Option.some.inj e1).symm
 subst en
 obtain rfl:=Option.some.inj (Tryz.rt.symm.trans e2)
 have hm:ty ∈ (List.range 254).filter fun t=>Tryz.prog.rowNamed t [101,114,114,111,114]:=List.mem_filter.2 ⟨List.mem_range.2 (by rw [<- Tryz.tsize];exact e3),e4⟩
 rw [Tryz.oneRow] at hm
 obtain rfl:=List.mem_singleton.1 hm
 have hh:typeHandle Tryz.prog 141=.pointer (some ⟨1,141,none⟩):=by kernel_rfl
 rw [hh] at e5
 simpa using World.var?_cell Tryz.et e5 0
noncomputable def laidWorld (os:Os):World:=
 let w0:=World.holding Tryz.prog os ⟨#[],#[],[]⟩
 { w0 with heap := w0.heap.modify 0 fun
   | .cells _ t frozen=>.cells #[.iface 193 (.agg #[.pointer (some ⟨1,141,none⟩)])] t frozen
   | o=>o }
theorem laidWorld_met (os : Os) (args : Array Value) : laidMetH Tryz.prog [("errors.errorType", Rows.laid_errors_errorType)] ((laidWorld os).forCall (fun _ _ => 0) ⟨#[], args, []⟩).memory :=
 laidMetH_of_parts (laidMet_nil _ _) (by kernel_rfl)
