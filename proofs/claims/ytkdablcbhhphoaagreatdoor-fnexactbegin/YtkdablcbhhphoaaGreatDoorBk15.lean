import Derived.Test.YtkdablcbhhphoaaGreatDoorBk12
import Derived.Test.YtkdablcbhhphoaaGreatDoorBk14
import Derived.Deep.RegionLaw
namespace Go.Proofs.YtkdablcbhhphoaaGreatDoor
set_option maxRecDepth 100000
set_option maxHeartbeats 4000000
open Go.ChangeShapes Go.WideShapes Go.ChangeAt Go.RowKit Go.Deep
structure Sy where
 pn:Nat
 pL:Nat->Nat
 pH:Nat->Nat->I5
 sn:Nat
 sS:Nat->S4
 wn:Nat
 wL:Nat->Nat
 wH:Nat->Nat->I2
 hn:Nat
 hL:Nat->Nat
 hH:Nat->Nat->E3
def SysIn.y (x:SysIn):Sy:=⟨x.pn,x.pL,x.pH,x.sn,x.sS,x.wn,x.wL,x.wH,x.hn,x.hL,x.hH⟩
def Sy.hs (y:Sy):Hs:=⟨y.pn,y.hL,y.hH⟩
def qcg (x:I2):Bool:=numB x.v && (!x.m || x.v == 0)
structure WayP (h:Nat->I2) (len:Nat) (took sent:List Int):Prop where
 it:∀ i,i<len->qcg (h i)=true
 le:len<=12
 eq:took ++ numL h len=sent
structure Sy.Ok (y:Sy):Prop where
 cn:(1<=y.pn/\y.pn<=4)/\y.sn=y.pn/\y.hn=y.pn/\y.wn=y.pn*y.pn
 pr:∀ p,p<y.pn->qac (y.pH p) (y.pL p) y.pn=true
 rp:∀ p,p<y.pn->repO (y.pH p) (y.pL p) (y.hH p) (y.hL p)=some (y.sS p)
 pe:∀ p,p<y.pn->∀ i,i<y.hL p->(y.hH p i).q<(y.pn:Int)
 wa:∀ a,a<y.pn->∀ b,b<y.pn->WayP (y.wH (a*y.pn+b)) (y.wL (a*y.pn+b)) (valL (y.hH b) 3 a (y.hL b)) (valL (y.hH a) 2 b (y.hL a))
 ro:y.hs.Row
noncomputable def Sy.okB (y:Sy):Bool:=@decide y.Ok (Classical.propDecidable _)
theorem Sy.okB_true {y:Sy} (h:y.Ok):y.okB=true:=by simp [Sy.okB,h]
theorem Sy.okB_false {y:Sy} (h:¬ y.Ok):y.okB=false:=by simp [Sy.okB,h]
theorem Sy.ok_of {y:Sy} (h:y.okB=true):y.Ok:=by simpa [Sy.okB] using h
theorem qx3 {g:Nat->I5} {len:Nat} {k:Nat} (h:qac g len 4=true) (hk:k<len):0<=evP (g k).o (g k).n:=by
 have h5:=qbt h hk;simp only [qaj,Bool.and_eq_true] at h5;have h6:=h5.2;unfold evP;by_cases e6:(g k).o=6
 ·rw [if_pos e6]
  simp [qa8,e6,inB] at h6;omega
 ·rw [if_neg e6]
  by_cases e7:(g k).o=7
  ·rw [if_pos e7]
   simp [qa8,e7,inB] at h6;omega
  ·rw [if_neg e7]
   exact Int.le_refl _
theorem qv7 {g:Nat->I5} {len:Nat} {p:Int} {rs os:List Int} {code k q v:Int} (h:doB g len p rs os code k q v=true):0<=q:=by
 have hr:=qdr h;obtain ⟨h1,h2,-⟩:=qbb hr;obtain ⟨-,⟨j,rfl,hj⟩,-⟩:=qck h2;have hp:=qx3 h1 hj;simp only [doB,canB,nxP,if_pos hr,Int.toNat_natCast] at h
 split at h
 ·simp only [Bool.and_eq_true] at h
  have h3:=h.2
  split at h3
  ·simp only [belB,decide_eq_true_eq] at h3
   omega
  ·simp only [beq_iff_eq] at h3
   omega
 ·simp only [Bool.and_eq_true,beq_iff_eq] at h
  have:=h.2.2.1;omega
theorem qqp {g:Nat->I5} {len:Nat} {eh:Nat->E3}:∀ {k:Nat} {S:S4},rp g len eh k=some S->∀ i,i<k->0<=(eh i).q
 | 0,_,_,i,hi=>by omega
 | k+1,S,h,i,hi=>by
  simp only [rp] at h;cases hr:rp g len eh k with
  | none=>rw [hr] at h;cases h
  | some S0=>
   rw [hr] at h;simp only [Option.bind_some,qeo] at h
   split at h
   ·rename_i hd
    by_cases e:i=k
    ·subst e
     exact qv7 hd
    ·exact qqp hr i (by omega)
   ·cases h
theorem qcp {g:Nat->I5} {n:Nat} {eh:Nat->E3} {m:Nat} {S:S4} (h:repO g n eh m=some S):qac g n 4=true/\m<=200/\rp g n eh m=some S:=by
 unfold repO at h
 split at h
 ·rename_i hc
  exact ⟨hc.1,hc.2,h⟩
 ·cases h
structure SysG (W:World) (x:SysIn):Prop where
 p:RowS W x.pa x.pn fun i=>.slice (x.pA i) (x.pL i) (x.pC i)
 pi:∀ i,i<x.pn->∃ b,x.pA i=some ⟨b,0,none⟩/\b<W.heap.size/\qan W b 0 (x.pL i) (x.pH i)
 s:qbd W x.sa x.sn x.sQ
 w:RowS W x.wa x.wn fun i=>.slice (x.wA i) (x.wL i) (x.wC i)
 wi:∀ i,i<x.wn->ItL W (x.wA i) (x.wL i) (x.wH i)
 h:RowS W x.ha x.hn fun i=>.slice (x.hA i) (x.hL i) (x.hC i)
 hi:∀ i,i<x.hn->EvL W (x.hA i) (x.hL i) (x.hH i)
theorem SysG.below {w w':World} {x:SysIn} (o:SysG w x) (hb:Below w.heap.size w w'):SysG w' x:=
 ⟨o.p.below hb, fun i hi => by
  obtain ⟨b,e,hlt,hI⟩:=o.pi i hi
  exact ⟨b,e,zL hlt hb.size,hI.below hb hlt⟩,o.s.below hb,o.w.below hb,fun i hi=>(o.wi i hi).below hb,o.h.below hb,fun i hi=>(o.hi i hi).below hb⟩
structure SysIn.Len (x:SysIn):Prop where
 p:x.pn<=1048576/\∀ i,i<x.pn->x.pL i<=1048576
 s:x.sn<=1048576/\∀ i,i<x.sn->(x.sQ i).rs.length<=1048576/\(x.sQ i).os.length<=1048576
 w:x.wn<=1048576/\∀ i,i<x.wn->x.wL i<=1048576
 h:x.hn<=1048576/\∀ i,i<x.hn->x.hL i<=1048576
abbrev SysIn.v (x:SysIn):Value:=sysV x.pa x.pn x.pc x.sa x.sn x.sc x.wa x.wn x.wc x.ha x.hn x.hc
theorem qcf.g {w:World} {lo hi:Nat} {x:SysIn} {v:Value} (o:qcf w lo hi x v):∃ x':SysIn,v=x'.v/\SysG w x'/\x'.y=x.y:=by
 obtain ⟨D1,D2,D3,D4,b1,vs,b3,b4,h1,h2,h3,o⟩:=o;obtain ⟨q1,q2,q3,q4,-⟩:=o.hi
 have hst:∀ i,i<x.sn->∃ t:Option Addr × Nat × Option Addr × Nat,vs i=stV (x.sS i).p t.1 (x.sS i).rs.length t.2.1 t.2.2.1 (x.sS i).os.length t.2.2.2 (x.sS i).c/\w.cell? ⟨D2,i*4,none⟩=some (.int .i64 (x.sS i).p)/\w.cell? ⟨D2,i*4+1,none⟩=some (.slice t.1 (x.sS i).rs.length t.2.1)/\w.cell? ⟨D2,i*4+2,none⟩=some (.slice t.2.2.1 (x.sS i).os.length t.2.2.2)/\w.cell? ⟨D2,i*4+3,none⟩=some (.int .i64 (x.sS i).c):=by
  intro i hi;obtain ⟨ra,rc,oa,oc,e,c0,c1,c2,c3⟩:=o.ss.cel i hi;exact ⟨(ra,rc,oa,oc),e,c0,c1,c2,c3⟩
 have inh:Inhabited (Option Addr × Nat × Option Addr × Nat):=⟨(none,0,none,0)⟩
 obtain ⟨t,ht⟩:=Go.Deep.choose_lt hst;refine ⟨⟨some ⟨D1,0,none⟩,x.pn,x.pn,fun i=>some ⟨b1 i,0,none⟩,x.pL,x.pL,x.pH,some ⟨D2,0,none⟩,x.sn,x.sn,fun i=>⟨(x.sS i).p,(t i).1,(t i).2.1,(x.sS i).rs,(t i).2.2.1,(t i).2.2.2,(x.sS i).os,(x.sS i).c⟩,some ⟨D3,0,none⟩,x.wn,x.wn,fun i=>some ⟨b3 i,0,none⟩,x.wL,x.wL,x.wH,some ⟨D4,0,none⟩,x.hn,x.hn,fun i=>some ⟨b4 i,0,none⟩,x.hL,x.hL,x.hH⟩,o.val,?_,rfl⟩;have l1:=o.pp.lt;have l2:=o.ss.lt;have l3:=o.ww.lt;have l4:=o.hh.lt;refine ⟨.inr ⟨D1,0,rfl,by omega,fun i hi=>?_⟩,fun i hi=>⟨b1 i,rfl,zL (o.pp.bd i hi).2 o.pp.le,o.pp.row i hi⟩,⟨.inr ⟨D2,0,rfl,by omega,fun i hi=>?_⟩,fun i hi=>?_⟩,.inr ⟨D3,0,rfl,by omega,fun i hi=>?_⟩,fun i hi=>.inr ⟨b3 i,0,rfl,zL (o.ww.bd i hi).2 o.ww.le,o.ww.row i hi⟩,.inr ⟨D4,0,rfl,by omega,fun i hi=>?_⟩,fun i hi=>.inr ⟨b4 i,0,rfl,zL (o.hh.bd i hi).2 o.hh.le,o.hh.row i hi⟩⟩
 ·have:=o.pp.cel i hi
  simpa using this
 ·have:=(ht i hi).2
  simpa using this
 ·have h4:=o.ss.own i hi
  rw [(ht i hi).1] at h4;exact ⟨h4.parts.1.slOf,h4.parts.2.1.slOf⟩
 ·have:=o.ww.cel i hi
  simpa using this
 ·have:=o.hh.cel i hi
  simpa using this
variable {z:Bool}
structure OwnS (z:Bool) (w:World) (B:Nat) (c:Nat->Nat) (y:Sy) (vp vs vw vh:Value) (up us uw uh:Nat->Value):Prop where
 p:LI z w (Cl B c 1) vp y.pn up y.pL y.pH
 s:LS w (Cl B c 2) vs y.sn us y.sS
 t:LT z w (Cl B c 3) vw y.wn uw y.wL y.wH
 h:LE z w (Cl B c 4) vh y.hn uh y.hL y.hH
theorem OwnS.below {w w':World} {B:Nat} {c:Nat->Nat} {y:Sy} {vp vs vw vh:Value} {up us uw uh:Nat->Value} (o:OwnS z w B c y vp vs vw vh up us uw uh) (hb:Below w.heap.size w w'):OwnS z w' B c y vp vs vw vh up us uw uh:=⟨o.p.below hb,o.s.below hb,o.t.below hb,o.h.below hb⟩
def qbf (z:Bool) (w:World) (B:Nat) (y:Sy) (v:Value):Prop:=∃ c vp vs vw vh up us uw uh,v=.agg #[vp,vs,vw,vh]/\OwnS z w B c y vp vs vw vh up us uw uh
theorem qbf.below {w w':World} {B:Nat} {y:Sy} {v:Value} (o:qbf z w B y v) (hb:Below w.heap.size w w'):qbf z w' B y v:=by
 obtain ⟨c,vp,vs,vw,vh,up,us,uw,uh,e,o⟩:=o;exact ⟨c,vp,vs,vw,vh,up,us,uw,uh,e,o.below hb⟩
theorem qad (w:World) (o:Obj):Below w.heap.size w (w.alloc o):=(Below.refl _ _).alloc (Nat.le_refl _) _
theorem qc3 {n:Nat} {ls:Nat->Nat} {N:Nat} (h:sumL ls n<=N):∀ i,i<n->ls i<=N:=fun i hi=>by
 have:=qbc ls hi;omega
theorem SysIn.lens {x:SysIn} (h:x.size<=1048576):(x.pn<=1048576/\sumL x.pL x.pn<=1048576)/\(x.sn<=1048576/\sumL (lenS x.sS) x.sn<=1048576)/\(x.wn<=1048576/\sumL x.wL x.wn<=1048576)/\(x.hn<=1048576/\sumL x.hL x.hn<=1048576):=by
 unfold SysIn.size at h;omega
theorem SysIn.lensS {x:SysIn} (h:x.size<=1048576):∀ i,i<x.sn->(x.sQ i).rs.length<=1048576/\(x.sQ i).os.length<=1048576:=fun i hi=>by
 have:=qc3 (SysIn.lens h).2.1.2 i hi;have e:lenS x.sS i=(x.sQ i).rs.length+(x.sQ i).os.length:=rfl;omega
structure TB (w wx:World) (a0 a1 a2 a3 o0 o1 o2 o3:Value):Prop where
 p:BoxC wx w.heap.size a0 a1 a2 a3
 r:BoxC wx (w.heap.size+1) (.slice none 0 0) (.slice none 0 0) (.slice none 0 0) (.slice none 0 0)
 o:BoxC wx (w.heap.size+1+1) o0 o1 o2 o3
 fr:∀ j,wx.frozen? ⟨w.heap.size+1,j,none⟩=false
 fo:∀ j,wx.frozen? ⟨w.heap.size+1+1,j,none⟩=false
 be:Below w.heap.size w wx
 le:w.heap.size+3<=wx.heap.size
theorem TB.below {w wx w':World} {a0 a1 a2 a3 o0 o1 o2 o3:Value} (h:TB w wx a0 a1 a2 a3 o0 o1 o2 o3) (hb:Below wx.heap.size wx w'):TB w w' a0 a1 a2 a3 o0 o1 o2 o3:=
 ⟨h.p.below hb,h.r.below hb,h.o.below hb,fun j=>(hb.frozen (p:=⟨w.heap.size+1,j,none⟩) (by have:=h.le;show w.heap.size+1<_;omega)).trans (h.fr j),fun j=>(hb.frozen (p:=⟨w.heap.size+1+1,j,none⟩) (by have:=h.le;show w.heap.size+1+1<_;omega)).trans (h.fo j),h.be.trans (hb.mono h.be.size),zO h.le hb.size⟩
theorem TB.first {w:World} (a0 a1 a2 a3:Value) (t1 t2:TypeId):TB w (((w.alloc (.cells #[a0,a1,a2,a3] t1)).alloc (.cells #[.slice none 0 0,.slice none 0 0,.slice none 0 0,.slice none 0 0] t2)).alloc (.cells #[.slice none 0 0,.slice none 0 0,.slice none 0 0,.slice none 0 0] t2)) a0 a1 a2 a3 (.slice none 0 0) (.slice none 0 0) (.slice none 0 0) (.slice none 0 0):=by
 have hb1:=qad (w.alloc (.cells #[a0,a1,a2,a3] t1)) (.cells #[.slice none 0 0,.slice none 0 0,.slice none 0 0,.slice none 0 0] t2);have hb2:=qad ((w.alloc (.cells #[a0,a1,a2,a3] t1)).alloc (.cells #[.slice none 0 0,.slice none 0 0,.slice none 0 0,.slice none 0 0] t2)) (.cells #[.slice none 0 0,.slice none 0 0,.slice none 0 0,.slice none 0 0] t2);have n0:=BoxC.new w a0 a1 a2 a3 t1;have n1:=BoxC.new (w.alloc (.cells #[a0,a1,a2,a3] t1)) (.slice none 0 0) (.slice none 0 0) (.slice none 0 0) (.slice none 0 0) t2;have n2:=BoxC.new ((w.alloc (.cells #[a0,a1,a2,a3] t1)).alloc (.cells #[.slice none 0 0,.slice none 0 0,.slice none 0 0,.slice none 0 0] t2)) (.slice none 0 0) (.slice none 0 0) (.slice none 0 0) (.slice none 0 0) t2;have f1:=fun j=>yA (w.alloc (.cells #[a0,a1,a2,a3] t1)) #[.slice none 0 0,.slice none 0 0,.slice none 0 0,.slice none 0 0] t2 j rfl;have f2:=fun j=>yA ((w.alloc (.cells #[a0,a1,a2,a3] t1)).alloc (.cells #[.slice none 0 0,.slice none 0 0,.slice none 0 0,.slice none 0 0] t2)) #[.slice none 0 0,.slice none 0 0,.slice none 0 0,.slice none 0 0] t2 j rfl;simp only [World.size_alloc] at n1 n2 f1 f2;refine ⟨(n0.below hb1).below hb2,n1.below hb2,n2,fun j=>?_,f2,?_,by simp⟩
 ·exact (hb2.frozen (p:=⟨w.heap.size+1,j,none⟩) (by simp)).trans (f1 j)
 ·exact (((Below.refl _ _).alloc (Nat.le_refl _) _).alloc (by simp) _).alloc (by simp;omega) _
theorem BoxC.setO {w:World} {N M j:Nat} {p a b c u:Value} (h:BoxC w N p a b c) (hne:M≠N):BoxC (w.setCell ⟨M,j,none⟩ u) N p a b c:=by
 obtain ⟨h0,h1,h2,h3⟩:=h;have hc:∀ i,(w.setCell ⟨M,j,none⟩ u).cell? ⟨N,i,none⟩=w.cell? ⟨N,i,none⟩:=fun i=>World.cell?_setCell_other _ _ _ _ fun e=>hne (by injection e);exact ⟨(hc _).trans h0,(hc _).trans h1,(hc _).trans h2,(hc _).trans h3⟩
theorem TB.set0 {w wx:World} {a0 a1 a2 a3 o0 o1 o2 o3:Value} (h:TB w wx a0 a1 a2 a3 o0 o1 o2 o3) (u:Value):TB w (wx.setCell ⟨w.heap.size+1+1,0,none⟩ u) a0 a1 a2 a3 u o1 o2 o3:=by
 obtain ⟨q0,q1,q2,q3⟩:=h.o;have hc:∀ i,0≠i->(wx.setCell ⟨w.heap.size+1+1,0,none⟩ u).cell? ⟨w.heap.size+1+1,i,none⟩=wx.cell? ⟨w.heap.size+1+1,i,none⟩:=fun i hi=>World.cell?_setCell_other _ _ _ _ fun e=>hi (by injection e);exact ⟨h.p.setO (by omega),h.r.setO (by omega),⟨World.cell?_setCell_same _ _ _ q0,(hc _ (by omega)).trans q1,(hc _ (by omega)).trans q2,(hc _ (by omega)).trans q3⟩,fun j=>by rw [World.frozen?_setCell];exact h.fr j,fun j=>by rw [World.frozen?_setCell];exact h.fo j,h.be.setCell (by simp;omega) _,by simp;exact h.le⟩
theorem TB.set1 {w wx:World} {a0 a1 a2 a3 o0 o1 o2 o3:Value} (h:TB w wx a0 a1 a2 a3 o0 o1 o2 o3) (u:Value):TB w (wx.setCell ⟨w.heap.size+1+1,1,none⟩ u) a0 a1 a2 a3 o0 u o2 o3:=by
 obtain ⟨q0,q1,q2,q3⟩:=h.o;have hc:∀ i,1≠i->(wx.setCell ⟨w.heap.size+1+1,1,none⟩ u).cell? ⟨w.heap.size+1+1,i,none⟩=wx.cell? ⟨w.heap.size+1+1,i,none⟩:=fun i hi=>World.cell?_setCell_other _ _ _ _ fun e=>hi (by injection e);exact ⟨h.p.setO (by omega),h.r.setO (by omega),⟨(hc _ (by omega)).trans q0,World.cell?_setCell_same _ _ _ q1,(hc _ (by omega)).trans q2,(hc _ (by omega)).trans q3⟩,fun j=>by rw [World.frozen?_setCell];exact h.fr j,fun j=>by rw [World.frozen?_setCell];exact h.fo j,h.be.setCell (by simp;omega) _,by simp;exact h.le⟩
theorem TB.set2 {w wx:World} {a0 a1 a2 a3 o0 o1 o2 o3:Value} (h:TB w wx a0 a1 a2 a3 o0 o1 o2 o3) (u:Value):TB w (wx.setCell ⟨w.heap.size+1+1,2,none⟩ u) a0 a1 a2 a3 o0 o1 u o3:=by
 obtain ⟨q0,q1,q2,q3⟩:=h.o;have hc:∀ i,2≠i->(wx.setCell ⟨w.heap.size+1+1,2,none⟩ u).cell? ⟨w.heap.size+1+1,i,none⟩=wx.cell? ⟨w.heap.size+1+1,i,none⟩:=fun i hi=>World.cell?_setCell_other _ _ _ _ fun e=>hi (by injection e);exact ⟨h.p.setO (by omega),h.r.setO (by omega),⟨(hc _ (by omega)).trans q0,(hc _ (by omega)).trans q1,World.cell?_setCell_same _ _ _ q2,(hc _ (by omega)).trans q3⟩,fun j=>by rw [World.frozen?_setCell];exact h.fr j,fun j=>by rw [World.frozen?_setCell];exact h.fo j,h.be.setCell (by simp;omega) _,by simp;exact h.le⟩
theorem qvu (x:SysIn) (W w:World) (hs:x.size<=1048576) (hA:x.Ok W) (hW:Below W.heap.size W w):
  Calls Tryz.prog 23 #[sysV x.pa x.pn x.pc x.sa x.sn x.sc x.wa x.wn x.wc x.ha x.hn x.hc] w fun e w'=>∃ v,e=.returned v/\qcf w' w.heap.size w'.heap.size x v/\Below w.heap.size w w':=by
 have HA:Hid (x.Ok W):=hA;have HW:Hid (Below W.heap.size W w):=hW;have HS:Hid (x.size<=1048576):=hs;have HWs:Hid (W.heap.size<=w.heap.size):=hW.size;clear hA hW hs
 go_enter Tryz.func23,Tryz.ntmps23
 have T0:Hid (TB w (((w.alloc (.cells #[.slice x.pa x.pn x.pc,.slice x.sa x.sn x.sc,.slice x.wa x.wn x.wc,.slice x.ha x.hn x.hc] 27)).alloc (zQ2)).alloc (zQ2)) (.slice x.pa x.pn x.pc) (.slice x.sa x.sn x.sc) (.slice x.wa x.wn x.wc) (.slice x.ha x.hn x.hc) (.slice none 0 0) (.slice none 0 0) (.slice none 0 0) (.slice none 0 0)):=TB.first _ _ _ _ _ _
 go_wp2_with fail
 generalize ((w.alloc (.cells #[.slice x.pa x.pn x.pc,.slice x.sa x.sn x.sc,.slice x.wa x.wn x.wc,.slice x.ha x.hn x.hc] 27)).alloc (zQ2)).alloc (zQ2)=wA at *;refine (qqx _ _ _ _ x.pL _ x.pH W _ (SysIn.lens HS.out).1.1 HA.out.p (HW.out.trans (T0.out.be.mono HWs.out))).mono ?_;rintro e w1 ⟨rfl,⟨bs1,o1⟩,b1⟩;have T1:Hid (TB w w1 (.slice x.pa x.pn x.pc) (.slice x.sa x.sn x.sc) (.slice x.wa x.wn x.wc) (.slice x.ha x.hn x.hc) (.slice none 0 0) (.slice none 0 0) (.slice none 0 0) (.slice none 0 0)):=T0.out.below b1;have O1:Hid (qbk w1 wA.heap.size w1.heap.size x.pn x.pL bs1 x.pH):=o1;have zA:w.heap.size+3<=wA.heap.size:=T0.out.le;clear b1 T0 o1;obtain ⟨⟨p0,p1,p2,p3⟩,-,⟨q0,q1,q2,q3⟩,-,fo,-,le⟩:=T1.out;go_wp2_with fail
 have T2:Hid (TB w (w1.setCell ⟨w.heap.size+1+1,0,none⟩ (.slice (some ⟨wA.heap.size,0,none⟩) x.pn x.pn)) (.slice x.pa x.pn x.pc) (.slice x.sa x.sn x.sc) (.slice x.wa x.wn x.wc) (.slice x.ha x.hn x.hc) (.slice (some ⟨wA.heap.size,0,none⟩) x.pn x.pn) (.slice none 0 0) (.slice none 0 0) (.slice none 0 0)):=T1.out.set0 _;have O2:Hid (qbk (w1.setCell ⟨w.heap.size+1+1,0,none⟩ (.slice (some ⟨wA.heap.size,0,none⟩) x.pn x.pn)) wA.heap.size w1.heap.size x.pn x.pL bs1 x.pH):=O1.out.keep (by simp) fun k hk _=>zN _ _ _ _ (by simp;omega);have h12:w1.heap.size=(w1.setCell ⟨w.heap.size+1+1,0,none⟩ (.slice (some ⟨wA.heap.size,0,none⟩) x.pn x.pn)).heap.size:=by simp
 have l1:wA.heap.size<w1.heap.size:=O1.out.lt;clear O1 T1 p0 p1 p2 p3 q0 q1 q2 q3 fo le;generalize w1.setCell ⟨w.heap.size+1+1,0,none⟩ (.slice (some ⟨wA.heap.size,0,none⟩) x.pn x.pn)=wB at *;rw [h12] at O2 l1;clear h12;refine (qow _ _ _ x.sQ W wB (SysIn.lens HS.out).2.1.1 (SysIn.lensS HS.out) HA.out.s (HW.out.trans (T2.out.be.mono HWs.out))).mono ?_;rintro e w2 ⟨rfl,⟨vs,o2⟩,b2⟩;have T3:Hid (TB w w2 (.slice x.pa x.pn x.pc) (.slice x.sa x.sn x.sc) (.slice x.wa x.wn x.wc) (.slice x.ha x.hn x.hc) (.slice (some ⟨wA.heap.size,0,none⟩) x.pn x.pn) (.slice none 0 0) (.slice none 0 0) (.slice none 0 0)):=T2.out.below b2;have P3:Hid (qbk w2 wA.heap.size wB.heap.size x.pn x.pL bs1 x.pH):=O2.out.below b2 (Nat.le_refl _);have S3:Hid (qau w2 wB.heap.size w2.heap.size x.sn x.sS vs):=o2;clear b2 T2 o2 O2;obtain ⟨⟨p0,p1,p2,p3⟩,-,⟨q0,q1,q2,q3⟩,-,fo,-,le⟩:=T3.out;go_wp2_with fail
 have T4:Hid (TB w (w2.setCell ⟨w.heap.size+1+1,1,none⟩ (.slice (some ⟨wB.heap.size,0,none⟩) x.sn x.sn)) (.slice x.pa x.pn x.pc) (.slice x.sa x.sn x.sc) (.slice x.wa x.wn x.wc) (.slice x.ha x.hn x.hc) (.slice (some ⟨wA.heap.size,0,none⟩) x.pn x.pn) (.slice (some ⟨wB.heap.size,0,none⟩) x.sn x.sn) (.slice none 0 0) (.slice none 0 0)):=T3.out.set1 _;have P4:Hid (qbk (w2.setCell ⟨w.heap.size+1+1,1,none⟩ (.slice (some ⟨wB.heap.size,0,none⟩) x.sn x.sn)) wA.heap.size wB.heap.size x.pn x.pL bs1 x.pH):=P3.out.keep (by simp) fun k hk _=>zN _ _ _ _ (by simp;omega);have S4':Hid (qau (w2.setCell ⟨w.heap.size+1+1,1,none⟩ (.slice (some ⟨wB.heap.size,0,none⟩) x.sn x.sn)) wB.heap.size w2.heap.size x.sn x.sS vs):=S3.out.keep (by simp) fun k hk _=>zN _ _ _ _ (by simp;omega);have h12:w2.heap.size=(w2.setCell ⟨w.heap.size+1+1,1,none⟩ (.slice (some ⟨wB.heap.size,0,none⟩) x.sn x.sn)).heap.size:=by simp
 have l2:wB.heap.size<w2.heap.size:=S3.out.lt;clear P3 S3 T3 p0 p1 p2 p3 q0 q1 q2 q3 fo le;generalize w2.setCell ⟨w.heap.size+1+1,1,none⟩ (.slice (some ⟨wB.heap.size,0,none⟩) x.sn x.sn)=wC at *;rw [h12] at S4' l2;clear h12;refine (qou _ _ _ _ x.wL _ x.wH W wC (SysIn.lens HS.out).2.2.1.1 HA.out.w (HW.out.trans (T4.out.be.mono HWs.out))).mono ?_;rintro e w3 ⟨rfl,⟨bs3,o3⟩,b3⟩;have T5:Hid (TB w w3 (.slice x.pa x.pn x.pc) (.slice x.sa x.sn x.sc) (.slice x.wa x.wn x.wc) (.slice x.ha x.hn x.hc) (.slice (some ⟨wA.heap.size,0,none⟩) x.pn x.pn) (.slice (some ⟨wB.heap.size,0,none⟩) x.sn x.sn) (.slice none 0 0) (.slice none 0 0)):=T4.out.below b3;have P5:Hid (qbk w3 wA.heap.size wB.heap.size x.pn x.pL bs1 x.pH):=P4.out.below b3 (by omega);have S5:Hid (qau w3 wB.heap.size wC.heap.size x.sn x.sS vs):=S4'.out.below b3 (Nat.le_refl _);have W5:Hid (qa3 w3 wC.heap.size w3.heap.size x.wn x.wL bs3 x.wH):=o3;clear b3 T4 o3 P4 S4';obtain ⟨⟨p0,p1,p2,p3⟩,-,⟨q0,q1,q2,q3⟩,-,fo,-,le⟩:=T5.out;go_wp2_with fail
 have T6:Hid (TB w (w3.setCell ⟨w.heap.size+1+1,2,none⟩ (.slice (some ⟨wC.heap.size,0,none⟩) x.wn x.wn)) (.slice x.pa x.pn x.pc) (.slice x.sa x.sn x.sc) (.slice x.wa x.wn x.wc) (.slice x.ha x.hn x.hc) (.slice (some ⟨wA.heap.size,0,none⟩) x.pn x.pn) (.slice (some ⟨wB.heap.size,0,none⟩) x.sn x.sn) (.slice (some ⟨wC.heap.size,0,none⟩) x.wn x.wn) (.slice none 0 0)):=T5.out.set2 _;have P6:Hid (qbk (w3.setCell ⟨w.heap.size+1+1,2,none⟩ (.slice (some ⟨wC.heap.size,0,none⟩) x.wn x.wn)) wA.heap.size wB.heap.size x.pn x.pL bs1 x.pH):=P5.out.keep (by simp) fun k hk _=>zN _ _ _ _ (by simp;omega);have S6:Hid (qau (w3.setCell ⟨w.heap.size+1+1,2,none⟩ (.slice (some ⟨wC.heap.size,0,none⟩) x.wn x.wn)) wB.heap.size wC.heap.size x.sn x.sS vs):=S5.out.keep (by simp) fun k hk _=>zN _ _ _ _ (by simp;omega);have W6:Hid (qa3 (w3.setCell ⟨w.heap.size+1+1,2,none⟩ (.slice (some ⟨wC.heap.size,0,none⟩) x.wn x.wn)) wC.heap.size w3.heap.size x.wn x.wL bs3 x.wH):=W5.out.keep (by simp) fun k hk _=>zN _ _ _ _ (by simp;omega);have h12:w3.heap.size=(w3.setCell ⟨w.heap.size+1+1,2,none⟩ (.slice (some ⟨wC.heap.size,0,none⟩) x.wn x.wn)).heap.size:=by simp
 have l3:wC.heap.size<w3.heap.size:=W5.out.lt;clear P5 S5 W5 T5 p0 p1 p2 p3 q0 q1 q2 q3 fo le;generalize w3.setCell ⟨w.heap.size+1+1,2,none⟩ (.slice (some ⟨wC.heap.size,0,none⟩) x.wn x.wn)=wD at *;rw [h12] at W6 l3;clear h12;refine (ql7 _ _ _ _ x.hL _ x.hH W wD (SysIn.lens HS.out).2.2.2.1 HA.out.h (HW.out.trans (T6.out.be.mono HWs.out))).mono ?_;rintro e w4 ⟨rfl,⟨bs4,o4⟩,b4⟩;have T7:Hid (TB w w4 (.slice x.pa x.pn x.pc) (.slice x.sa x.sn x.sc) (.slice x.wa x.wn x.wc) (.slice x.ha x.hn x.hc) (.slice (some ⟨wA.heap.size,0,none⟩) x.pn x.pn) (.slice (some ⟨wB.heap.size,0,none⟩) x.sn x.sn) (.slice (some ⟨wC.heap.size,0,none⟩) x.wn x.wn) (.slice none 0 0)):=T6.out.below b4
 have HO:Hid (∀ W9:World,(∀ k,w.heap.size+3<=k->W9.heap[k]? = w4.heap[k]?)->W9.heap.size=w4.heap.size->qcf W9 w.heap.size W9.heap.size x (sysV (some ⟨wA.heap.size,0,none⟩) x.pn x.pn (some ⟨wB.heap.size,0,none⟩) x.sn x.sn (some ⟨wC.heap.size,0,none⟩) x.wn x.wn (some ⟨wD.heap.size,0,none⟩) x.hn x.hn)):=by
  intro W9 hk hz;have o4':qaw w4 wD.heap.size W9.heap.size x.hn x.hL bs4 x.hH:=hz ▸ o4;exact ⟨_,_,_,_,bs1,vs,bs3,bs4,wB.heap.size,wC.heap.size,wD.heap.size,rfl,(P6.out.below b4 (by omega)).keep (by omega) fun k h1 _=>hk k (by omega),(S6.out.below b4 (by omega)).keep (by omega) fun k h1 _=>hk k (by omega),(W6.out.below b4 (Nat.le_refl _)).keep (by omega) fun k h1 _=>hk k (by omega),o4'.keep (by omega) fun k h1 _=>hk k (by omega),by omega,Nat.le_refl _,Nat.le_refl _,Nat.le_refl _⟩
 clear b4 T6 o4 P6 S6 W6;obtain ⟨-,⟨r0,r1,r2,r3⟩,⟨q0,q1,q2,q3⟩,fr,fo,be,le⟩:=T7.out;have BE:Hid (Below w.heap.size w w4):=be;clear be T7;go_wp2;refine bodyPost_ret (v:=sysV (some ⟨wA.heap.size,0,none⟩) x.pn x.pn (some ⟨wB.heap.size,0,none⟩) x.sn x.sn (some ⟨wC.heap.size,0,none⟩) x.wn x.wn (some ⟨wD.heap.size,0,none⟩) x.hn x.hn) (by simp [results,Tryz.results23,go_sem,r0,r1,r2,r3]) rfl ⟨_,rfl,HO.out _ ?_ ?_,?_⟩
 ·intro k hk
  repeat (rw [zN _ _ _ _ (by simp;omega)])
 ·simp
 ·have:=BE.out
  go_grown
def rcol (c:Nat->Nat) (n q:Nat):Nat->Nat:=fun k=>if k<n then c k else q
theorem qfv {c:Nat->Nat} {n q k:Nat} (h:k<n):rcol c n q k=c k:=if_pos h
theorem qej {c:Nat->Nat} {n q k:Nat} (h:n<=k):rcol c n q k=q:=if_neg (by omega)
theorem Cl.old {B:Nat} {c:Nat->Nat} {n q i k:Nat} (h:Cl B c i k) (hk:k<n):Cl B (rcol c n q) i k:=⟨h.1,(qfv hk).trans h.2⟩
structure CpB (B N:Nat) (c:Nat->Nat) (y:Sy) (ks kw:Nat) (wx:World) (vp vs vw vh:Value) (up us uw uh:Nat->Value):Prop where
 bx:BoxC wx N vp vs vw vh
 fr:∀ j,wx.frozen? ⟨N,j,none⟩=false
 cN:c N=0
 bN:B<=N
 o:OwnS true wx B c { y with sn:=ks,wn:=kw } vp vs vw vh up us uw uh
section
variable {B N:Nat} {c:Nat->Nat} {y:Sy} {ks kw:Nat} {wr:World} {vp vs vw vh:Value} {up us uw uh:Nat->Value}
theorem CpB.lt (h:CpB B N c y ks kw wr vp vs vw vh up us uw uh):N<wr.heap.size:=zJ wr _ h.bx.1
theorem CpB.state (h:CpB B N c y ks kw wr vp vs vw vh up us uw uh) {w1 w3:World} {u' v':Value} (b1:Below wr.heap.size wr w1) (hu:qag w1 wr.heap.size u' (y.sS ks).p (y.sS ks).rs (y.sS ks).os (y.sS ks).c) (hv:w3.ownsRow 0 142 4 v' (ks+1) (flat (fun i=>cellsL (us i)) ks ++ cellsL u')) (g:w1.grownBy w3 vs.ownBlock) (hv':∀ j,v'.ownBlock=some j->vs.ownBlock=some j\/w1.heap.size<=j):
  CpB B N (rcol c wr.heap.size 2) y (ks+1) kw (w3.setCell ⟨N,1,none⟩ v') vp v' vw vh up (fun j=>if j=ks then u' else us j) uw uh:=by
 have hN:=h.lt;have hkeep:∀ k,k<wr.heap.size->c k≠2->w3.heap[k]? = wr.heap[k]?:=fun k hk hc=>(g.block k (zL hk b1.size) fun e=>hc (h.o.s.rb k e.symm).2).trans (b1.block k hk);have hset:∀ k,k≠N->(w3.setCell ⟨N,1,none⟩ v').heap[k]? = w3.heap[k]?:=fun k hk=>zN _ _ _ _ hk;have hcN:rcol c wr.heap.size 2 N=0:=(qfv hN).trans h.cN;have hBN:w3.heap[N]? = wr.heap[N]?:=hkeep N hN (by rw [h.cN];decide)
 have hkk:∀ i,i≠2->i≠0->∀ k,Cl B (rcol c wr.heap.size 2) i k->k<wr.heap.size->(w3.setCell ⟨N,1,none⟩ v').heap[k]? = wr.heap[k]?:=fun i h2 h0 k hk hl=>by
  have e:c k=i:=(qfv hl).symm.trans hk.2;exact (hset k fun en=>h0 (by rw [<- e,en,h.cN])).trans (hkeep k hl (by rw [e];exact h2))
 have hP:∀ i k,Cl B c i k->k<wr.heap.size->Cl B (rcol c wr.heap.size 2) i k:=fun i k hk hl=>hk.old hl;have hP':∀ k,wr.heap.size<=k->k<w3.heap.size->Cl B (rcol c wr.heap.size 2) 2 k:=fun k hk _=>⟨zO h.bN (zO (Nat.le_of_lt hN) hk),qej hk⟩
 obtain ⟨x0,x1,x2,x3⟩:=h.bx;have hc:∀ j,w3.cell? ⟨N,j,none⟩=wr.cell? ⟨N,j,none⟩:=fun j=>zH hBN
 have hnew:∀ k,Cl B (rcol c wr.heap.size 2) 2 k->k<w3.heap.size->(w3.setCell ⟨N,1,none⟩ v').heap[k]? = w3.heap[k]?:=fun k hk _=>hset k fun e=>by
  have e2:=hk.2;rw [e,hcN] at e2;cases e2
 refine ⟨⟨?_,?_,?_,?_⟩,fun j=>?_,hcN,h.bN,⟨?_,?_,?_,?_⟩⟩
 ·rw [World.cell?_setCell_other _ _ _ _ (by simp),hc];exact x0
 ·exact World.cell?_setCell_same _ _ _ ((hc 1).trans x1)
 ·rw [World.cell?_setCell_other _ _ _ _ (by simp),hc];exact x2
 ·rw [World.cell?_setCell_other _ _ _ _ (by simp),hc];exact x3
 ·rw [World.frozen?_setCell,zI hBN];exact h.fr j
 ·exact (h.o.p.mono (hP 1)).keep (hkk 1 (by decide) (by decide))
 ·exact (h.o.s.push b1 hu hv g hv' (hP 2) hP').keep hnew
 ·exact (h.o.t.mono (hP 3)).keep (hkk 3 (by decide) (by decide))
 ·exact (h.o.h.mono (hP 4)).keep (hkk 4 (by decide) (by decide))
theorem CpB.way (h:CpB B N c y ks kw wr vp vs vw vh up us uw uh) {w1 w3:World} {u' v':Value} (b1:Below wr.heap.size wr w1) (hu:w1.ownsRow wr.heap.size 74 2 u' (y.wL kw) (fT (y.wH kw) (y.wL kw))) (hne:u'≠.slice none 0 0) (hv:w3.ownsRow 0 72 1 v' (kw+1) ((List.range kw).map uw ++ [u'])) (g:w1.grownBy w3 vw.ownBlock) (hv':∀ j,v'.ownBlock=some j->vw.ownBlock=some j\/w1.heap.size<=j):
  CpB B N (rcol c wr.heap.size 3) y ks (kw+1) (w3.setCell ⟨N,2,none⟩ v') vp vs v' vh up us (fun j=>if j=kw then u' else uw j) uh:=by
 have hN:=h.lt;have hkeep:∀ k,k<wr.heap.size->c k≠3->w3.heap[k]? = wr.heap[k]?:=fun k hk hc=>(g.block k (zL hk b1.size) fun e=>hc (h.o.t.rb k e.symm).2).trans (b1.block k hk);have hset:∀ k,k≠N->(w3.setCell ⟨N,2,none⟩ v').heap[k]? = w3.heap[k]?:=fun k hk=>zN _ _ _ _ hk;have hcN:rcol c wr.heap.size 3 N=0:=(qfv hN).trans h.cN;have hBN:w3.heap[N]? = wr.heap[N]?:=hkeep N hN (by rw [h.cN];decide)
 have hkk:∀ i,i≠3->i≠0->∀ k,Cl B (rcol c wr.heap.size 3) i k->k<wr.heap.size->(w3.setCell ⟨N,2,none⟩ v').heap[k]? = wr.heap[k]?:=fun i h2 h0 k hk hl=>by
  have e:c k=i:=(qfv hl).symm.trans hk.2;exact (hset k fun en=>h0 (by rw [<- e,en,h.cN])).trans (hkeep k hl (by rw [e];exact h2))
 have hP:∀ i k,Cl B c i k->k<wr.heap.size->Cl B (rcol c wr.heap.size 3) i k:=fun i k hk hl=>hk.old hl;have hP':∀ k,wr.heap.size<=k->k<w3.heap.size->Cl B (rcol c wr.heap.size 3) 3 k:=fun k hk _=>⟨zO h.bN (zO (Nat.le_of_lt hN) hk),qej hk⟩
 obtain ⟨x0,x1,x2,x3⟩:=h.bx;have hc:∀ j,w3.cell? ⟨N,j,none⟩=wr.cell? ⟨N,j,none⟩:=fun j=>zH hBN
 have hnew:∀ k,Cl B (rcol c wr.heap.size 3) 3 k->k<w3.heap.size->(w3.setCell ⟨N,2,none⟩ v').heap[k]? = w3.heap[k]?:=fun k hk _=>hset k fun e=>by
  have e2:=hk.2;rw [e,hcN] at e2;cases e2
 refine ⟨⟨?_,?_,?_,?_⟩,fun j=>?_,hcN,h.bN,⟨?_,?_,?_,?_⟩⟩
 ·rw [World.cell?_setCell_other _ _ _ _ (by simp),hc];exact x0
 ·rw [World.cell?_setCell_other _ _ _ _ (by simp),hc];exact x1
 ·exact World.cell?_setCell_same _ _ _ ((hc 2).trans x2)
 ·rw [World.cell?_setCell_other _ _ _ _ (by simp),hc];exact x3
 ·rw [World.frozen?_setCell,zI hBN];exact h.fr j
 ·exact (h.o.p.mono (hP 1)).keep (hkk 1 (by decide) (by decide))
 ·exact (h.o.s.mono (hP 2)).keep (hkk 2 (by decide) (by decide))
 ·exact (h.o.t.push b1 hu (fun _=>hne) hv g hv' (hP 3) hP').keep hnew
 ·exact (h.o.h.mono (hP 4)).keep (hkk 4 (by decide) (by decide))
end
theorem CpB.start {B l5 l6 N:Nat} {w5 w6 wf:World} {x:SysIn} {vp vh:Value} {up uh:Nat->Value} (o5:LI true w5 (fun k=>l5<=k/\k<w5.heap.size) vp x.pn up x.pL x.pH) (o6:LE true w6 (fun k=>l6<=k/\k<w6.heap.size) vh x.hn uh x.hL x.hH) (hb:Below w5.heap.size w5 w6) (h5:B<=l5) (h6:w5.heap.size<=l6) (h56:B<=w5.heap.size) (h55:l5<=w5.heap.size)
  (hN:N<l5\/(w5.heap.size<=N/\N<l6)\/w6.heap.size<=N) (hBN:B<=N) (hf:∀ k,k<w6.heap.size->k≠N->wf.heap[k]? = w6.heap[k]?) (hbx:BoxC wf N vp (.slice none 0 0) (.slice none 0 0) vh) (hfr:∀ j,wf.frozen? ⟨N,j,none⟩=false):
  ∃ c vp vh up uh,CpB B N c x.y 0 0 wf vp (.slice none 0 0) (.slice none 0 0) vh up (fun _=>.slice none 0 0) (fun _=>.slice none 0 0) uh:=by
 have hs:=hb.size
 have hc0:∀ k,Cl B (fun k=>if k=N then 0 else if k<w5.heap.size then 1 else 4) 1 k\/Cl B (fun k=>if k=N then 0 else if k<w5.heap.size then 1 else 4) 4 k->k≠N:=fun k hk e=>by
  rcases hk with hk | hk
  ·have e2:(if k=N then 0 else if k<w5.heap.size then 1 else 4)=1:=hk.2
   rw [if_pos e] at e2;cases e2
  ·have e2:(if k=N then 0 else if k<w5.heap.size then 1 else 4)=4:=hk.2
   rw [if_pos e] at e2;cases e2
 have g5 : LI true w5 (Cl B (fun k => if k = N then 0 else if k < w5.heap.size then 1 else 4) 1) vp x.pn up x.pL x.pH := o5.mono fun k hk _ => ⟨by omega, by
  show (if k=N then 0 else if k<w5.heap.size then 1 else 4)=1
  rw [if_neg (by omega),if_pos hk.2]⟩
 have g6 : LE true w6 (Cl B (fun k => if k = N then 0 else if k < w5.heap.size then 1 else 4) 4) vh x.hn uh x.hL x.hH := o6.mono fun k hk _ => ⟨by omega, by
  show (if k=N then 0 else if k<w5.heap.size then 1 else 4)=4
  rw [if_neg (by omega),if_neg (by omega)]⟩
 exact ⟨fun k=>if k=N then 0 else if k<w5.heap.size then 1 else 4,vp,vh,up,uh,hbx,hfr,if_pos rfl,hBN,⟨g5.keep fun k hk hl=>(hf k (by omega) (hc0 k (.inl hk))).trans (hb.block k hl),LS.nil _ _ _ _,LL.nil _ _ _ _ _ _ _ _,g6.keep fun k hk hl=>hf k hl (hc0 k (.inr hk))⟩⟩
theorem qs9 (x:SysIn) (w:World) (hG:SysG w x) (hL:x.Len):
  Calls Tryz.prog 44 #[x.v] w fun e w'=>∃ v,e=.returned v/\qbf true w' w.heap.size x.y v/\Below w.heap.size w w':=by
 have HG:Hid (SysG w x):=hG;have HL:Hid x.Len:=hL;have hsn':(x.sn:Int)<=1048576:=by have:=hL.s.1;omega
 have hwn':(x.wn:Int)<=1048576:=by have:=hL.w.1;omega
 have BW:Hid (Below w.heap.size w ((w.alloc (oQ4 x.pa x.pn x.pc x.sa x.sn x.sc x.wa x.wn x.wc x.ha x.hn x.hc)).alloc (zQ2))):=(zP _ _).trans ((zP _ _).mono (by simp));have NB:Hid (BoxC ((w.alloc (oQ4 x.pa x.pn x.pc x.sa x.sn x.sc x.wa x.wn x.wc x.ha x.hn x.hc)).alloc (zQ2)) w.heap.size (.slice x.pa x.pn x.pc) (.slice x.sa x.sn x.sc) (.slice x.wa x.wn x.wc) (.slice x.ha x.hn x.hc)):=(BoxC.new w _ _ _ _ _).below (zP _ _);have RB:Hid (BoxC ((w.alloc (oQ4 x.pa x.pn x.pc x.sa x.sn x.sc x.wa x.wn x.wc x.ha x.hn x.hc)).alloc (zQ2)) (w.heap.size+1) (.slice none 0 0) (.slice none 0 0) (.slice none 0 0) (.slice none 0 0)/\∀ j,((w.alloc (oQ4 x.pa x.pn x.pc x.sa x.sn x.sc x.wa x.wn x.wc x.ha x.hn x.hc)).alloc (zQ2)).frozen? ⟨w.heap.size+1,j,none⟩=false):=⟨⟨zV _ _ _ 0 (by simp),zV _ _ _ 1 (by simp),zV _ _ _ 2 (by simp),zV _ _ _ 3 (by simp)⟩,fun j=>yA _ _ _ _ (by simp)⟩
 have hz:((w.alloc (oQ4 x.pa x.pn x.pc x.sa x.sn x.sc x.wa x.wn x.wc x.ha x.hn x.hc)).alloc (zQ2)).heap.size=w.heap.size+2:=by simp
 clear hG hL
 go_enter Tryz.func44,Tryz.ntmps44
 go_wp2_with fail
 generalize (w.alloc (oQ4 x.pa x.pn x.pc x.sa x.sn x.sc x.wa x.wn x.wc x.ha x.hn x.hc)).alloc (zQ2)=W2 at *;obtain ⟨b0,b1,b2,b3⟩:=NB.out;have d1:W2.heap.size≠w.heap.size:=by omega
 have hl0:w.heap.size<W2.heap.size:=by omega
 have hl1:w.heap.size+1<W2.heap.size:=by omega
 have hl2:Hid (w.heap.size<=W2.heap.size):=by show w.heap.size<=W2.heap.size;omega
 clear hz
 have HP : Hid (∀ wx, Below W2.heap.size W2 wx → (RowS wx x.pa x.pn fun i => .slice (x.pA i) (x.pL i) (x.pC i)) ∧ ∀ i, i < x.pn → Src wx (x.pA i) (fI (x.pH i) (x.pL i))) := fun wx hb => ⟨(HG.out.below (BW.out.trans (hb.mono BW.out.size))).p, fun i hi => by
  obtain ⟨b,e,hlt,hI⟩:=(HG.out.below (BW.out.trans (hb.mono BW.out.size))).pi i hi;rw [e]
  exact srcI hlt hI⟩
 have HH:Hid (∀ wx,Below W2.heap.size W2 wx->(RowS wx x.ha x.hn fun i=>.slice (x.hA i) (x.hL i) (x.hC i))/\∀ i,i<x.hn->Src wx (x.hA i) (fE (x.hH i) (x.hL i))):=fun wx hb=>⟨(HG.out.below (BW.out.trans (hb.mono BW.out.size))).h,fun i hi=>srcE ((HG.out.below (BW.out.trans (hb.mono BW.out.size))).hi i hi)⟩
 go_cut [3] from 6 to 12 (fun s wx=>∃ N:Nat,s=.pointer (some ⟨N,0,none⟩)/\Hid ((∃ c vp vh up uh,CpB W2.heap.size N c x.y 0 0 wx vp (.slice none 0 0) (.slice none 0 0) vh up (fun _=>(.slice none 0 0)) (fun _=>(.slice none 0 0)) uh)/\Below W2.heap.size W2 wx))
 case first=>
  refine qa7 (fun w'=>w'.cell? ⟨w.heap.size,0,none⟩=some (.slice x.pa x.pn x.pc)/\w'.cell? ⟨w.heap.size,3,none⟩=some (.slice x.ha x.hn x.hc)) (fun i=>i == 8) (by kernel_rfl) ?_;have hHeld:=And.intro b0 b3;refine qc8 [0,1,3,4] ?_;iterate 4 (refine qeu rfl hHeld ?_)
  refine qcl ?_;refine qv0 2 7 rfl rfl (by kernel_rfl) (fun K hK=>?_) (fun K hK=>?_)
  ·refine qav rfl 106 _ _ rfl #[.slice x.pa x.pn x.pc] (by simp [Act.eval]) (zZ Tryz.func106 (by kernel_rfl) rfl) (qnm x.pa x.pn x.pc x.pA x.pL x.pC x.pH (W2.drew) HL.out.p.1 HL.out.p.2 (HP.out _ (Below.refl _ _).drew).1 (HP.out _ (Below.refl _ _).drew).2) ?_
   rintro e w5 ⟨v5,u5,rfl,o5,b5⟩;obtain ⟨a5,c5,rfl⟩:=zT o5.row;refine ⟨_,rfl,?_⟩;have q5:Below W2.heap.size W2 w5:=qai (Below.refl _ _).drew b5 (by simp);have y0:=(q5.cell (p:=⟨w.heap.size,0,none⟩) hl0).trans b0;have y3:=(q5.cell (p:=⟨w.heap.size,3,none⟩) hl0).trans b3;have z5:=q5.size;refine hK.out _ _ (fun _=>⟨y0,y3⟩) ?_;have hHeld:=And.intro y0 y3;clear hK K
   (try simp only [Act.put,zD,zE,zF])
   refine qv0 5 7 rfl rfl (by kernel_rfl) (fun K hK=>?_) (fun K hK=>?_)
   ·refine qav rfl 107 _ _ rfl #[.slice x.ha x.hn x.hc] (by simp [Act.eval]) (zZ Tryz.func107 (by kernel_rfl) rfl) (qdw x.ha x.hn x.hc x.hA x.hL x.hC x.hH (w5) HL.out.h.1 HL.out.h.2 (HH.out _ (q5.trans ((Below.refl w5.heap.size w5).mono q5.size))).1 (HH.out _ (q5.trans ((Below.refl w5.heap.size w5).mono q5.size))).2) ?_
    rintro e w6 ⟨v6,u6,rfl,o6,b6⟩;obtain ⟨a6,c6,rfl⟩:=zT o6.row;refine ⟨_,rfl,?_⟩;have p6:Below w5.heap.size w5 w6:=qai (Below.refl w5.heap.size w5) b6 (by simp);have q6:Below W2.heap.size W2 w6:=q5.trans (p6.mono q5.size);have x0:=(q6.cell (p:=⟨w.heap.size,0,none⟩) hl0).trans b0;have x3:=(q6.cell (p:=⟨w.heap.size,3,none⟩) hl0).trans b3;have z6:=p6.size;refine hK.out _ _ (fun _=>⟨x0,x3⟩) ?_;have hHeld:=And.intro x0 x3;clear hK K
    (try simp only [Act.put,zD,zE,zF])
    refine qi2 6 rfl hHeld ?_;refine qar 7 rfl (by kernel_rfl) (fun K hK=>?_);go_simp;have t0:(w6.alloc (zQ2)).cell? ⟨w.heap.size,0,none⟩=some (.slice x.pa x.pn x.pc):=((zP w6 _).cell (p:=⟨w.heap.size,0,none⟩) (zL hl0 q6.size)).trans x0;have t3:(w6.alloc (zQ2)).cell? ⟨w.heap.size,3,none⟩=some (.slice x.ha x.hn x.hc):=((zP w6 _).cell (p:=⟨w.heap.size,3,none⟩) (zL hl0 q6.size)).trans x3;refine hK.out _ _ (fun _=>⟨t0,t3⟩) ?_;clear hK K
    (try simp only [Act.put,zD,zE,zF])
    refine qar 8 rfl (by kernel_rfl) (fun K hK=>?_);go_simp;refine hK.out _ _ (fun h=>?_) ?_
    ·exact absurd h (by decide)
    clear hK K
    (try simp only [Act.put])
    refine qbx (by kernel_rfl) ?_ _;go_wp2_with fail
    go_meet
    case rel=>
     exact ⟨w6.heap.size,by with_reducible rfl,CpB.start (l5:=W2.heap.size) (by simpa using o5) o6 p6 (by omega) (by omega) (by omega) (by omega) (by omega) (by omega) (fun k hk _=>(zP w6 _).block k hk) (BoxC.new _ _ _ _ _ _) (fun j=>yA _ _ _ _ rfl),q6.trans ((zP _ _).mono q6.size)⟩
   ·go_simp
    have t0:(w5.alloc (zQ2)).cell? ⟨w.heap.size,0,none⟩=some (.slice x.pa x.pn x.pc):=((zP w5 _).cell (p:=⟨w.heap.size,0,none⟩) (zL hl0 q5.size)).trans y0;have t3:(w5.alloc (zQ2)).cell? ⟨w.heap.size,3,none⟩=some (.slice x.ha x.hn x.hc):=((zP w5 _).cell (p:=⟨w.heap.size,3,none⟩) (zL hl0 q5.size)).trans y3;refine hK.out _ _ (fun _=>⟨t0,t3⟩) ?_;clear hK K
    (try simp only [Act.put,zD,zE,zF])
    refine qar 5 rfl (by kernel_rfl) (fun K hK=>?_);refine qav rfl 107 _ _ rfl #[.slice x.ha x.hn x.hc] (by simp [Act.eval]) (zZ Tryz.func107 (by kernel_rfl) rfl) (qdw x.ha x.hn x.hc x.hA x.hL x.hC x.hH (w5.alloc (zQ2)) HL.out.h.1 HL.out.h.2 (HH.out _ (q5.trans ((zP w5 (zQ2)).mono q5.size))).1 (HH.out _ (q5.trans ((zP w5 (zQ2)).mono q5.size))).2) ?_;rintro e w6 ⟨v6,u6,rfl,o6,b6⟩;obtain ⟨a6,c6,rfl⟩:=zT o6.row;refine ⟨_,rfl,?_⟩;have p6:Below w5.heap.size w5 w6:=qai (zP w5 (zQ2)) b6 (by simp);have q6:Below W2.heap.size W2 w6:=q5.trans (p6.mono q5.size);have x0:=(q6.cell (p:=⟨w.heap.size,0,none⟩) hl0).trans b0;have x3:=(q6.cell (p:=⟨w.heap.size,3,none⟩) hl0).trans b3;have z6:=p6.size;refine hK.out _ _ (fun _=>⟨x0,x3⟩) ?_;have hHeld:=And.intro x0 x3;clear hK K
    (try simp only [Act.put,zD,zE,zF])
    have bx:=(BoxC.new w5 (.slice none 0 0) (.slice none 0 0) (.slice none 0 0) (.slice none 0 0) 41).below b6;obtain ⟨g0,g1,g2,g3⟩:=bx;have gf:∀ j,w6.frozen? ⟨w5.heap.size,j,none⟩=false:=fun j=>((qap b6).2 _ _ (by simp)).trans (yA _ _ _ _ rfl);refine qi2 6 rfl hHeld ?_;refine qar 8 rfl (by kernel_rfl) (fun K hK=>?_);go_simp;refine hK.out _ _ (fun h=>?_) ?_
    ·exact absurd h (by decide)
    clear hK K
    (try simp only [Act.put])
    refine qbx (by kernel_rfl) ?_ _;go_wp2_with fail
    go_meet
    case rel=>
     exact ⟨w5.heap.size,by with_reducible rfl,CpB.start (l5:=W2.heap.size) (l6:=w5.heap.size+1) (by simpa using o5) (by simpa using o6) p6 (by omega) (by omega) (by omega) (by omega) (by omega) (by omega) (fun k hk hne=>by repeat (rw [zN _ _ _ _ hne])) (BoxC.set4 ⟨g0,g1,g2,g3⟩ _ _ _ _) (fun j=>by simp only [World.frozen?_setCell];exact gf j),(((q6.setCell q5.size _).setCell q5.size _).setCell q5.size _).setCell q5.size _⟩
  ·go_simp
   have t0:(W2.drew.alloc (zQ2)).cell? ⟨w.heap.size,0,none⟩=some (.slice x.pa x.pn x.pc):=((zP W2.drew _).cell (p:=⟨w.heap.size,0,none⟩) hl0).trans b0;have t3:(W2.drew.alloc (zQ2)).cell? ⟨w.heap.size,3,none⟩=some (.slice x.ha x.hn x.hc):=((zP W2.drew _).cell (p:=⟨w.heap.size,3,none⟩) hl0).trans b3;refine hK.out _ _ (fun _=>⟨t0,t3⟩) ?_;clear hK K
   (try simp only [Act.put,zD,zE,zF])
   refine qar 2 rfl (by kernel_rfl) (fun K hK=>?_);refine qav rfl 106 _ _ rfl #[.slice x.pa x.pn x.pc] (by simp [Act.eval]) (zZ Tryz.func106 (by kernel_rfl) rfl) (qnm x.pa x.pn x.pc x.pA x.pL x.pC x.pH (W2.drew.alloc (zQ2)) HL.out.p.1 HL.out.p.2 (HP.out _ ((Below.refl W2.heap.size W2).drew.trans (zP W2.drew (zQ2)))).1 (HP.out _ ((Below.refl W2.heap.size W2).drew.trans (zP W2.drew (zQ2)))).2) ?_;rintro e w5 ⟨v5,u5,rfl,o5,b5⟩;obtain ⟨a5,c5,rfl⟩:=zT o5.row;refine ⟨_,rfl,?_⟩;have q5:Below W2.heap.size W2 w5:=qai ((Below.refl W2.heap.size W2).drew.trans (zP W2.drew (zQ2))) b5 (by simp);have y0:=(q5.cell (p:=⟨w.heap.size,0,none⟩) hl0).trans b0;have y3:=(q5.cell (p:=⟨w.heap.size,3,none⟩) hl0).trans b3;have z5:=q5.size;refine hK.out _ _ (fun _=>⟨y0,y3⟩) ?_;have hHeld:=And.intro y0 y3;clear hK K
   (try simp only [Act.put,zD,zE,zF])
   have zc:W2.heap.size+1<=w5.heap.size:=by have:=b5.size;simpa using this
   refine qar 5 rfl (by kernel_rfl) (fun K hK=>?_);refine qav rfl 107 _ _ rfl #[.slice x.ha x.hn x.hc] (by simp [Act.eval]) (zZ Tryz.func107 (by kernel_rfl) rfl) (qdw x.ha x.hn x.hc x.hA x.hL x.hC x.hH (w5) HL.out.h.1 HL.out.h.2 (HH.out _ (q5.trans ((Below.refl w5.heap.size w5).mono q5.size))).1 (HH.out _ (q5.trans ((Below.refl w5.heap.size w5).mono q5.size))).2) ?_;rintro e w6 ⟨v6,u6,rfl,o6,b6⟩;obtain ⟨a6,c6,rfl⟩:=zT o6.row;refine ⟨_,rfl,?_⟩;have p6:Below w5.heap.size w5 w6:=qai (Below.refl w5.heap.size w5) b6 (by simp);have q6:Below W2.heap.size W2 w6:=q5.trans (p6.mono q5.size);have x0:=(q6.cell (p:=⟨w.heap.size,0,none⟩) hl0).trans b0;have x3:=(q6.cell (p:=⟨w.heap.size,3,none⟩) hl0).trans b3;have z6:=p6.size;refine hK.out _ _ (fun _=>⟨x0,x3⟩) ?_;have hHeld:=And.intro x0 x3;clear hK K
   (try simp only [Act.put,zD,zE,zF])
   have bx:BoxC w6 W2.heap.size (.slice none 0 0) (.slice none 0 0) (.slice none 0 0) (.slice none 0 0):=((BoxC.new W2.drew (.slice none 0 0) (.slice none 0 0) (.slice none 0 0) (.slice none 0 0) 41).below b5).below b6;obtain ⟨g0,g1,g2,g3⟩:=bx;have gf:∀ j,w6.frozen? ⟨W2.heap.size,j,none⟩=false:=fun j=>((qap b6).2 _ _ (by omega)).trans (((qap b5).2 _ _ (by simp)).trans (yA _ _ _ _ rfl));refine qi2 6 rfl hHeld ?_;refine qar 8 rfl (by kernel_rfl) (fun K hK=>?_);go_simp;refine hK.out _ _ (fun h=>?_) ?_
   ·exact absurd h (by decide)
   clear hK K
   (try simp only [Act.put])
   refine qbx (by kernel_rfl) ?_ _;go_wp2_with fail
   go_meet
   case rel=>
    exact ⟨W2.heap.size,by with_reducible rfl,CpB.start (l5:=W2.heap.size+1) (by simpa using o5) o6 p6 (by omega) (by omega) (by omega) (by omega) (by omega) (by omega) (fun k hk hne=>by repeat (rw [zN _ _ _ _ hne])) (BoxC.set4 ⟨g0,g1,g2,g3⟩ _ _ _ _) (fun j=>by simp only [World.frozen?_setCell];exact gf j),(((q6.setCell (Nat.le_refl _) _).setCell (Nat.le_refl _) _).setCell (Nat.le_refl _) _).setCell (Nat.le_refl _) _⟩
 case rest=>
  obtain ⟨N,rfl,HC⟩:=hcut;clear b0 b1 b2 b3 HP HH;go_wp2_with fail
  go_loopw [4] (fun i wr=>∃ k:Nat,k<=x.sn/\i=.int .i64 k/\Hid ((∃ c vp vs vh up us uh,CpB W2.heap.size N c x.y k 0 wr vp vs (.slice none 0 0) vh up us (fun _=>(.slice none 0 0)) uh)/\Below W2.heap.size W2 wr)) (fun i _=>x.sn - (intOf i).toNat)
  case atStart=>
   obtain ⟨⟨c,vp,vh,up,uh,cp⟩,bz⟩:=HC.out;exact ⟨0,Nat.zero_le _,rfl,⟨c,vp,_,vh,up,_,uh,cp⟩,bz⟩
  case round=>
   obtain ⟨k,hk,rfl,HZ⟩:=hrel;clear HC;by_cases hlt:k<x.sn
   ·have hlt':(k:Int)<(x.sn:Int):=by omega
    obtain ⟨⟨c,vp,vs,vh,up,us,uh,cp⟩,bz⟩:=HZ.out;obtain ⟨sa',sc',rfl⟩:=zT cp.o.s.row;obtain ⟨x0,x1,x2,x3⟩:=cp.bx;have xf:=cp.fr;have hN:=cp.lt;obtain ⟨b0,b1,b2,b3⟩:=NB.out.below bz;obtain ⟨bs,os,es,s0,s1,s2,s3⟩:=(HG.out.below (BW.out.trans (bz.mono BW.out.size))).s.at hlt
    have hbs:bs<w.heap.size:=by
     obtain ⟨bs',os',es',s0',-⟩:=HG.out.s.at hlt;rw [es] at es';cases es';exact zJ w _ s0'
    have hls:=(HG.out.below (BW.out.trans (bz.mono BW.out.size))).s.lst k hlt;have HLk:=HL.out.s.2 k hlt;rw [es] at b1;have CP:Hid (CpB W2.heap.size N c x.y k 0 wr vp (.slice sa' k sc') (.slice none 0 0) vh up us (fun _=>(.slice none 0 0)) uh):=cp;have LSt:Hid (Sl wr (x.sQ k).ra (x.sQ k).rs/\Sl wr (x.sQ k).oa (x.sQ k).os):=hls;have BZ:Hid (Below W2.heap.size W2 wr):=bz;have hbw:bs<wr.heap.size:=by have:=bz.size;omega
    have hb0w:w.heap.size<wr.heap.size:=by have:=bz.size;omega
    have hsaN : ∀ j, (Value.slice sa' k sc').ownBlock = some j → W2.heap.size ≤ j ∧ j ≠ N := fun j hj => ⟨(cp.o.s.rb j hj).1, fun e => by
     have h2:=(cp.o.s.rb j hj).2;rw [e,cp.cN] at h2
     cases h2⟩
    have HSA:Hid (∀ j,(Value.slice sa' k sc').ownBlock=some j->W2.heap.size<=j/\j≠N):=hsaN;have HE:Hid (x.sa=some ⟨bs,os,none⟩):=es;clear cp bz hls HZ hsaN es;go_wp2_with fail
    refine qa7 (fun w'=>w'.cell? ⟨N,1,none⟩=some (.slice sa' k sc')/\w'.cell? ⟨w.heap.size,1,none⟩=some (.slice (some ⟨bs,os,none⟩) x.sn x.sc)/\w'.cell? ⟨bs,os+k*4,none⟩=some (.int .i64 (x.sQ k).p)/\w'.cell? ⟨bs,os+k*4+1,none⟩=some (.slice (x.sQ k).ra (x.sQ k).rs.length (x.sQ k).rc)/\w'.cell? ⟨bs,os+k*4+2,none⟩=some (.slice (x.sQ k).oa (x.sQ k).os.length (x.sQ k).oc)/\w'.cell? ⟨bs,os+k*4+3,none⟩=some (.int .i64 (x.sQ k).c)) (fun i=>i == 11) (by kernel_rfl) ?_;have hHeld:=And.intro x1 (And.intro b1 (And.intro s0 (And.intro s1 (And.intro s2 s3))));refine qc8 [0,1,2,3,4,5,6] ?_;iterate 7 (refine qeu rfl hHeld ?_)
    refine qcl ?_;refine qar 7 rfl (by kernel_rfl) (fun K hK=>?_);refine qav rfl 108 _ _ rfl #[stV (x.sQ k).p (x.sQ k).ra (x.sQ k).rs.length (x.sQ k).rc (x.sQ k).oa (x.sQ k).os.length (x.sQ k).oc (x.sQ k).c] (by simp [Act.eval]) (zZ Tryz.func108 (by kernel_rfl) rfl) (qbw _ _ _ _ _ _ (x.sQ k).rs (x.sQ k).os wr.drew HLk.1 HLk.2 LSt.1 LSt.2) ?_;rintro e w1 ⟨v1,rfl,o1,d1'⟩;refine ⟨_,rfl,?_⟩;obtain ⟨ra1,rc1,oa1,oc1,rfl,-,-⟩:=o1.read;have q1:Below wr.heap.size wr w1:=(Below.refl wr.heap.size wr).drew.trans d1';have O1:Hid (qag w1 wr.heap.size (stV (x.sQ k).p ra1 (x.sQ k).rs.length rc1 oa1 (x.sQ k).os.length oc1 (x.sQ k).c) (x.sQ k).p (x.sQ k).rs (x.sQ k).os (x.sQ k).c):=o1;have hc1:∀ b o,b<wr.heap.size->w1.cell? ⟨b,o,none⟩=wr.cell? ⟨b,o,none⟩:=fun b o h=>(qap q1).1 b o h;have hHeld1:=And.intro ((hc1 _ _ hN).trans x1) (And.intro ((hc1 _ _ hb0w).trans b1) (And.intro ((hc1 _ _ hbw).trans s0) (And.intro ((hc1 _ _ hbw).trans s1) (And.intro ((hc1 _ _ hbw).trans s2) ((hc1 _ _ hbw).trans s3)))));have Q1:Hid (Below wr.heap.size wr w1):=q1;refine hK.out _ _ (fun _=>hHeld1) ?_;clear hHeld o1 d1' q1 hc1;clear hK K
    (try simp only [Act.put,zD,zE,zF])
    refine qar 8 rfl (by kernel_rfl) (fun K hK=>?_);go_simp;have ba:=zP w1 (oQ1 (x.sQ k).p ra1 (x.sQ k).rs.length rc1 oa1 (x.sQ k).os.length oc1 (x.sQ k).c);have hca:∀ b o,b<wr.heap.size->(w1.alloc (oQ1 (x.sQ k).p ra1 (x.sQ k).rs.length rc1 oa1 (x.sQ k).os.length oc1 (x.sQ k).c)).cell? ⟨b,o,none⟩=w1.cell? ⟨b,o,none⟩:=fun b o h=>(qap ba).1 b o (zL h Q1.out.size);obtain ⟨e0,e1,e2,e3,e4,e5⟩:=hHeld1;refine hK.out _ _ (fun _=>⟨(hca _ _ hN).trans e0,(hca _ _ hb0w).trans e1,(hca _ _ hbw).trans e2,(hca _ _ hbw).trans e3,(hca _ _ hbw).trans e4,(hca _ _ hbw).trans e5⟩) ?_;clear hca ba;clear hK K
    (try simp only [Act.put,zD,zE,zF])
    refine qar 9 rfl (by kernel_rfl) (fun K hK=>?_);refine qb4 kndS w1 rfl rfl _ _ rfl 0 (.slice sa' k sc') k _ rfl (CP.out.o.s.below Q1.out).row #[.int .i64 (x.sQ k).p,.slice ra1 (x.sQ k).rs.length rc1,.slice oa1 (x.sQ k).os.length oc1,.int .i64 (x.sQ k).c] rfl rfl (by intro u hu;simp at hu;rcases hu with rfl | rfl | rfl | rfl <;> rfl) (by omega) (Nat.zero_le _) ?_;intro v3 w3 o3 g3 q3 n3;obtain ⟨a3,c3,rfl⟩:=zT o3
    have hk3:∀ b,b<wr.heap.size->(b<W2.heap.size\/b=N)->w3.heap[b]? = w1.heap[b]?:=fun b h1 h2=>g3.block b (zL h1 Q1.out.size) fun e=>by
     have:=HSA.out b e.symm;omega
    have hc3:∀ b o,b<wr.heap.size->(b<W2.heap.size\/b=N)->w3.cell? ⟨b,o,none⟩=w1.cell? ⟨b,o,none⟩:=fun b o h1 h2=>zH (hk3 b h1 h2);have hHeld:=And.intro ((hc3 _ _ hN (.inr rfl)).trans e0) (And.intro ((hc3 _ _ hb0w (.inl hl0)).trans e1) (And.intro ((hc3 _ _ hbw (.inl (by omega))).trans e2) (And.intro ((hc3 _ _ hbw (.inl (by omega))).trans e3) (And.intro ((hc3 _ _ hbw (.inl (by omega))).trans e4) ((hc3 _ _ hbw (.inl (by omega))).trans e5)))));have hfN:∀ j,w3.frozen? ⟨N,j,none⟩=false:=fun j=>(zI (hk3 N hN (.inr rfl))).trans (((qap Q1.out).2 N j hN).trans (xf j));have CN:Hid (CpB W2.heap.size N (rcol c wr.heap.size 2) x.y (k+1) 0 (w3.setCell ⟨N,1,none⟩ (.slice a3 (k+1) c3)) vp (.slice a3 (k+1) c3) (.slice none 0 0) vh up (fun j=>if j=k then stV (x.sQ k).p ra1 (x.sQ k).rs.length rc1 oa1 (x.sQ k).os.length oc1 (x.sQ k).c else us j) (fun _=>(.slice none 0 0)) uh):=CP.out.state Q1.out O1.out o3 g3 q3;have BN:Hid (Below W2.heap.size W2 (w3.setCell ⟨N,1,none⟩ (.slice a3 (k+1) c3))):=(Below.grown (BZ.out.trans (Q1.out.mono BZ.out.size)) g3 (zO BZ.out.size Q1.out.size) (fun j hj=>(HSA.out j hj).1)).setCell CP.out.bN _;refine hK.out _ _ (fun _=>hHeld) ?_;clear o3 g3 q3 n3 hk3 hc3;clear hK K
    (try simp only [Act.put,zD,zE,zF])
    refine qi2 10 rfl hHeld ?_;refine qar 11 rfl (by kernel_rfl) (fun K hK=>?_);have hcN:=hHeld.1;have hfN1:=hfN 1;go_simp;refine hK.out _ _ (fun h=>?_) ?_
    ·exact absurd h (by decide)
    clear hK K
    (try simp only [Act.put])
    refine qbx (by kernel_rfl) ?_ _;go_wp2;go_roundw
    case rel=>exact ⟨k+1,by omega,by go_num,⟨_,_,_,_,_,_,_,CN.out⟩,BN.out⟩
    case measure=>simp [intOf];omega
   ·have hkn:k=x.sn:=by omega
    subst hkn;have hsb:∀ wx,Below W2.heap.size W2 wx->wx.cell? ⟨w.heap.size,1,none⟩=some (.slice x.sa x.sn x.sc):=fun wx hb=>(NB.out.below hb).2.1;have b1:=hsb wr HZ.2;clear hsb;go_wp2_with fail
    clear b1
    go_loopw [5] (fun i wr=>∃ k:Nat,k<=x.wn/\i=.int .i64 k/\Hid ((∃ c vp vs vw vh up us uw uh,CpB W2.heap.size N c x.y x.sn k wr vp vs vw vh up us uw uh)/\Below W2.heap.size W2 wr)) (fun i _=>x.wn - (intOf i).toNat)
    case atStart=>
     obtain ⟨⟨c,vp,vs,vh,up,us,uh,cp⟩,bz⟩:=HZ.out;exact ⟨0,Nat.zero_le _,rfl,⟨c,vp,vs,_,vh,up,us,_,uh,cp⟩,bz⟩
    case round=>
     clear HZ hlt hk;obtain ⟨k,hk,rfl,HZ⟩:=hrel;by_cases hlt:k<x.wn
     ·have hlt':(k:Int)<(x.wn:Int):=by omega
      obtain ⟨⟨c,vp,vs,vw,vh,up,us,uw,uh,cp⟩,bz⟩:=HZ.out;obtain ⟨wa',wc',rfl⟩:=zT cp.o.t.row;obtain ⟨x0,x1,x2,x3⟩:=cp.bx;have xf:=cp.fr;have hN:=cp.lt;obtain ⟨b0,b1,b2,b3⟩:=NB.out.below bz;obtain ⟨bq,oq,es,s0⟩:=(HG.out.below (BW.out.trans (bz.mono BW.out.size))).w.at hlt
      have hbs:bq<w.heap.size:=by
       obtain ⟨bs',os',es',s0'⟩:=HG.out.w.at hlt;rw [es] at es';cases es';exact zJ w _ s0'
      have hsr:=srcT ((HG.out.below (BW.out.trans (bz.mono BW.out.size))).wi k hlt);have HLk:=HL.out.w.2 k hlt;rw [es] at b2;have CP:Hid (CpB W2.heap.size N c x.y x.sn k wr vp vs (.slice wa' k wc') vh up us uw uh):=cp;have LSt:Hid (Src wr (x.wA k) (fT (x.wH k) (x.wL k))):=hsr;have BZ:Hid (Below W2.heap.size W2 wr):=bz;have hbw:bq<wr.heap.size:=by have:=bz.size;omega
      have hb0w:w.heap.size<wr.heap.size:=by have:=bz.size;omega
      have HSA : Hid (∀ j, (Value.slice wa' k wc').ownBlock = some j → W2.heap.size ≤ j ∧ j ≠ N) := fun j hj => ⟨(cp.o.t.rb j hj).1, fun e => by
       have h2:=(cp.o.t.rb j hj).2;rw [e,cp.cN] at h2
       cases h2⟩
      clear cp bz hsr HZ es;go_wp2_with fail
      refine qa7 (fun w'=>w'.cell? ⟨N,2,none⟩=some (.slice wa' k wc')/\w'.cell? ⟨w.heap.size,2,none⟩=some (.slice (some ⟨bq,oq,none⟩) x.wn x.wc)/\w'.cell? ⟨bq,oq+k,none⟩=some (.slice (x.wA k) (x.wL k) (x.wC k))) (fun i=>i == 12) (by kernel_rfl) ?_;have hHeld:=And.intro x2 (And.intro b2 s0);refine qc8 [0,1,3,4,5,6,7] ?_;iterate 7 (refine qeu rfl hHeld ?_)
      refine qcl ?_;refine qar 2 rfl (by kernel_rfl) (fun K hK=>?_);go_simp;have ba:Below wr.drew.heap.size wr.drew (wr.drew.alloc (.cells #[] 74)):=zP wr.drew _;have hHeld1:(fun w'=>w'.cell? ⟨N,2,none⟩=some (.slice wa' k wc')/\w'.cell? ⟨w.heap.size,2,none⟩=some (.slice (some ⟨bq,oq,none⟩) x.wn x.wc)/\w'.cell? ⟨bq,oq+k,none⟩=some (.slice (x.wA k) (x.wL k) (x.wC k))) (wr.drew.alloc (.cells #[] 74)):=⟨((qap ba).1 _ _ hN).trans x2,((qap ba).1 _ _ hb0w).trans b2,((qap ba).1 _ _ hbw).trans s0⟩
      refine hK.out _ _ (fun _=>hHeld1) ?_;clear hHeld ba;clear hK K
      (try simp only [Act.put,zD,zE,zF])
      refine qar 8 rfl (by kernel_rfl) (fun K hK=>?_);refine qdh kndT wr.drew rfl rfl _ _ rfl (x.wA k) (x.wL k) (x.wC k) (fT (x.wH k) (x.wL k)) rfl rfl (quh _ _) LSt.out (qui _ _) (zO HLk (by omega)) ?_;intro v1 w1 o1 d1' n1;obtain ⟨a1,c1,rfl⟩:=zT o1;have q1:Below wr.heap.size wr w1:=(Below.refl wr.heap.size wr).drew.trans d1';have O1:Hid (w1.ownsRow wr.heap.size 74 2 (.slice a1 (x.wL k) c1) (x.wL k) (fT (x.wH k) (x.wL k))/\Value.slice a1 (x.wL k) c1≠.slice none 0 0):=⟨o1,n1⟩
      have hc1:∀ b o,b<wr.heap.size->w1.cell? ⟨b,o,none⟩=wr.cell? ⟨b,o,none⟩:=fun b o h=>(qap q1).1 b o h;have hHeld2:=And.intro ((hc1 _ _ hN).trans x2) (And.intro ((hc1 _ _ hb0w).trans b2) ((hc1 _ _ hbw).trans s0));have Q1:Hid (Below wr.heap.size wr w1):=q1;refine hK.out _ _ (fun _=>hHeld2) ?_;clear hHeld1 o1 d1' q1 hc1 n1;clear hK K
      (try simp only [Act.put,zD,zE,zF])
      refine qar 9 rfl (by kernel_rfl) (fun K hK=>?_);go_simp;have ba:=zP w1 (.cells #[.slice a1 (x.wL k) c1] 72);have hca:∀ b o,b<wr.heap.size->(w1.alloc (.cells #[.slice a1 (x.wL k) c1] 72)).cell? ⟨b,o,none⟩=w1.cell? ⟨b,o,none⟩:=fun b o h=>(qap ba).1 b o (zL h Q1.out.size);obtain ⟨e0,e1,e2⟩:=hHeld2;refine hK.out _ _ (fun _=>⟨(hca _ _ hN).trans e0,(hca _ _ hb0w).trans e1,(hca _ _ hbw).trans e2⟩) ?_;clear hca ba;clear hK K
      (try simp only [Act.put,zD,zE,zF])
      refine qar 10 rfl (by kernel_rfl) (fun K hK=>?_);refine qb4 qwl w1 rfl rfl _ _ rfl 0 (.slice wa' k wc') k _ rfl (CP.out.o.t.below Q1.out).row #[.slice a1 (x.wL k) c1] rfl rfl (by intro u hu;simp at hu;subst hu;rfl) (by omega) (Nat.zero_le _) ?_;intro v3 w3 o3 g3 q3 n3;obtain ⟨a3,c3,rfl⟩:=zT o3
      have hk3:∀ b,b<wr.heap.size->(b<W2.heap.size\/b=N)->w3.heap[b]? = w1.heap[b]?:=fun b h1 h2=>g3.block b (zL h1 Q1.out.size) fun e=>by
       have:=HSA.out b e.symm;omega
      have hc3:∀ b o,b<wr.heap.size->(b<W2.heap.size\/b=N)->w3.cell? ⟨b,o,none⟩=w1.cell? ⟨b,o,none⟩:=fun b o h1 h2=>zH (hk3 b h1 h2);have hHeld:=And.intro ((hc3 _ _ hN (.inr rfl)).trans e0) (And.intro ((hc3 _ _ hb0w (.inl hl0)).trans e1) ((hc3 _ _ hbw (.inl (by omega))).trans e2));have hfN:∀ j,w3.frozen? ⟨N,j,none⟩=false:=fun j=>(zI (hk3 N hN (.inr rfl))).trans (((qap Q1.out).2 N j hN).trans (xf j));have CN:Hid (CpB W2.heap.size N (rcol c wr.heap.size 3) x.y x.sn (k+1) (w3.setCell ⟨N,2,none⟩ (.slice a3 (k+1) c3)) vp vs (.slice a3 (k+1) c3) vh up us (fun j=>if j=k then .slice a1 (x.wL k) c1 else uw j) uh):=CP.out.way Q1.out O1.1 O1.2 o3 g3 q3;have BN:Hid (Below W2.heap.size W2 (w3.setCell ⟨N,2,none⟩ (.slice a3 (k+1) c3))):=(Below.grown (BZ.out.trans (Q1.out.mono BZ.out.size)) g3 (zO BZ.out.size Q1.out.size) (fun j hj=>(HSA.out j hj).1)).setCell CP.out.bN _;refine hK.out _ _ (fun _=>hHeld) ?_;clear o3 g3 q3 n3 hk3 hc3;clear hK K
      (try simp only [Act.put,zD,zE,zF])
      refine qi2 11 rfl hHeld ?_;refine qar 12 rfl (by kernel_rfl) (fun K hK=>?_);have hcN:=hHeld.1;have hfN1:=hfN 2;go_simp;refine hK.out _ _ (fun h=>?_) ?_
      ·exact absurd h (by decide)
      clear hK K
      (try simp only [Act.put])
      refine qbx (by kernel_rfl) ?_ _;go_wp2;go_roundw
      case rel=>exact ⟨k+1,by omega,by go_num,⟨_,_,_,_,_,_,_,_,_,CN.out⟩,BN.out⟩
      case measure=>simp [intOf];omega
     ·have hkn:k=x.wn:=by omega
      subst hkn;obtain ⟨⟨c,vp,vs,vw,vh,up,us,uw,uh,cp⟩,bz⟩:=HZ.out;obtain ⟨pa',pc',rfl⟩:=zT cp.o.p.row;obtain ⟨sa',sc',rfl⟩:=zT cp.o.s.row;obtain ⟨wa',wc',rfl⟩:=zT cp.o.t.row;obtain ⟨ha',hc',rfl⟩:=zT cp.o.h.row;obtain ⟨x0,x1,x2,x3⟩:=cp.bx;replace x0:wr.cell? ⟨N,0,none⟩=some (.slice pa' x.pn pc'):=x0;replace x3:wr.cell? ⟨N,3,none⟩=some (.slice ha' x.hn hc'):=x3;obtain ⟨r0,r1,r2,r3⟩:=RB.1.below bz;obtain ⟨-,-,b2,-⟩:=NB.out.below bz;have rf:∀ j,wr.frozen? ⟨w.heap.size+1,j,none⟩=false:=fun j=>((qap bz).2 _ _ hl1).trans (RB.2 j);have HO:Hid (OwnS true wr W2.heap.size c x.y (.slice pa' x.pn pc') (.slice sa' x.sn sc') (.slice wa' x.wn wc') (.slice ha' x.hn hc') up us uw uh):=cp.o;have BE:Hid (Below w.heap.size w wr):=BW.out.trans (bz.mono BW.out.size)
      have HO2:Hid (∀ W9:World,(∀ k,w.heap.size+1<k->W9.heap[k]? = wr.heap[k]?)->qbf true W9 w.heap.size x.y (sysV pa' x.pn pc' sa' x.sn sc' wa' x.wn wc' ha' x.hn hc')):=fun W9 hk9=>by
       have hm:∀ i k,Cl W2.heap.size c i k->k<wr.heap.size->Cl w.heap.size c i k:=fun i k h _=>⟨by have:=h.1;omega,h.2⟩
       have hq:∀ i k,Cl W2.heap.size c i k->k<wr.heap.size->W9.heap[k]? = wr.heap[k]?:=fun i k h _=>hk9 k (by have:=h.1;omega);have hm9:∀ i k,Cl W2.heap.size c i k->k<W9.heap.size->Cl w.heap.size c i k:=fun i k h _=>⟨by have:=h.1;omega,h.2⟩
       exact ⟨c,_,_,_,_,up,us,uw,uh,rfl,⟨(HO.out.p.keep (hq 1)).mono (hm9 1),(HO.out.s.keep (hq 2)).mono (hm9 2),(HO.out.t.keep (hq 3)).mono (hm9 3),(HO.out.h.keep (hq 4)).mono (hm9 4)⟩⟩
      clear HZ cp bz HO RB NB HG;go_wp2;refine bodyPost_ret (v:=sysV pa' x.pn pc' sa' x.sn sc' wa' x.wn wc' ha' x.hn hc') (by simp [results,Tryz.results44,go_sem,r0,r1,r2,r3]) rfl ⟨_,rfl,HO2.out _ ?_,?_⟩
      ·intro k hk
       repeat (rw [zN _ _ _ _ (by simp;omega)])
      ·have:=BE.out
       go_grown
def Sy.nk (y:Sy) (p:Nat):Int:=nxK (y.pH p) (y.pL p) (y.sS p).p (y.sS p).rs (y.sS p).os (y.sS p).c
def Sy.nq (y:Sy) (p:Nat):Int:=nxP (y.pH p) (y.pL p) (y.sS p).p (y.sS p).rs (y.sS p).os (y.sS p).c
def Sy.nv (y:Sy) (p:Nat):Int:=nxW (y.pH p) (y.pL p) (y.sS p).p (y.sS p).rs (y.sS p).os (y.sS p).c
def tkS (y:Sy) (p:Nat) (f:Int):Int:=if belB f y.pn=true then (if y.wL (f.toNat*y.pn+p)=0 then 3 else if (y.wH (f.toNat*y.pn+p) 0).m=true then 5 else 0) else 2
def fuS (y:Sy) (p:Nat) (k q:Int):Bool:=decide (200<=y.hL p) || (k == 2 && decide (12<=y.wL (p*y.pn+q.toNat)))
def cmS (y:Sy) (p:Nat) (f:Int):Int:=if (y.sS p).c≠0 then 6 else if fuS y p (y.nk p) (y.nq p)=true then 4 else if y.nk p=3 then tkS y p (if y.nq p=9 then f else y.nq p) else 0
theorem qy5 {g:Nat->I5} {n:Nat} {eh:Nat->E3} (hp:qac g n 4=true):∀ k S,rp g n eh k=some S->OkS n S
 | 0,S,h=>by
  simp only [rp,Option.some.injEq] at h;subst h;exact qlm hp
 | k+1,S,h=>by
  simp only [rp] at h;cases hr:rp g n eh k with
  | none=>rw [hr] at h;cases h
  | some S0=>
   rw [hr] at h;simp only [Option.bind_some,qeo] at h
   split at h
   ·rename_i hd
    simp only [Option.some.injEq] at h;subst h;exact qrb hd
   ·cases h
theorem Sy.Ok.four {y:Sy} (h:y.Ok) {p:Nat} (hp:p<y.pn):qac (y.pH p) (y.pL p) 4=true:=(qcp (h.rp p hp)).1
theorem Sy.Ok.le200 {y:Sy} (h:y.Ok) {p:Nat} (hp:p<y.pn):y.hL p<=200:=(qcp (h.rp p hp)).2.1
theorem Sy.Ok.st {y:Sy} (h:y.Ok) {p:Nat} (hp:p<y.pn):OkS (y.pL p) (y.sS p):=qy5 (h.four hp) _ _ (qcp (h.rp p hp)).2.2
theorem Sy.Ok.right {y:Sy} (h:y.Ok) {p:Nat} (hp:p<y.pn) (hc:(y.sS p).c=0):qch (y.pH p) (y.pL p) (y.sS p).p (y.sS p).rs (y.sS p).os 0=true:=by
 have:=qrw (h.four hp) (h.st hp) hc
 rwa [hc] at this
theorem Sy.Ok.peer {y:Sy} (h:y.Ok) {p:Nat} (hp:p<y.pn) (hk:y.nk p=2):0<=y.nq p/\y.nq p<y.pn:=by
 unfold Sy.nk nxK at hk;unfold Sy.nq nxP;by_cases hr:qch (y.pH p) (y.pL p) (y.sS p).p (y.sS p).rs (y.sS p).os (y.sS p).c=true
 ·rw [if_pos hr] at hk ⊢
  obtain ⟨-,h4,-⟩:=qbb hr;obtain ⟨-,⟨k,ek,hkl⟩,-⟩:=qck h4;have e:(y.sS p).p.toNat=k:=by omega
  rw [e] at hk ⊢;have h5:=qbt (h.pr p hp) hkl;simp only [qaj,Bool.and_eq_true] at h5;have h6:=h5.2
  have e6:(y.pH p k).o=6:=by
   unfold evK at hk;by_cases e6:(y.pH p k).o=6
   ·exact e6
   ·rw [if_neg e6] at hk
    split at hk
    ·cases hk
    ·split at hk <;> cases hk
  rw [evP,if_pos e6];simp [qa8,e6,inB] at h6;omega
 ·rw [if_neg hr] at hk
  cases hk
theorem Sy.Ok.way {y:Sy} (h:y.Ok) {a b:Nat} (ha:a<y.pn) (hb:b<y.pn):y.wL (a*y.pn+b)<=12:=(h.wa a ha b hb).le
variable {z:Bool}
def Sy.setW (y:Sy) (i m:Nat) (H:Nat->I2):Sy:={ y with wL:=fun j=>if j=i then m else y.wL j,wH:=fun j=>if j=i then H else y.wH j }
def Sy.setH (y:Sy) (i m:Nat) (H:Nat->E3):Sy:={ y with hL:=fun j=>if j=i then m else y.hL j,hH:=fun j=>if j=i then H else y.hH j }
def Sy.setS (y:Sy) (i:Nat) (T:S4):Sy:={ y with sS:=fun j=>if j=i then T else y.sS j }
def Sy.way (y:Sy) (p:Nat) (k q v:Int):Sy:=
 { y with
  wL:=if k=2 then fun j=>if j=p*y.pn+q.toNat then y.wL (p*y.pn+q.toNat)+1 else y.wL j
   else if k=3 then fun j=>if j=q.toNat*y.pn+p then y.wL (q.toNat*y.pn+p) - 1 else y.wL j else y.wL
  wH:=if k=2 then fun j=>if j=p*y.pn+q.toNat then (fun i=>if i=y.wL (p*y.pn+q.toNat) then ⟨false,v⟩ else y.wH (p*y.pn+q.toNat) i) else y.wH j
   else if k=3 then fun j=>if j=q.toNat*y.pn+p then (fun i=>y.wH (q.toNat*y.pn+p) (i+1)) else y.wH j else y.wH }
theorem Sy.way_send (y:Sy) (p q:Nat) (v:Int):y.way p 2 q v=y.setW (p*y.pn+q) (y.wL (p*y.pn+q)+1) (fun i=>if i=y.wL (p*y.pn+q) then ⟨false,v⟩ else y.wH (p*y.pn+q) i):=by
 simp [Sy.way,Sy.setW]
theorem Sy.way_take (y:Sy) (p q:Nat) (v:Int):y.way p 3 q v=y.setW (q*y.pn+p) (y.wL (q*y.pn+p) - 1) (fun i=>y.wH (q*y.pn+p) (i+1)):=by
 simp [Sy.way,Sy.setW]
theorem Sy.way_no (y:Sy) (p:Nat) {k:Int} (h2:k≠2) (h3:k≠3) (q v:Int):y.way p k q v=y:=by
 simp [Sy.way,h2,h3]
theorem qx5 (H:Nat->I2) (x:I2) (n:Nat):fT (fun i=>if i=n then x else H i) (n+1)=fT H n ++ cT x:=by
 show flat (fun i=>cT (if i=n then x else H i)) n ++ cT (if n=n then x else H n)=flat (fun i=>cT (H i)) n ++ cT x;rw [if_pos rfl]
 congr 1
 exact qaz fun i hi=>by rw [if_neg (by omega)]
def Sy.evt (y:Sy) (p:Nat) (k q v:Int):Sy:=
 (y.setS p (doS (y.pH p) (y.pL p) (y.sS p).p (y.sS p).rs (y.sS p).os (y.sS p).c k q v)).setH p (y.hL p+1) (fun i=>if i=y.hL p then ⟨k,q,v⟩ else y.hH p i)
def Sy.eq (y:Sy) (p:Nat) (f:Int):Int:=if y.nk p=3 then (if y.nq p=9 then f else y.nq p) else y.nq p
def Sy.ev (y:Sy) (p:Nat) (f:Int):Int:=if y.nk p=3 then (y.wH ((y.eq p f).toNat*y.pn+p) 0).v else y.nv p
def Sy.step (y:Sy) (p:Nat) (f:Int):Sy:=if cmS y p f=0 then (y.way p (y.nk p) (y.eq p f) (y.ev p f)).evt p (y.nk p) (y.eq p f) (y.ev p f) else y
structure Sy.Sm (y:Sy):Prop where
 n:y.pn<=16/\y.sn<=16/\y.wn<=16/\y.hn<=16
 p:∀ i,i<y.pn->y.pL i<=1000
 s:∀ i,i<y.sn->(y.sS i).rs.length<=1000/\(y.sS i).os.length<=1000
 w:∀ i,i<y.wn->y.wL i<=1000
 h:∀ i,i<y.hn->y.hL i<=1000
theorem qyc {n:Nat} {S:S4} (h:OkS n S):S.rs.length<=60/\S.os.length<=60:=by
 obtain ⟨⟨r0,r1,r2,r3,e,-⟩,-,h60,-⟩:=qck h;exact ⟨by rw [e];simp,h60⟩
theorem Sy.Ok.bds {y:Sy} (h:y.Ok):(∀ i,i<y.pn->y.pL i<=30)/\(∀ i,i<y.sn->OkS (y.pL i) (y.sS i))/\(∀ i,i<y.wn->y.wL i<=12)/\(∀ i,i<y.hn->y.hL i<=200):=by
 obtain ⟨⟨h1,h4⟩,hs,hh,hw⟩:=h.cn;refine ⟨fun i hi=>?_,fun i hi=>h.st (by omega),fun i hi=>?_,fun i hi=>h.le200 (by omega)⟩
 ·have h1:=h.four hi
  simp only [qac,Bool.and_eq_true,inB,decide_eq_true_eq] at h1;have:=h1.2.1;omega
 ·rw [hw] at hi
  have ha:i / y.pn<y.pn:=Nat.div_lt_of_lt_mul hi;have hb:i % y.pn<y.pn:=Nat.mod_lt _ (by omega);have e:i / y.pn*y.pn+i % y.pn=i:=by rw [Nat.mul_comm];exact Nat.div_add_mod i y.pn
  have:=h.way ha hb;rw [e] at this;exact this
theorem Sy.Ok.sm {y:Sy} (h:y.Ok):y.Sm:=by
 obtain ⟨⟨h1,h4⟩,hs,hh,hw⟩:=h.cn;obtain ⟨b1,b2,b3,b4⟩:=h.bds;have h16:y.pn*y.pn<=16:=zO (Nat.mul_le_mul h4 h4) (by omega);exact ⟨⟨by omega,by omega,by omega,by omega⟩,fun i hi=>by have:=b1 i hi;omega,fun i hi=>by have:=qyc (b2 i hi);omega,fun i hi=>by have:=b3 i hi;omega,fun i hi=>by have:=b4 i hi;omega⟩
