import Derived.Test.YtkdablcbhhphoaaGreatDoorMt13
import Derived.Test.YtkdablcbhhphoaaGreatDoorMt15
import Derived.Deep.RegionLaw
namespace Go.Proofs.YtkdablcbhhphoaaGreatDoor
open Go.Proofs.Tryz
set_option maxRecDepth 100000
set_option maxHeartbeats 4000000
open Go.ChangeShapes Go.WideShapes Go.ChangeAt Go.RowKit Go.Deep
structure Sy where
 pn:Nat
 pL:Nat->Nat
 pH:Nat->Nat->I5
 sn:Nat
 sS:Nat->S4
 wn:Nat
 wL:Nat->Nat
 wH:Nat->Nat->I2
 hn:Nat
 hL:Nat->Nat
 hH:Nat->Nat->E3
def SysIn.y (x:SysIn):Sy:=⟨x.pn,x.pL,x.pH,x.sn,x.sS,x.wn,x.wL,x.wH,x.hn,x.hL,x.hH⟩
def Sy.hs (y:Sy):Hs:=⟨y.pn,y.hL,y.hH⟩
def qci (x:I2):Bool:=numB x.v && (!x.m || x.v == 0)
structure WayP (h:Nat->I2) (len:Nat) (took sent:List Int):Prop where
 it:∀ i,i<len->qci (h i)=true
 le:len<=12
 eq:took ++ numL h len=sent
structure Sy.Ok (y:Sy):Prop where
 cn:(1<=y.pn/\y.pn<=4)/\y.sn=y.pn/\y.hn=y.pn/\y.wn=y.pn*y.pn
 pr:∀ p,p<y.pn->qac (y.pH p) (y.pL p) y.pn=true
 rp:∀ p,p<y.pn->repO (y.pH p) (y.pL p) (y.hH p) (y.hL p)=some (y.sS p)
 pe:∀ p,p<y.pn->∀ i,i<y.hL p->(y.hH p i).q<(y.pn:Int)
 wa:∀ a,a<y.pn->∀ b,b<y.pn->WayP (y.wH (a*y.pn+b)) (y.wL (a*y.pn+b)) (valL (y.hH b) 3 a (y.hL b)) (valL (y.hH a) 2 b (y.hL a))
 ro:y.hs.Row
noncomputable def Sy.okB (y:Sy):Bool:=@decide y.Ok (Classical.propDecidable _)
theorem Sy.okB_true {y:Sy} (h:y.Ok):y.okB=true:=by simp [Sy.okB,h]
theorem Sy.okB_false {y:Sy} (h:¬ y.Ok):y.okB=false:=by simp [Sy.okB,h]
theorem Sy.ok_of {y:Sy} (h:y.okB=true):y.Ok:=by simpa [Sy.okB] using h
theorem qye {g:Nat->I5} {len:Nat} {k:Nat} (h:qac g len 4=true) (hk:k<len):0<=evP (g k).o (g k).n:=by
 have h5:=qbw h hk;simp only [qaj,nH] at h5;have h6:=h5.2;unfold evP;by_cases e6:(g k).o=6
 ·rw [nC e6]
  simp [qbb,e6,inB] at h6;omega
 ·rw [nB e6]
  by_cases e7:(g k).o=7
  ·rw [nC e7]
   simp [qbb,e7,inB] at h6;omega
  ·rw [nB e7]
   exact Int.le_refl _
theorem qwg {g:Nat->I5} {len:Nat} {p:Int} {rs os:List Int} {code k q v:Int} (h:doB g len p rs os code k q v=true):0<=q:=by
 have hr:=qdx h;obtain ⟨h1,h2,-⟩:=qbe hr;obtain ⟨-,⟨j,rfl,hj⟩,-⟩:=qco h2;have hp:=qye h1 hj;simp only [doB,canB,nxP,nC hr,nF] at h
 split at h
 ·simp only [nH] at h
  have h3:=h.2
  split at h3
  ·simp only [belB,nI] at h3
   omega
  ·simp only [beq_iff_eq] at h3
   omega
 ·simp only [nH,beq_iff_eq] at h
  have:=h.2.2.1;omega
theorem qqu {g:Nat->I5} {len:Nat} {eh:Nat->E3}:∀ {k:Nat} {S:S4},rp g len eh k=some S->∀ i,i<k->0<=(eh i).q
 | 0,_,_,i,hi=>by omega
 | k+1,S,h,i,hi=>by
  simp only [rp] at h;cases hr:rp g len eh k with
  | none=>rw [hr] at h;cases h
  | some S0=>
   rw [hr] at h;simp only [Option.bind_some,qeu] at h
   split at h
   ·rename_i hd
    by_cases e:i=k
    ·subst e
     exact qwg hd
    ·exact qqu hr i (by omega)
   ·cases h
theorem qcs {g:Nat->I5} {n:Nat} {eh:Nat->E3} {m:Nat} {S:S4} (h:repO g n eh m=some S):qac g n 4=true/\m<=200/\rp g n eh m=some S:=by
 unfold repO at h
 split at h
 ·rename_i hc
  exact ⟨hc.1,hc.2,h⟩
 ·cases h
structure SysG (W:World) (x:SysIn):Prop where
 p:RowS W x.pa x.pn fun i=>.slice (x.pA i) (x.pL i) (x.pC i)
 pi:∀ i,i<x.pn->∃ b,x.pA i=some ⟨b,0,none⟩/\b<W.heap.size/\qao W b 0 (x.pL i) (x.pH i)
 s:qbg W x.sa x.sn x.sQ
 w:RowS W x.wa x.wn fun i=>.slice (x.wA i) (x.wL i) (x.wC i)
 wi:∀ i,i<x.wn->ItL W (x.wA i) (x.wL i) (x.wH i)
 h:RowS W x.ha x.hn fun i=>.slice (x.hA i) (x.hL i) (x.hC i)
 hi:∀ i,i<x.hn->EvL W (x.hA i) (x.hL i) (x.hH i)
theorem SysG.bw {w w':World} {x:SysIn} (o:SysG w x) (hb:Below w.heap.size w w'):SysG w' x:=
 ⟨o.p.bw hb, fun i hi => by
  obtain ⟨b,e,hlt,hI⟩:=o.pi i hi
  exact ⟨b,e,zL hlt hb.size,hI.bw hb hlt⟩,o.s.bw hb,o.w.bw hb,fun i hi=>(o.wi i hi).bw hb,o.h.bw hb,fun i hi=>(o.hi i hi).bw hb⟩
structure SysIn.Len (x:SysIn):Prop where
 p:x.pn<=1048576/\∀ i,i<x.pn->x.pL i<=1048576
 s:x.sn<=1048576/\∀ i,i<x.sn->(x.sQ i).rs.length<=1048576/\(x.sQ i).os.length<=1048576
 w:x.wn<=1048576/\∀ i,i<x.wn->x.wL i<=1048576
 h:x.hn<=1048576/\∀ i,i<x.hn->x.hL i<=1048576
abbrev SysIn.v (x:SysIn):Value:=sysV x.pa x.pn x.pc x.sa x.sn x.sc x.wa x.wn x.wc x.ha x.hn x.hc
theorem qcc.g {w:World} {lo hi:Nat} {x:SysIn} {v:Value} (o:qcc w lo hi x v):∃ x':SysIn,v=x'.v/\SysG w x'/\x'.y=x.y:=by
 obtain ⟨D1,D2,D3,D4,b1,vs,b3,b4,h1,h2,h3,o⟩:=o;obtain ⟨q1,q2,q3,q4,-⟩:=o.hi
 have hst:∀ i,i<x.sn->∃ t:Option Addr × Nat × Option Addr × Nat,vs i=stV (x.sS i).p t.1 (x.sS i).rs.length t.2.1 t.2.2.1 (x.sS i).os.length t.2.2.2 (x.sS i).c/\w.cell? ⟨D2,i*4,none⟩=some (.int .i64 (x.sS i).p)/\w.cell? ⟨D2,i*4+1,none⟩=some (.slice t.1 (x.sS i).rs.length t.2.1)/\w.cell? ⟨D2,i*4+2,none⟩=some (.slice t.2.2.1 (x.sS i).os.length t.2.2.2)/\w.cell? ⟨D2,i*4+3,none⟩=some (.int .i64 (x.sS i).c):=by
  intro i hi;obtain ⟨ra,rc,oa,oc,e,c0,c1,c2,c3⟩:=o.ss.cel i hi;exact ⟨(ra,rc,oa,oc),e,c0,c1,c2,c3⟩
 have inh:Inhabited (Option Addr × Nat × Option Addr × Nat):=⟨(none,0,none,0)⟩
 obtain ⟨t,ht⟩:=Go.Deep.choose_lt hst;refine ⟨⟨some ⟨D1,0,none⟩,x.pn,x.pn,fun i=>some ⟨b1 i,0,none⟩,x.pL,x.pL,x.pH,some ⟨D2,0,none⟩,x.sn,x.sn,fun i=>⟨(x.sS i).p,(t i).1,(t i).2.1,(x.sS i).rs,(t i).2.2.1,(t i).2.2.2,(x.sS i).os,(x.sS i).c⟩,some ⟨D3,0,none⟩,x.wn,x.wn,fun i=>some ⟨b3 i,0,none⟩,x.wL,x.wL,x.wH,some ⟨D4,0,none⟩,x.hn,x.hn,fun i=>some ⟨b4 i,0,none⟩,x.hL,x.hL,x.hH⟩,o.val,?_,rfl⟩;have l1:=o.pp.lt;have l2:=o.ss.lt;have l3:=o.ww.lt;have l4:=o.hh.lt;refine ⟨.inr ⟨D1,0,rfl,by omega,fun i hi=>?_⟩,fun i hi=>⟨b1 i,rfl,zL (o.pp.bd i hi).2 o.pp.le,o.pp.row i hi⟩,⟨.inr ⟨D2,0,rfl,by omega,fun i hi=>?_⟩,fun i hi=>?_⟩,.inr ⟨D3,0,rfl,by omega,fun i hi=>?_⟩,fun i hi=>.inr ⟨b3 i,0,rfl,zL (o.ww.bd i hi).2 o.ww.le,o.ww.row i hi⟩,.inr ⟨D4,0,rfl,by omega,fun i hi=>?_⟩,fun i hi=>.inr ⟨b4 i,0,rfl,zL (o.hh.bd i hi).2 o.hh.le,o.hh.row i hi⟩⟩
 ·have:=o.pp.cel i hi
  simpa using this
 ·have:=(ht i hi).2
  simpa using this
 ·have h4:=o.ss.own i hi
  rw [(ht i hi).1] at h4;exact ⟨h4.parts.1.slOf,h4.parts.2.1.slOf⟩
 ·have:=o.ww.cel i hi
  simpa using this
 ·have:=o.hh.cel i hi
  simpa using this
variable {z:Bool}
structure OwnS (z:Bool) (w:World) (B:Nat) (c:Nat->Nat) (y:Sy) (vp vs vw vh:Value) (up us uw uh:Nat->Value):Prop where
 p:LI z w (Cl B c 1) vp y.pn up y.pL y.pH
 s:LS w (Cl B c 2) vs y.sn us y.sS
 t:LT z w (Cl B c 3) vw y.wn uw y.wL y.wH
 h:LE z w (Cl B c 4) vh y.hn uh y.hL y.hH
theorem OwnS.bw {w w':World} {B:Nat} {c:Nat->Nat} {y:Sy} {vp vs vw vh:Value} {up us uw uh:Nat->Value} (o:OwnS z w B c y vp vs vw vh up us uw uh) (hb:Below w.heap.size w w'):OwnS z w' B c y vp vs vw vh up us uw uh:=⟨o.p.bw hb,o.s.bw hb,o.t.bw hb,o.h.bw hb⟩
def qbj (z:Bool) (w:World) (B:Nat) (y:Sy) (v:Value):Prop:=∃ c vp vs vw vh up us uw uh,v=.agg #[vp,vs,vw,vh]/\OwnS z w B c y vp vs vw vh up us uw uh
theorem qbj.bw {w w':World} {B:Nat} {y:Sy} {v:Value} (o:qbj z w B y v) (hb:Below w.heap.size w w'):qbj z w' B y v:=by
 obtain ⟨c,vp,vs,vw,vh,up,us,uw,uh,e,o⟩:=o;exact ⟨c,vp,vs,vw,vh,up,us,uw,uh,e,o.bw hb⟩
theorem qad (w:World) (o:Obj):Below w.heap.size w (w.alloc o):=(nE _ _).alloc (nA _) _
theorem qc7 {n:Nat} {ls:Nat->Nat} {N:Nat} (h:sumL ls n<=N):∀ i,i<n->ls i<=N:=fun i hi=>by
 have:=qbf ls hi;omega
theorem SysIn.lens {x:SysIn} (h:x.size<=1048576):(x.pn<=1048576/\sumL x.pL x.pn<=1048576)/\(x.sn<=1048576/\sumL (lenS x.sS) x.sn<=1048576)/\(x.wn<=1048576/\sumL x.wL x.wn<=1048576)/\(x.hn<=1048576/\sumL x.hL x.hn<=1048576):=by
 unfold SysIn.size at h;omega
theorem SysIn.lensS {x:SysIn} (h:x.size<=1048576):∀ i,i<x.sn->(x.sQ i).rs.length<=1048576/\(x.sQ i).os.length<=1048576:=fun i hi=>by
 have:=qc7 (SysIn.lens h).2.1.2 i hi;have e:lenS x.sS i=(x.sQ i).rs.length+(x.sQ i).os.length:=rfl;omega
structure TB (w wx:World) (a0 a1 a2 a3 o0 o1 o2 o3:Value):Prop where
 p:BoxC wx w.heap.size a0 a1 a2 a3
 r:BoxC wx (w.heap.size+1) nS nS nS nS
 o:BoxC wx (w.heap.size+1+1) o0 o1 o2 o3
 fr:∀ j,wx.frozen? ⟨w.heap.size+1,j,none⟩=false
 fo:∀ j,wx.frozen? ⟨w.heap.size+1+1,j,none⟩=false
 be:Below w.heap.size w wx
 le:w.heap.size+3<=wx.heap.size
theorem TB.bw {w wx w':World} {a0 a1 a2 a3 o0 o1 o2 o3:Value} (h:TB w wx a0 a1 a2 a3 o0 o1 o2 o3) (hb:Below wx.heap.size wx w'):TB w w' a0 a1 a2 a3 o0 o1 o2 o3:=
 ⟨h.p.bw hb,h.r.bw hb,h.o.bw hb,fun j=>(hb.frozen (p:=⟨w.heap.size+1,j,none⟩) (by have:=h.le;show w.heap.size+1<_;omega)).trans (h.fr j),fun j=>(hb.frozen (p:=⟨w.heap.size+1+1,j,none⟩) (by have:=h.le;show w.heap.size+1+1<_;omega)).trans (h.fo j),h.be.trans (hb.mono h.be.size),zO h.le hb.size⟩
theorem TB.first {w:World} (a0 a1 a2 a3:Value) (t1 t2:TypeId):TB w (((w.alloc (.cells #[a0,a1,a2,a3] t1)).alloc (.cells #[nS,nS,nS,nS] t2)).alloc (.cells #[nS,nS,nS,nS] t2)) a0 a1 a2 a3 nS nS nS nS:=by
 have hb1:=qad (w.alloc (.cells #[a0,a1,a2,a3] t1)) (.cells #[nS,nS,nS,nS] t2);have hb2:=qad ((w.alloc (.cells #[a0,a1,a2,a3] t1)).alloc (.cells #[nS,nS,nS,nS] t2)) (.cells #[nS,nS,nS,nS] t2);have n0:=BoxC.new w a0 a1 a2 a3 t1;have n1:=BoxC.new (w.alloc (.cells #[a0,a1,a2,a3] t1)) nS nS nS nS t2;have n2:=BoxC.new ((w.alloc (.cells #[a0,a1,a2,a3] t1)).alloc (.cells #[nS,nS,nS,nS] t2)) nS nS nS nS t2;have f1:=fun j=>yA (w.alloc (.cells #[a0,a1,a2,a3] t1)) #[nS,nS,nS,nS] t2 j rfl;have f2:=fun j=>yA ((w.alloc (.cells #[a0,a1,a2,a3] t1)).alloc (.cells #[nS,nS,nS,nS] t2)) #[nS,nS,nS,nS] t2 j rfl;simp only [World.size_alloc] at n1 n2 f1 f2;refine ⟨(n0.bw hb1).bw hb2,n1.bw hb2,n2,fun j=>?_,f2,?_,by simp⟩
 ·exact (hb2.frozen (p:=⟨w.heap.size+1,j,none⟩) (by simp)).trans (f1 j)
 ·exact (((nE _ _).alloc (nA _) _).alloc (by simp) _).alloc (by simp;omega) _
theorem BoxC.setO {w:World} {N M j:Nat} {p a b c u:Value} (h:BoxC w N p a b c) (hne:M≠N):BoxC (w.setCell ⟨M,j,none⟩ u) N p a b c:=by
 obtain ⟨h0,h1,h2,h3⟩:=h;have hc:∀ i,(w.setCell ⟨M,j,none⟩ u).cell? ⟨N,i,none⟩=w.cell? ⟨N,i,none⟩:=fun i=>World.cell?_setCell_other _ _ _ _ fun e=>hne (by injection e);exact ⟨(hc _).trans h0,(hc _).trans h1,(hc _).trans h2,(hc _).trans h3⟩
theorem TB.set0 {w wx:World} {a0 a1 a2 a3 o0 o1 o2 o3:Value} (h:TB w wx a0 a1 a2 a3 o0 o1 o2 o3) (u:Value):TB w (wx.setCell ⟨w.heap.size+1+1,0,none⟩ u) a0 a1 a2 a3 u o1 o2 o3:=by
 obtain ⟨q0,q1,q2,q3⟩:=h.o;have hc:∀ i,0≠i->(wx.setCell ⟨w.heap.size+1+1,0,none⟩ u).cell? ⟨w.heap.size+1+1,i,none⟩=wx.cell? ⟨w.heap.size+1+1,i,none⟩:=fun i hi=>World.cell?_setCell_other _ _ _ _ fun e=>hi (by injection e);exact ⟨h.p.setO (by omega),h.r.setO (by omega),⟨World.cell?_setCell_same _ _ _ q0,(hc _ (by omega)).trans q1,(hc _ (by omega)).trans q2,(hc _ (by omega)).trans q3⟩,fun j=>by rw [World.frozen?_setCell];exact h.fr j,fun j=>by rw [World.frozen?_setCell];exact h.fo j,h.be.setCell (by simp;omega) _,by simp;exact h.le⟩
theorem TB.set1 {w wx:World} {a0 a1 a2 a3 o0 o1 o2 o3:Value} (h:TB w wx a0 a1 a2 a3 o0 o1 o2 o3) (u:Value):TB w (wx.setCell ⟨w.heap.size+1+1,1,none⟩ u) a0 a1 a2 a3 o0 u o2 o3:=by
 obtain ⟨q0,q1,q2,q3⟩:=h.o;have hc:∀ i,1≠i->(wx.setCell ⟨w.heap.size+1+1,1,none⟩ u).cell? ⟨w.heap.size+1+1,i,none⟩=wx.cell? ⟨w.heap.size+1+1,i,none⟩:=fun i hi=>World.cell?_setCell_other _ _ _ _ fun e=>hi (by injection e);exact ⟨h.p.setO (by omega),h.r.setO (by omega),⟨(hc _ (by omega)).trans q0,World.cell?_setCell_same _ _ _ q1,(hc _ (by omega)).trans q2,(hc _ (by omega)).trans q3⟩,fun j=>by rw [World.frozen?_setCell];exact h.fr j,fun j=>by rw [World.frozen?_setCell];exact h.fo j,h.be.setCell (by simp;omega) _,by simp;exact h.le⟩
theorem TB.set2 {w wx:World} {a0 a1 a2 a3 o0 o1 o2 o3:Value} (h:TB w wx a0 a1 a2 a3 o0 o1 o2 o3) (u:Value):TB w (wx.setCell ⟨w.heap.size+1+1,2,none⟩ u) a0 a1 a2 a3 o0 o1 u o3:=by
 obtain ⟨q0,q1,q2,q3⟩:=h.o;have hc:∀ i,2≠i->(wx.setCell ⟨w.heap.size+1+1,2,none⟩ u).cell? ⟨w.heap.size+1+1,i,none⟩=wx.cell? ⟨w.heap.size+1+1,i,none⟩:=fun i hi=>World.cell?_setCell_other _ _ _ _ fun e=>hi (by injection e);exact ⟨h.p.setO (by omega),h.r.setO (by omega),⟨(hc _ (by omega)).trans q0,(hc _ (by omega)).trans q1,World.cell?_setCell_same _ _ _ q2,(hc _ (by omega)).trans q3⟩,fun j=>by rw [World.frozen?_setCell];exact h.fr j,fun j=>by rw [World.frozen?_setCell];exact h.fo j,h.be.setCell (by simp;omega) _,by simp;exact h.le⟩
theorem qv4 (x:SysIn) (W w:World) (hs:x.size<=1048576) (hA:x.Ok W) (hW:Below W.heap.size W w):
  Calls prog 23 #[sysV x.pa x.pn x.pc x.sa x.sn x.sc x.wa x.wn x.wc x.ha x.hn x.hc] w fun e w'=>∃ v,e=.returned v/\qcc w' w.heap.size w'.heap.size x v/\Below w.heap.size w w':=by
 have HA:Hid (x.Ok W):=hA;have HW:Hid (Below W.heap.size W w):=hW;have HS:Hid (x.size<=1048576):=hs;have HWs:Hid (W.heap.size<=w.heap.size):=hW.size;clear hA hW hs
 go_enter func23,ntmps23
 have T0:Hid (TB w (((w.alloc (.cells #[.slice x.pa x.pn x.pc,.slice x.sa x.sn x.sc,.slice x.wa x.wn x.wc,.slice x.ha x.hn x.hc] 27)).alloc (zQ2)).alloc (zQ2)) (.slice x.pa x.pn x.pc) (.slice x.sa x.sn x.sc) (.slice x.wa x.wn x.wc) (.slice x.ha x.hn x.hc) nS nS nS nS):=TB.first _ _ _ _ _ _
 go_wp2_with fail
 generalize ((w.alloc (.cells #[.slice x.pa x.pn x.pc,.slice x.sa x.sn x.sc,.slice x.wa x.wn x.wc,.slice x.ha x.hn x.hc] 27)).alloc (zQ2)).alloc (zQ2)=wA at *;refine (qq2 _ _ _ _ x.pL _ x.pH W _ (SysIn.lens HS.out).1.1 HA.p (HW.trans (T0.be.mono HWs.out))).mono ?_;rintro e w1 ⟨rfl,⟨bs1,o1⟩,b1⟩;have T1:Hid (TB w w1 (.slice x.pa x.pn x.pc) (.slice x.sa x.sn x.sc) (.slice x.wa x.wn x.wc) (.slice x.ha x.hn x.hc) nS nS nS nS):=T0.bw b1;have O1:Hid (qbo w1 wA.heap.size w1.heap.size x.pn x.pL bs1 x.pH):=o1;have zA:w.heap.size+3<=wA.heap.size:=T0.le;clear b1 T0 o1;obtain ⟨⟨p0,p1,p2,p3⟩,-,⟨q0,q1,q2,q3⟩,-,fo,-,le⟩:=T1.out;go_wp2_with fail
 have T2:Hid (TB w (w1.setCell ⟨w.heap.size+1+1,0,none⟩ (sG wA.heap.size x.pn x.pn)) (.slice x.pa x.pn x.pc) (.slice x.sa x.sn x.sc) (.slice x.wa x.wn x.wc) (.slice x.ha x.hn x.hc) (sG wA.heap.size x.pn x.pn) nS nS nS):=T1.set0 _;have O2:Hid (qbo (w1.setCell ⟨w.heap.size+1+1,0,none⟩ (sG wA.heap.size x.pn x.pn)) wA.heap.size w1.heap.size x.pn x.pL bs1 x.pH):=O1.keep (by simp) fun k hk _=>zN _ _ _ _ (by simp;omega);have h12:w1.heap.size=(w1.setCell ⟨w.heap.size+1+1,0,none⟩ (sG wA.heap.size x.pn x.pn)).heap.size:=by simp
 have l1:wA.heap.size<w1.heap.size:=O1.lt;clear O1 T1 p0 p1 p2 p3 q0 q1 q2 q3 fo le;generalize w1.setCell ⟨w.heap.size+1+1,0,none⟩ (sG wA.heap.size x.pn x.pn)=wB at *;rw [h12] at O2 l1;clear h12;refine (qo2 _ _ _ x.sQ W wB (SysIn.lens HS.out).2.1.1 (SysIn.lensS HS.out) HA.s (HW.trans (T2.be.mono HWs.out))).mono ?_;rintro e w2 ⟨rfl,⟨vs,o2⟩,b2⟩;have T3:Hid (TB w w2 (.slice x.pa x.pn x.pc) (.slice x.sa x.sn x.sc) (.slice x.wa x.wn x.wc) (.slice x.ha x.hn x.hc) (sG wA.heap.size x.pn x.pn) nS nS nS):=T2.bw b2;have P3:Hid (qbo w2 wA.heap.size wB.heap.size x.pn x.pL bs1 x.pH):=O2.bw b2 (nA _);have S3:Hid (qav w2 wB.heap.size w2.heap.size x.sn x.sS vs):=o2;clear b2 T2 o2 O2;obtain ⟨⟨p0,p1,p2,p3⟩,-,⟨q0,q1,q2,q3⟩,-,fo,-,le⟩:=T3.out;go_wp2_with fail
 have T4:Hid (TB w (w2.setCell ⟨w.heap.size+1+1,1,none⟩ (sG wB.heap.size x.sn x.sn)) (.slice x.pa x.pn x.pc) (.slice x.sa x.sn x.sc) (.slice x.wa x.wn x.wc) (.slice x.ha x.hn x.hc) (sG wA.heap.size x.pn x.pn) (sG wB.heap.size x.sn x.sn) nS nS):=T3.set1 _;have P4:Hid (qbo (w2.setCell ⟨w.heap.size+1+1,1,none⟩ (sG wB.heap.size x.sn x.sn)) wA.heap.size wB.heap.size x.pn x.pL bs1 x.pH):=P3.keep (by simp) fun k hk _=>zN _ _ _ _ (by simp;omega);have S4':Hid (qav (w2.setCell ⟨w.heap.size+1+1,1,none⟩ (sG wB.heap.size x.sn x.sn)) wB.heap.size w2.heap.size x.sn x.sS vs):=S3.keep (by simp) fun k hk _=>zN _ _ _ _ (by simp;omega);have h12:w2.heap.size=(w2.setCell ⟨w.heap.size+1+1,1,none⟩ (sG wB.heap.size x.sn x.sn)).heap.size:=by simp
 have l2:wB.heap.size<w2.heap.size:=S3.lt;clear P3 S3 T3 p0 p1 p2 p3 q0 q1 q2 q3 fo le;generalize w2.setCell ⟨w.heap.size+1+1,1,none⟩ (sG wB.heap.size x.sn x.sn)=wC at *;rw [h12] at S4' l2;clear h12;refine (qo0 _ _ _ _ x.wL _ x.wH W wC (SysIn.lens HS.out).2.2.1.1 HA.w (HW.trans (T4.be.mono HWs.out))).mono ?_;rintro e w3 ⟨rfl,⟨bs3,o3⟩,b3⟩;have T5:Hid (TB w w3 (.slice x.pa x.pn x.pc) (.slice x.sa x.sn x.sc) (.slice x.wa x.wn x.wc) (.slice x.ha x.hn x.hc) (sG wA.heap.size x.pn x.pn) (sG wB.heap.size x.sn x.sn) nS nS):=T4.bw b3;have P5:Hid (qbo w3 wA.heap.size wB.heap.size x.pn x.pL bs1 x.pH):=P4.bw b3 (by omega);have S5:Hid (qav w3 wB.heap.size wC.heap.size x.sn x.sS vs):=S4'.bw b3 (nA _);have W5:Hid (qa6 w3 wC.heap.size w3.heap.size x.wn x.wL bs3 x.wH):=o3;clear b3 T4 o3 P4 S4';obtain ⟨⟨p0,p1,p2,p3⟩,-,⟨q0,q1,q2,q3⟩,-,fo,-,le⟩:=T5.out;go_wp2_with fail
 have T6:Hid (TB w (w3.setCell ⟨w.heap.size+1+1,2,none⟩ (sG wC.heap.size x.wn x.wn)) (.slice x.pa x.pn x.pc) (.slice x.sa x.sn x.sc) (.slice x.wa x.wn x.wc) (.slice x.ha x.hn x.hc) (sG wA.heap.size x.pn x.pn) (sG wB.heap.size x.sn x.sn) (sG wC.heap.size x.wn x.wn) nS):=T5.set2 _;have P6:Hid (qbo (w3.setCell ⟨w.heap.size+1+1,2,none⟩ (sG wC.heap.size x.wn x.wn)) wA.heap.size wB.heap.size x.pn x.pL bs1 x.pH):=P5.keep (by simp) fun k hk _=>zN _ _ _ _ (by simp;omega);have S6:Hid (qav (w3.setCell ⟨w.heap.size+1+1,2,none⟩ (sG wC.heap.size x.wn x.wn)) wB.heap.size wC.heap.size x.sn x.sS vs):=S5.keep (by simp) fun k hk _=>zN _ _ _ _ (by simp;omega);have W6:Hid (qa6 (w3.setCell ⟨w.heap.size+1+1,2,none⟩ (sG wC.heap.size x.wn x.wn)) wC.heap.size w3.heap.size x.wn x.wL bs3 x.wH):=W5.keep (by simp) fun k hk _=>zN _ _ _ _ (by simp;omega);have h12:w3.heap.size=(w3.setCell ⟨w.heap.size+1+1,2,none⟩ (sG wC.heap.size x.wn x.wn)).heap.size:=by simp
 have l3:wC.heap.size<w3.heap.size:=W5.lt;clear P5 S5 W5 T5 p0 p1 p2 p3 q0 q1 q2 q3 fo le;generalize w3.setCell ⟨w.heap.size+1+1,2,none⟩ (sG wC.heap.size x.wn x.wn)=wD at *;rw [h12] at W6 l3;clear h12;refine (qmb _ _ _ _ x.hL _ x.hH W wD (SysIn.lens HS.out).2.2.2.1 HA.h (HW.trans (T6.be.mono HWs.out))).mono ?_;rintro e w4 ⟨rfl,⟨bs4,o4⟩,b4⟩;have T7:Hid (TB w w4 (.slice x.pa x.pn x.pc) (.slice x.sa x.sn x.sc) (.slice x.wa x.wn x.wc) (.slice x.ha x.hn x.hc) (sG wA.heap.size x.pn x.pn) (sG wB.heap.size x.sn x.sn) (sG wC.heap.size x.wn x.wn) nS):=T6.bw b4
 have HO:Hid (∀ W9:World,(∀ k,w.heap.size+3<=k->W9.heap[k]? = w4.heap[k]?)->W9.heap.size=w4.heap.size->qcc W9 w.heap.size W9.heap.size x (sysV (some ⟨wA.heap.size,0,none⟩) x.pn x.pn (some ⟨wB.heap.size,0,none⟩) x.sn x.sn (some ⟨wC.heap.size,0,none⟩) x.wn x.wn (some ⟨wD.heap.size,0,none⟩) x.hn x.hn)):=by
  intro W9 hk hz;have o4':qay w4 wD.heap.size W9.heap.size x.hn x.hL bs4 x.hH:=hz ▸ o4;exact ⟨_,_,_,_,bs1,vs,bs3,bs4,wB.heap.size,wC.heap.size,wD.heap.size,rfl,(P6.bw b4 (by omega)).keep (by omega) fun k h1 _=>hk k (by omega),(S6.bw b4 (by omega)).keep (by omega) fun k h1 _=>hk k (by omega),(W6.bw b4 (nA _)).keep (by omega) fun k h1 _=>hk k (by omega),o4'.keep (by omega) fun k h1 _=>hk k (by omega),by omega,nA _,nA _,nA _⟩
 clear b4 T6 o4 P6 S6 W6;obtain ⟨-,⟨r0,r1,r2,r3⟩,⟨q0,q1,q2,q3⟩,fr,fo,be,le⟩:=T7.out;have BE:Hid (Below w.heap.size w w4):=be;clear be T7;go_wp2;refine bodyPost_ret (v:=sysV (some ⟨wA.heap.size,0,none⟩) x.pn x.pn (some ⟨wB.heap.size,0,none⟩) x.sn x.sn (some ⟨wC.heap.size,0,none⟩) x.wn x.wn (some ⟨wD.heap.size,0,none⟩) x.hn x.hn) (by simp [results,results23,go_sem,r0,r1,r2,r3]) rfl ⟨_,rfl,HO.out _ ?_ ?_,?_⟩
 ·intro k hk
  repeat (rw [zN _ _ _ _ (by simp;omega)])
 ·simp
 ·have:=BE.out
  go_grown
theorem qs0 (x:SysIn) (l1 u1 l2 u2:Nat) (v1 v2:Value) (w:World) (hs:x.size<=1048576) (o1:qcc w l1 u1 x v1) (o2:qcc w l2 u2 x v2):
  Calls prog 32 #[v1,v2] w (rB w (.bool true)):=by
 obtain ⟨D1,D2,D3,D4,b1,vs,b3,b4,h1,h2,h3,o1⟩:=o1;obtain ⟨E1,E2,E3,E4,c1,us,c3,c4,g1,g2,g3,o2⟩:=o2;have HS:Hid (x.size<=1048576):=hs;obtain ⟨rfl,p1,s1,w1,i1,-,-,-,-⟩:=o1;obtain ⟨rfl,p2,s2,w2,i2,-,-,-,-⟩:=o2;have P1:Hid (qbo w D1 h1 x.pn x.pL b1 x.pH):=p1;have P2:Hid (qbo w E1 g1 x.pn x.pL c1 x.pH):=p2;have S1:Hid (qav w D2 h2 x.sn x.sS vs):=s1;have S2:Hid (qav w E2 g2 x.sn x.sS us):=s2;have W1:Hid (qa6 w D3 h3 x.wn x.wL b3 x.wH):=w1;have W2:Hid (qa6 w E3 g3 x.wn x.wL c3 x.wH):=w2;have I1:Hid (qay w D4 u1 x.hn x.hL b4 x.hH):=i1;have I2:Hid (qay w E4 u2 x.hn x.hL c4 x.hH):=i2;clear p1 p2 s1 s2 w1 w2 i1 i2 hs
 go_enter func32,ntmps32
 have X0:Hid (BoxC ((w.alloc (oQ4 (some ⟨D1,0,none⟩) x.pn x.pn (some ⟨D2,0,none⟩) x.sn x.sn (some ⟨D3,0,none⟩) x.wn x.wn (some ⟨D4,0,none⟩) x.hn x.hn)).alloc (oQ4 (some ⟨E1,0,none⟩) x.pn x.pn (some ⟨E2,0,none⟩) x.sn x.sn (some ⟨E3,0,none⟩) x.wn x.wn (some ⟨E4,0,none⟩) x.hn x.hn)) w.heap.size (sG D1 x.pn x.pn) (sG D2 x.sn x.sn) (sG D3 x.wn x.wn) (sG D4 x.hn x.hn)/\BoxC ((w.alloc (oQ4 (some ⟨D1,0,none⟩) x.pn x.pn (some ⟨D2,0,none⟩) x.sn x.sn (some ⟨D3,0,none⟩) x.wn x.wn (some ⟨D4,0,none⟩) x.hn x.hn)).alloc (oQ4 (some ⟨E1,0,none⟩) x.pn x.pn (some ⟨E2,0,none⟩) x.sn x.sn (some ⟨E3,0,none⟩) x.wn x.wn (some ⟨E4,0,none⟩) x.hn x.hn)) (w.heap.size+1) (sG E1 x.pn x.pn) (sG E2 x.sn x.sn) (sG E3 x.wn x.wn) (sG E4 x.hn x.hn)/\Below w.heap.size w ((w.alloc (oQ4 (some ⟨D1,0,none⟩) x.pn x.pn (some ⟨D2,0,none⟩) x.sn x.sn (some ⟨D3,0,none⟩) x.wn x.wn (some ⟨D4,0,none⟩) x.hn x.hn)).alloc (oQ4 (some ⟨E1,0,none⟩) x.pn x.pn (some ⟨E2,0,none⟩) x.sn x.sn (some ⟨E3,0,none⟩) x.wn x.wn (some ⟨E4,0,none⟩) x.hn x.hn))/\w.heap.size+2<=((w.alloc (oQ4 (some ⟨D1,0,none⟩) x.pn x.pn (some ⟨D2,0,none⟩) x.sn x.sn (some ⟨D3,0,none⟩) x.wn x.wn (some ⟨D4,0,none⟩) x.hn x.hn)).alloc (oQ4 (some ⟨E1,0,none⟩) x.pn x.pn (some ⟨E2,0,none⟩) x.sn x.sn (some ⟨E3,0,none⟩) x.wn x.wn (some ⟨E4,0,none⟩) x.hn x.hn)).heap.size):=by
  have n1:=BoxC.new w (sG D1 x.pn x.pn) (sG D2 x.sn x.sn) (sG D3 x.wn x.wn) (sG D4 x.hn x.hn) 41;have n2:=BoxC.new (w.alloc (oQ4 (some ⟨D1,0,none⟩) x.pn x.pn (some ⟨D2,0,none⟩) x.sn x.sn (some ⟨D3,0,none⟩) x.wn x.wn (some ⟨D4,0,none⟩) x.hn x.hn)) (sG E1 x.pn x.pn) (sG E2 x.sn x.sn) (sG E3 x.wn x.wn) (sG E4 x.hn x.hn) 41;simp only [World.size_alloc] at n2;exact ⟨n1.bw (qad _ _),n2,((nE _ _).alloc (nA _) _).alloc (by simp) _,by simp⟩
 go_wp2_with fail
 generalize (w.alloc (oQ4 (some ⟨D1,0,none⟩) x.pn x.pn (some ⟨D2,0,none⟩) x.sn x.sn (some ⟨D3,0,none⟩) x.wn x.wn (some ⟨D4,0,none⟩) x.hn x.hn)).alloc (oQ4 (some ⟨E1,0,none⟩) x.pn x.pn (some ⟨E2,0,none⟩) x.sn x.sn (some ⟨E3,0,none⟩) x.wn x.wn (some ⟨E4,0,none⟩) x.hn x.hn)=wA at *;refine (qm8 D1 h1 E1 g1 x.pn _ _ x.pL b1 c1 x.pH _ (SysIn.lens HS.out).1.1 (qc7 (SysIn.lens HS.out).1.2) (P1.bw X0.2.2.1 P1.le) (P2.bw X0.2.2.1 P2.le)).mono ?_;rintro e w1 ⟨rfl,b1'⟩;have X1:Hid (BoxC w1 w.heap.size (sG D1 x.pn x.pn) (sG D2 x.sn x.sn) (sG D3 x.wn x.wn) (sG D4 x.hn x.hn)/\BoxC w1 (w.heap.size+1) (sG E1 x.pn x.pn) (sG E2 x.sn x.sn) (sG E3 x.wn x.wn) (sG E4 x.hn x.hn)/\Below w.heap.size w w1/\w.heap.size+2<=w1.heap.size):=⟨X0.1.bw b1',X0.2.1.bw b1',X0.2.2.1.trans (b1'.mono X0.2.2.1.size),zO X0.2.2.2 b1'.size⟩
 have BE1:Hid (Below w.heap.size w w1):=X1.2.2.1;clear X0 b1';obtain ⟨⟨p0,p1,p2,p3⟩,⟨q0,q1,q2,q3⟩,-,le⟩:=X1.out;go_wp2_with fail
 clear p0 p1 p2 p3 q0 q1 q2 q3 le;refine (qkw D2 h2 E2 g2 x.sn _ _ x.sS vs us _ (SysIn.lens HS.out).2.1.1 (SysIn.lensS HS.out) (S1.bw BE1.out S1.le) (S2.bw BE1.out S2.le)).mono ?_;rintro e w2 ⟨rfl,b2'⟩;have X2:Hid (BoxC w2 w.heap.size (sG D1 x.pn x.pn) (sG D2 x.sn x.sn) (sG D3 x.wn x.wn) (sG D4 x.hn x.hn)/\BoxC w2 (w.heap.size+1) (sG E1 x.pn x.pn) (sG E2 x.sn x.sn) (sG E3 x.wn x.wn) (sG E4 x.hn x.hn)/\Below w.heap.size w w2/\w.heap.size+2<=w2.heap.size):=⟨X1.1.bw b2',X1.2.1.bw b2',X1.2.2.1.trans (b2'.mono X1.2.2.1.size),zO X1.2.2.2 b2'.size⟩
 have BE2:Hid (Below w.heap.size w w2):=X2.2.2.1;clear X1 b2' BE1;obtain ⟨⟨p0,p1,p2,p3⟩,⟨q0,q1,q2,q3⟩,-,le⟩:=X2.out;go_wp2_with fail
 clear p0 p1 p2 p3 q0 q1 q2 q3 le;refine (qku D3 h3 E3 g3 x.wn _ _ x.wL b3 c3 x.wH _ (SysIn.lens HS.out).2.2.1.1 (qc7 (SysIn.lens HS.out).2.2.1.2) (W1.bw BE2.out W1.le) (W2.bw BE2.out W2.le)).mono ?_;rintro e w3 ⟨rfl,b3'⟩;have X3:Hid (BoxC w3 w.heap.size (sG D1 x.pn x.pn) (sG D2 x.sn x.sn) (sG D3 x.wn x.wn) (sG D4 x.hn x.hn)/\BoxC w3 (w.heap.size+1) (sG E1 x.pn x.pn) (sG E2 x.sn x.sn) (sG E3 x.wn x.wn) (sG E4 x.hn x.hn)/\Below w.heap.size w w3/\w.heap.size+2<=w3.heap.size):=⟨X2.1.bw b3',X2.2.1.bw b3',X2.2.2.1.trans (b3'.mono X2.2.2.1.size),zO X2.2.2.2 b3'.size⟩
 have BE3:Hid (Below w.heap.size w w3):=X3.2.2.1;clear X2 b3' BE2;obtain ⟨⟨p0,p1,p2,p3⟩,⟨q0,q1,q2,q3⟩,-,le⟩:=X3.out;go_wp2_with fail
 clear p0 p1 p2 p3 q0 q1 q2 q3 le;refine (qjb D4 u1 E4 u2 x.hn _ _ x.hL b4 c4 x.hH _ (SysIn.lens HS.out).2.2.2.1 (qc7 (SysIn.lens HS.out).2.2.2.2) (I1.bw BE3.out I1.le) (I2.bw BE3.out I2.le)).mono ?_;rintro e w4 ⟨rfl,b4'⟩;have X4:Hid (BoxC w4 w.heap.size (sG D1 x.pn x.pn) (sG D2 x.sn x.sn) (sG D3 x.wn x.wn) (sG D4 x.hn x.hn)/\BoxC w4 (w.heap.size+1) (sG E1 x.pn x.pn) (sG E2 x.sn x.sn) (sG E3 x.wn x.wn) (sG E4 x.hn x.hn)/\Below w.heap.size w w4/\w.heap.size+2<=w4.heap.size):=⟨X3.1.bw b4',X3.2.1.bw b4',X3.2.2.1.trans (b4'.mono X3.2.2.1.size),zO X3.2.2.2 b4'.size⟩
 have BE4:Hid (Below w.heap.size w w4):=X4.2.2.1;clear X3 b4' BE3;go_wp2;go_ret;exact ⟨rfl,BE4.out⟩
structure MkY (w wx:World) (lo hi D1 D2 D3 D4:Nat) (x:SysIn):Prop where
 tch:qaa (fun b=>lo<=b/\b<hi) w wx
 bx:BoxC wx w.heap.size (sG D1 x.pn x.pn) (sG D2 x.sn x.sn) (sG D3 x.wn x.wn) (sG D4 x.hn x.hn)
 lt:w.heap.size<wx.heap.size
theorem MkY.step {w wx w':World} {lo hi D1 D2 D3 D4:Nat} {x:SysIn} (h:MkY w wx lo hi D1 D2 D3 D4 x) (hh:hi<=w.heap.size) {P:Nat->Prop} (ht:qaa P wx w') (hp:∀ b,P b->lo<=b/\b<hi):MkY w w' lo hi D1 D2 D3 D4 x:=by
 refine ⟨h.tch.trans (ht.mono hp),?_,zL h.lt ht.size⟩;obtain ⟨h0,h1,h2,h3⟩:=h.bx;have hc:∀ i,w'.cell? ⟨w.heap.size,i,none⟩=wx.cell? ⟨w.heap.size,i,none⟩:=fun i=>ht.cell h.lt (fun e=>by have:=hp _ e;omega) i;exact ⟨(hc _).trans h0,(hc _).trans h1,(hc _).trans h2,(hc _).trans h3⟩
def rcol (c:Nat->Nat) (n q:Nat):Nat->Nat:=fun k=>if k<n then c k else q
theorem qf0 {c:Nat->Nat} {n q k:Nat} (h:k<n):rcol c n q k=c k:=nC h
theorem qeo {c:Nat->Nat} {n q k:Nat} (h:n<=k):rcol c n q k=q:=nB (by omega)
theorem Cl.old {B:Nat} {c:Nat->Nat} {n q i k:Nat} (h:Cl B c i k) (hk:k<n):Cl B (rcol c n q) i k:=⟨h.1,(qf0 hk).trans h.2⟩
structure CpB (B N:Nat) (c:Nat->Nat) (y:Sy) (ks kw:Nat) (wx:World) (vp vs vw vh:Value) (up us uw uh:Nat->Value):Prop where
 bx:BoxC wx N vp vs vw vh
 fr:∀ j,wx.frozen? ⟨N,j,none⟩=false
 cN:c N=0
 bN:B<=N
 o:OwnS true wx B c { y with sn:=ks,wn:=kw } vp vs vw vh up us uw uh
section
variable {B N:Nat} {c:Nat->Nat} {y:Sy} {ks kw:Nat} {wr:World} {vp vs vw vh:Value} {up us uw uh:Nat->Value}
theorem CpB.lt (h:CpB B N c y ks kw wr vp vs vw vh up us uw uh):N<wr.heap.size:=zJ wr _ h.bx.1
theorem CpB.state (h:CpB B N c y ks kw wr vp vs vw vh up us uw uh) {w1 w3:World} {u' v':Value} (b1:Below wr.heap.size wr w1) (hu:qag w1 wr.heap.size u' (y.sS ks).p (y.sS ks).rs (y.sS ks).os (y.sS ks).c) (hv:w3.ownsRow 0 142 4 v' (ks+1) (flat (fun i=>cellsL (us i)) ks ++ cellsL u')) (g:w1.grownBy w3 vs.ownBlock) (hv':∀ j,v'.ownBlock=some j->vs.ownBlock=some j\/w1.heap.size<=j):
  CpB B N (rcol c wr.heap.size 2) y (ks+1) kw (w3.setCell ⟨N,1,none⟩ v') vp v' vw vh up (fun j=>if j=ks then u' else us j) uw uh:=by
 have hN:=h.lt;have hkeep:∀ k,k<wr.heap.size->c k≠2->w3.heap[k]? = wr.heap[k]?:=fun k hk hc=>(g.block k (zL hk b1.size) fun e=>hc (h.o.s.rb k e.symm).2).trans (b1.block k hk);have hset:∀ k,k≠N->(w3.setCell ⟨N,1,none⟩ v').heap[k]? = w3.heap[k]?:=fun k hk=>zN _ _ _ _ hk;have hcN:rcol c wr.heap.size 2 N=0:=(qf0 hN).trans h.cN;have hBN:w3.heap[N]? = wr.heap[N]?:=hkeep N hN (by rw [h.cN];decide)
 have hkk:∀ i,i≠2->i≠0->∀ k,Cl B (rcol c wr.heap.size 2) i k->k<wr.heap.size->(w3.setCell ⟨N,1,none⟩ v').heap[k]? = wr.heap[k]?:=fun i h2 h0 k hk hl=>by
  have e:c k=i:=(qf0 hl).symm.trans hk.2;exact (hset k fun en=>h0 (by rw [<- e,en,h.cN])).trans (hkeep k hl (by rw [e];exact h2))
 have hP:∀ i k,Cl B c i k->k<wr.heap.size->Cl B (rcol c wr.heap.size 2) i k:=fun i k hk hl=>hk.old hl;have hP':∀ k,wr.heap.size<=k->k<w3.heap.size->Cl B (rcol c wr.heap.size 2) 2 k:=fun k hk _=>⟨zO h.bN (zO (nJ hN) hk),qeo hk⟩
 obtain ⟨x0,x1,x2,x3⟩:=h.bx;have hc:∀ j,w3.cell? ⟨N,j,none⟩=wr.cell? ⟨N,j,none⟩:=fun j=>zH hBN
 have hnew:∀ k,Cl B (rcol c wr.heap.size 2) 2 k->k<w3.heap.size->(w3.setCell ⟨N,1,none⟩ v').heap[k]? = w3.heap[k]?:=fun k hk _=>hset k fun e=>by
  have e2:=hk.2;rw [e,hcN] at e2;cases e2
 refine ⟨⟨?_,?_,?_,?_⟩,fun j=>?_,hcN,h.bN,⟨?_,?_,?_,?_⟩⟩
 ·rw [World.cell?_setCell_other _ _ _ _ (by simp),hc];exact x0
 ·exact World.cell?_setCell_same _ _ _ ((hc 1).trans x1)
 ·rw [World.cell?_setCell_other _ _ _ _ (by simp),hc];exact x2
 ·rw [World.cell?_setCell_other _ _ _ _ (by simp),hc];exact x3
 ·rw [World.frozen?_setCell,zI hBN];exact h.fr j
 ·exact (h.o.p.mono (hP 1)).keep (hkk 1 (by decide) (by decide))
 ·exact (h.o.s.push b1 hu hv g hv' (hP 2) hP').keep hnew
 ·exact (h.o.t.mono (hP 3)).keep (hkk 3 (by decide) (by decide))
 ·exact (h.o.h.mono (hP 4)).keep (hkk 4 (by decide) (by decide))
theorem CpB.way (h:CpB B N c y ks kw wr vp vs vw vh up us uw uh) {w1 w3:World} {u' v':Value} (b1:Below wr.heap.size wr w1) (hu:w1.ownsRow wr.heap.size 74 2 u' (y.wL kw) (fT (y.wH kw) (y.wL kw))) (hne:u'≠nS) (hv:w3.ownsRow 0 72 1 v' (kw+1) ((List.range kw).map uw ++ [u'])) (g:w1.grownBy w3 vw.ownBlock) (hv':∀ j,v'.ownBlock=some j->vw.ownBlock=some j\/w1.heap.size<=j):
  CpB B N (rcol c wr.heap.size 3) y ks (kw+1) (w3.setCell ⟨N,2,none⟩ v') vp vs v' vh up us (fun j=>if j=kw then u' else uw j) uh:=by
 have hN:=h.lt;have hkeep:∀ k,k<wr.heap.size->c k≠3->w3.heap[k]? = wr.heap[k]?:=fun k hk hc=>(g.block k (zL hk b1.size) fun e=>hc (h.o.t.rb k e.symm).2).trans (b1.block k hk);have hset:∀ k,k≠N->(w3.setCell ⟨N,2,none⟩ v').heap[k]? = w3.heap[k]?:=fun k hk=>zN _ _ _ _ hk;have hcN:rcol c wr.heap.size 3 N=0:=(qf0 hN).trans h.cN;have hBN:w3.heap[N]? = wr.heap[N]?:=hkeep N hN (by rw [h.cN];decide)
 have hkk:∀ i,i≠3->i≠0->∀ k,Cl B (rcol c wr.heap.size 3) i k->k<wr.heap.size->(w3.setCell ⟨N,2,none⟩ v').heap[k]? = wr.heap[k]?:=fun i h2 h0 k hk hl=>by
  have e:c k=i:=(qf0 hl).symm.trans hk.2;exact (hset k fun en=>h0 (by rw [<- e,en,h.cN])).trans (hkeep k hl (by rw [e];exact h2))
 have hP:∀ i k,Cl B c i k->k<wr.heap.size->Cl B (rcol c wr.heap.size 3) i k:=fun i k hk hl=>hk.old hl;have hP':∀ k,wr.heap.size<=k->k<w3.heap.size->Cl B (rcol c wr.heap.size 3) 3 k:=fun k hk _=>⟨zO h.bN (zO (nJ hN) hk),qeo hk⟩
 obtain ⟨x0,x1,x2,x3⟩:=h.bx;have hc:∀ j,w3.cell? ⟨N,j,none⟩=wr.cell? ⟨N,j,none⟩:=fun j=>zH hBN
 have hnew:∀ k,Cl B (rcol c wr.heap.size 3) 3 k->k<w3.heap.size->(w3.setCell ⟨N,2,none⟩ v').heap[k]? = w3.heap[k]?:=fun k hk _=>hset k fun e=>by
  have e2:=hk.2;rw [e,hcN] at e2;cases e2
 refine ⟨⟨?_,?_,?_,?_⟩,fun j=>?_,hcN,h.bN,⟨?_,?_,?_,?_⟩⟩
 ·rw [World.cell?_setCell_other _ _ _ _ (by simp),hc];exact x0
 ·rw [World.cell?_setCell_other _ _ _ _ (by simp),hc];exact x1
 ·exact World.cell?_setCell_same _ _ _ ((hc 2).trans x2)
 ·rw [World.cell?_setCell_other _ _ _ _ (by simp),hc];exact x3
 ·rw [World.frozen?_setCell,zI hBN];exact h.fr j
 ·exact (h.o.p.mono (hP 1)).keep (hkk 1 (by decide) (by decide))
 ·exact (h.o.s.mono (hP 2)).keep (hkk 2 (by decide) (by decide))
 ·exact (h.o.t.push b1 hu (fun _=>hne) hv g hv' (hP 3) hP').keep hnew
 ·exact (h.o.h.mono (hP 4)).keep (hkk 4 (by decide) (by decide))
end
theorem CpB.start {B l5 l6 N:Nat} {w5 w6 wf:World} {x:SysIn} {vp vh:Value} {up uh:Nat->Value} (o5:LI true w5 (fun k=>l5<=k/\k<w5.heap.size) vp x.pn up x.pL x.pH) (o6:LE true w6 (fun k=>l6<=k/\k<w6.heap.size) vh x.hn uh x.hL x.hH) (hb:Below w5.heap.size w5 w6) (h5:B<=l5) (h6:w5.heap.size<=l6) (h56:B<=w5.heap.size) (h55:l5<=w5.heap.size)
  (hN:N<l5\/(w5.heap.size<=N/\N<l6)\/w6.heap.size<=N) (hBN:B<=N) (hf:∀ k,k<w6.heap.size->k≠N->wf.heap[k]? = w6.heap[k]?) (hbx:BoxC wf N vp nS nS vh) (hfr:∀ j,wf.frozen? ⟨N,j,none⟩=false):
  ∃ c vp vh up uh,CpB B N c x.y 0 0 wf vp nS nS vh up (fun _=>.slice none 0 0) (fun _=>.slice none 0 0) uh:=by
 have hs:=hb.size
 have hc0:∀ k,Cl B (fun k=>if k=N then 0 else if k<w5.heap.size then 1 else 4) 1 k\/Cl B (fun k=>if k=N then 0 else if k<w5.heap.size then 1 else 4) 4 k->k≠N:=fun k hk e=>by
  rcases hk with hk | hk
  ·have e2:(if k=N then 0 else if k<w5.heap.size then 1 else 4)=1:=hk.2
   rw [nC e] at e2;cases e2
  ·have e2:(if k=N then 0 else if k<w5.heap.size then 1 else 4)=4:=hk.2
   rw [nC e] at e2;cases e2
 have g5 : LI true w5 (Cl B (fun k => if k = N then 0 else if k < w5.heap.size then 1 else 4) 1) vp x.pn up x.pL x.pH := o5.mono fun k hk _ => ⟨by omega, by
  show (if k=N then 0 else if k<w5.heap.size then 1 else 4)=1
  rw [nB (by omega),nC hk.2]⟩
 have g6 : LE true w6 (Cl B (fun k => if k = N then 0 else if k < w5.heap.size then 1 else 4) 4) vh x.hn uh x.hL x.hH := o6.mono fun k hk _ => ⟨by omega, by
  show (if k=N then 0 else if k<w5.heap.size then 1 else 4)=4
  rw [nB (by omega),nB (by omega)]⟩
 exact ⟨fun k=>if k=N then 0 else if k<w5.heap.size then 1 else 4,vp,vh,up,uh,hbx,hfr,nC rfl,hBN,⟨g5.keep fun k hk hl=>(hf k (by omega) (hc0 k (.inl hk))).trans (hb.block k hl),LS.nil _ _ _ _,LL.nil _ _ _ _ _ _ _ _,g6.keep fun k hk hl=>hf k hl (hc0 k (.inr hk))⟩⟩
theorem qtf (x:SysIn) (w:World) (hG:SysG w x) (hL:x.Len):
  Calls prog 44 #[x.v] w fun e w'=>∃ v,e=.returned v/\qbj true w' w.heap.size x.y v/\Below w.heap.size w w':=by
 have HG:Hid (SysG w x):=hG;have HL:Hid x.Len:=hL;have hsn':(x.sn:Int)<=1048576:=by have:=hL.s.1;omega
 have hwn':(x.wn:Int)<=1048576:=by have:=hL.w.1;omega
 have BW:Hid (Below w.heap.size w ((w.alloc (oQ4 x.pa x.pn x.pc x.sa x.sn x.sc x.wa x.wn x.wc x.ha x.hn x.hc)).alloc (zQ2))):=(zP _ _).trans ((zP _ _).mono (by simp));have NB:Hid (BoxC ((w.alloc (oQ4 x.pa x.pn x.pc x.sa x.sn x.sc x.wa x.wn x.wc x.ha x.hn x.hc)).alloc (zQ2)) w.heap.size (.slice x.pa x.pn x.pc) (.slice x.sa x.sn x.sc) (.slice x.wa x.wn x.wc) (.slice x.ha x.hn x.hc)):=(BoxC.new w _ _ _ _ _).bw (zP _ _);have RB:Hid (BoxC ((w.alloc (oQ4 x.pa x.pn x.pc x.sa x.sn x.sc x.wa x.wn x.wc x.ha x.hn x.hc)).alloc (zQ2)) (w.heap.size+1) nS nS nS nS/\∀ j,((w.alloc (oQ4 x.pa x.pn x.pc x.sa x.sn x.sc x.wa x.wn x.wc x.ha x.hn x.hc)).alloc (zQ2)).frozen? ⟨w.heap.size+1,j,none⟩=false):=⟨⟨zV _ _ _ 0 (by simp),zV _ _ _ 1 (by simp),zV _ _ _ 2 (by simp),zV _ _ _ 3 (by simp)⟩,fun j=>yA _ _ _ _ (by simp)⟩
 have hz:((w.alloc (oQ4 x.pa x.pn x.pc x.sa x.sn x.sc x.wa x.wn x.wc x.ha x.hn x.hc)).alloc (zQ2)).heap.size=w.heap.size+2:=by simp
 clear hG hL
 go_enter func44,ntmps44
 go_wp2_with fail
 generalize (w.alloc (oQ4 x.pa x.pn x.pc x.sa x.sn x.sc x.wa x.wn x.wc x.ha x.hn x.hc)).alloc (zQ2)=W2 at *;obtain ⟨b0,b1,b2,b3⟩:=NB.out;have d1:W2.heap.size≠w.heap.size:=by omega
 have hl0:w.heap.size<W2.heap.size:=by omega
 have hl1:w.heap.size+1<W2.heap.size:=by omega
 have hl2:Hid (w.heap.size<=W2.heap.size):=by show w.heap.size<=W2.heap.size;omega
 clear hz
 have HP : Hid (∀ wx, Below W2.heap.size W2 wx → (RowS wx x.pa x.pn fun i => .slice (x.pA i) (x.pL i) (x.pC i)) ∧ ∀ i, i < x.pn → Src wx (x.pA i) (fI (x.pH i) (x.pL i))) := fun wx hb => ⟨(HG.bw (BW.trans (hb.mono BW.size))).p, fun i hi => by
  obtain ⟨b,e,hlt,hI⟩:=(HG.bw (BW.trans (hb.mono BW.size))).pi i hi;rw [e]
  exact srcI hlt hI⟩
 have HH:Hid (∀ wx,Below W2.heap.size W2 wx->(RowS wx x.ha x.hn fun i=>.slice (x.hA i) (x.hL i) (x.hC i))/\∀ i,i<x.hn->Src wx (x.hA i) (fE (x.hH i) (x.hL i))):=fun wx hb=>⟨(HG.bw (BW.trans (hb.mono BW.size))).h,fun i hi=>srcE ((HG.bw (BW.trans (hb.mono BW.size))).hi i hi)⟩
 go_cut [3] from 6 to 12 (fun s wx=>∃ N:Nat,s=.pointer (some ⟨N,0,none⟩)/\Hid ((∃ c vp vh up uh,CpB W2.heap.size N c x.y 0 0 wx vp nS nS vh up (fun _=>nS) (fun _=>nS) uh)/\Below W2.heap.size W2 wx))
 case first=>
  refine qa1 (fun w'=>w'.cell? ⟨w.heap.size,0,none⟩=some (.slice x.pa x.pn x.pc)/\w'.cell? ⟨w.heap.size,3,none⟩=some (.slice x.ha x.hn x.hc)) (fun i=>i == 8) (by kernel_rfl) ?_;have hHeld:=And.intro b0 b3;refine qcn [0,1,3,4] ?_;iterate 4 (refine qdl rfl hHeld ?_)
  refine qb0 ?_;refine qmg 2 7 rfl rfl (by kernel_rfl) (fun K hK=>?_) (fun K hK=>?_)
  ·refine qas rfl 106 _ _ rfl #[.slice x.pa x.pn x.pc] (by simp [Act.eval]) (zZ func106) (qnq x.pa x.pn x.pc x.pA x.pL x.pC x.pH (W2.drew) HL.p.1 HL.p.2 (HP.out _ (nE _ _).drew).1 (HP.out _ (nE _ _).drew).2) ?_
   rintro e w5 ⟨v5,u5,rfl,o5,b5⟩;obtain ⟨a5,c5,rfl⟩:=zT o5.row;refine ⟨_,rfl,?_⟩;have q5:Below W2.heap.size W2 w5:=qai (nE _ _).drew b5 (by simp);have y0:=(q5.cell (p:=⟨w.heap.size,0,none⟩) hl0).trans b0;have y3:=(q5.cell (p:=⟨w.heap.size,3,none⟩) hl0).trans b3;have z5:=q5.size;refine hK.out _ _ (fun _=>⟨y0,y3⟩) ?_;have hHeld:=And.intro y0 y3;clear hK K
   (try simp only [Act.put,zD,zE,zF])
   refine qmg 5 7 rfl rfl (by kernel_rfl) (fun K hK=>?_) (fun K hK=>?_)
   ·refine qas rfl 107 _ _ rfl #[.slice x.ha x.hn x.hc] (by simp [Act.eval]) (zZ func107) (qd2 x.ha x.hn x.hc x.hA x.hL x.hC x.hH (w5) HL.h.1 HL.h.2 (HH.out _ (q5.trans ((nE w5.heap.size w5).mono q5.size))).1 (HH.out _ (q5.trans ((nE w5.heap.size w5).mono q5.size))).2) ?_
    rintro e w6 ⟨v6,u6,rfl,o6,b6⟩;obtain ⟨a6,c6,rfl⟩:=zT o6.row;refine ⟨_,rfl,?_⟩;have p6:Below w5.heap.size w5 w6:=qai (nE w5.heap.size w5) b6 (by simp);have q6:Below W2.heap.size W2 w6:=q5.trans (p6.mono q5.size);have x0:=(q6.cell (p:=⟨w.heap.size,0,none⟩) hl0).trans b0;have x3:=(q6.cell (p:=⟨w.heap.size,3,none⟩) hl0).trans b3;have z6:=p6.size;refine hK.out _ _ (fun _=>⟨x0,x3⟩) ?_;have hHeld:=And.intro x0 x3;clear hK K;refine qgu 6 rfl hHeld ?_;refine yW 7 rfl fun K hK=>?_;go_simp;have t0:(w6.alloc (zQ2)).cell? ⟨w.heap.size,0,none⟩=some (.slice x.pa x.pn x.pc):=((zP w6 _).cell (p:=⟨w.heap.size,0,none⟩) (zL hl0 q6.size)).trans x0;have t3:(w6.alloc (zQ2)).cell? ⟨w.heap.size,3,none⟩=some (.slice x.ha x.hn x.hc):=((zP w6 _).cell (p:=⟨w.heap.size,3,none⟩) (zL hl0 q6.size)).trans x3;refine hK.out _ _ (fun _=>⟨t0,t3⟩) ?_;clear hK K
    (try simp only [Act.put,zD,zE,zF])
    refine yW 8 rfl fun K hK=>?_;go_simp;refine hK.out _ _ (fun h=>?_) ?_
    ·exact absurd h (by decide)
    clear hK K
    (try simp only [Act.put])
    refine yX ?_ _;go_wp2_with fail
    go_meet
    case rel=>
     exact ⟨w6.heap.size,by with_reducible rfl,CpB.start (l5:=W2.heap.size) (by simpa using o5) o6 p6 (by omega) (by omega) (by omega) (by omega) (by omega) (by omega) (fun k hk _=>(zP w6 _).block k hk) (BoxC.new _ _ _ _ _ _) (fun j=>yA _ _ _ _ rfl),q6.trans ((zP _ _).mono q6.size)⟩
   ·go_simp
    have t0:(w5.alloc (zQ2)).cell? ⟨w.heap.size,0,none⟩=some (.slice x.pa x.pn x.pc):=((zP w5 _).cell (p:=⟨w.heap.size,0,none⟩) (zL hl0 q5.size)).trans y0;have t3:(w5.alloc (zQ2)).cell? ⟨w.heap.size,3,none⟩=some (.slice x.ha x.hn x.hc):=((zP w5 _).cell (p:=⟨w.heap.size,3,none⟩) (zL hl0 q5.size)).trans y3;refine hK.out _ _ (fun _=>⟨t0,t3⟩) ?_;clear hK K
    (try simp only [Act.put,zD,zE,zF])
    refine yW 5 rfl fun K hK=>?_;refine qas rfl 107 _ _ rfl #[.slice x.ha x.hn x.hc] (by simp [Act.eval]) (zZ func107) (qd2 x.ha x.hn x.hc x.hA x.hL x.hC x.hH (w5.alloc (zQ2)) HL.h.1 HL.h.2 (HH.out _ (q5.trans ((zP w5 (zQ2)).mono q5.size))).1 (HH.out _ (q5.trans ((zP w5 (zQ2)).mono q5.size))).2) ?_;rintro e w6 ⟨v6,u6,rfl,o6,b6⟩;obtain ⟨a6,c6,rfl⟩:=zT o6.row;refine ⟨_,rfl,?_⟩;have p6:Below w5.heap.size w5 w6:=qai (zP w5 (zQ2)) b6 (by simp);have q6:Below W2.heap.size W2 w6:=q5.trans (p6.mono q5.size);have x0:=(q6.cell (p:=⟨w.heap.size,0,none⟩) hl0).trans b0;have x3:=(q6.cell (p:=⟨w.heap.size,3,none⟩) hl0).trans b3;have z6:=p6.size;refine hK.out _ _ (fun _=>⟨x0,x3⟩) ?_;have hHeld:=And.intro x0 x3;clear hK K
    (try simp only [Act.put,zD,zE,zF])
    have bx:=(BoxC.new w5 nS nS nS nS 41).bw b6;obtain ⟨g0,g1,g2,g3⟩:=bx;have gf:∀ j,w6.frozen? ⟨w5.heap.size,j,none⟩=false:=fun j=>((qap b6).2 _ _ (by simp)).trans (yA _ _ _ _ rfl);refine qgu 6 rfl hHeld ?_;refine yW 8 rfl fun K hK=>?_;go_simp;refine hK.out _ _ (fun h=>?_) ?_
    ·exact absurd h (by decide)
    clear hK K
    (try simp only [Act.put])
    refine yX ?_ _;go_wp2_with fail
    go_meet
    case rel=>
     exact ⟨w5.heap.size,by with_reducible rfl,CpB.start (l5:=W2.heap.size) (l6:=w5.heap.size+1) (by simpa using o5) (by simpa using o6) p6 (by omega) (by omega) (by omega) (by omega) (by omega) (by omega) (fun k hk hne=>by repeat (rw [zN _ _ _ _ hne])) (BoxC.set4 ⟨g0,g1,g2,g3⟩ _ _ _ _) (fun j=>by simp only [World.frozen?_setCell];exact gf j),(((q6.setCell q5.size _).setCell q5.size _).setCell q5.size _).setCell q5.size _⟩
  ·go_simp
   have t0:(W2.drew.alloc (zQ2)).cell? ⟨w.heap.size,0,none⟩=some (.slice x.pa x.pn x.pc):=((zP W2.drew _).cell (p:=⟨w.heap.size,0,none⟩) hl0).trans b0;have t3:(W2.drew.alloc (zQ2)).cell? ⟨w.heap.size,3,none⟩=some (.slice x.ha x.hn x.hc):=((zP W2.drew _).cell (p:=⟨w.heap.size,3,none⟩) hl0).trans b3;refine hK.out _ _ (fun _=>⟨t0,t3⟩) ?_;clear hK K
   (try simp only [Act.put,zD,zE,zF])
   refine yW 2 rfl fun K hK=>?_;refine qas rfl 106 _ _ rfl #[.slice x.pa x.pn x.pc] (by simp [Act.eval]) (zZ func106) (qnq x.pa x.pn x.pc x.pA x.pL x.pC x.pH (W2.drew.alloc (zQ2)) HL.p.1 HL.p.2 (HP.out _ ((nE W2.heap.size W2).drew.trans (zP W2.drew (zQ2)))).1 (HP.out _ ((nE W2.heap.size W2).drew.trans (zP W2.drew (zQ2)))).2) ?_;rintro e w5 ⟨v5,u5,rfl,o5,b5⟩;obtain ⟨a5,c5,rfl⟩:=zT o5.row;refine ⟨_,rfl,?_⟩;have q5:Below W2.heap.size W2 w5:=qai ((nE W2.heap.size W2).drew.trans (zP W2.drew (zQ2))) b5 (by simp);have y0:=(q5.cell (p:=⟨w.heap.size,0,none⟩) hl0).trans b0;have y3:=(q5.cell (p:=⟨w.heap.size,3,none⟩) hl0).trans b3;have z5:=q5.size;refine hK.out _ _ (fun _=>⟨y0,y3⟩) ?_;have hHeld:=And.intro y0 y3;clear hK K
   (try simp only [Act.put,zD,zE,zF])
   have zc:W2.heap.size+1<=w5.heap.size:=by have:=b5.size;simpa using this
   refine yW 5 rfl fun K hK=>?_;refine qas rfl 107 _ _ rfl #[.slice x.ha x.hn x.hc] (by simp [Act.eval]) (zZ func107) (qd2 x.ha x.hn x.hc x.hA x.hL x.hC x.hH (w5) HL.h.1 HL.h.2 (HH.out _ (q5.trans ((nE w5.heap.size w5).mono q5.size))).1 (HH.out _ (q5.trans ((nE w5.heap.size w5).mono q5.size))).2) ?_;rintro e w6 ⟨v6,u6,rfl,o6,b6⟩;obtain ⟨a6,c6,rfl⟩:=zT o6.row;refine ⟨_,rfl,?_⟩;have p6:Below w5.heap.size w5 w6:=qai (nE w5.heap.size w5) b6 (by simp);have q6:Below W2.heap.size W2 w6:=q5.trans (p6.mono q5.size);have x0:=(q6.cell (p:=⟨w.heap.size,0,none⟩) hl0).trans b0;have x3:=(q6.cell (p:=⟨w.heap.size,3,none⟩) hl0).trans b3;have z6:=p6.size;refine hK.out _ _ (fun _=>⟨x0,x3⟩) ?_;have hHeld:=And.intro x0 x3;clear hK K
   (try simp only [Act.put,zD,zE,zF])
   have bx:BoxC w6 W2.heap.size nS nS nS nS:=((BoxC.new W2.drew nS nS nS nS 41).bw b5).bw b6;obtain ⟨g0,g1,g2,g3⟩:=bx;have gf:∀ j,w6.frozen? ⟨W2.heap.size,j,none⟩=false:=fun j=>((qap b6).2 _ _ (by omega)).trans (((qap b5).2 _ _ (by simp)).trans (yA _ _ _ _ rfl));refine qgu 6 rfl hHeld ?_;refine yW 8 rfl fun K hK=>?_;go_simp;refine hK.out _ _ (fun h=>?_) ?_
   ·exact absurd h (by decide)
   clear hK K
   (try simp only [Act.put])
   refine yX ?_ _;go_wp2_with fail
   go_meet
   case rel=>
    exact ⟨W2.heap.size,by with_reducible rfl,CpB.start (l5:=W2.heap.size+1) (by simpa using o5) o6 p6 (by omega) (by omega) (by omega) (by omega) (by omega) (by omega) (fun k hk hne=>by repeat (rw [zN _ _ _ _ hne])) (BoxC.set4 ⟨g0,g1,g2,g3⟩ _ _ _ _) (fun j=>by simp only [World.frozen?_setCell];exact gf j),(((q6.setCell (nA _) _).setCell (nA _) _).setCell (nA _) _).setCell (nA _) _⟩
 case rest=>
  obtain ⟨N,rfl,HC⟩:=hcut;clear b0 b1 b2 b3 HP HH;go_wp2_with fail
  go_loopw [4] (fun i wr=>∃ k:Nat,k<=x.sn/\i=.int .i64 k/\Hid ((∃ c vp vs vh up us uh,CpB W2.heap.size N c x.y k 0 wr vp vs nS vh up us (fun _=>nS) uh)/\Below W2.heap.size W2 wr)) (fun i _=>x.sn - (intOf i).toNat)
  case atStart=>
   obtain ⟨⟨c,vp,vh,up,uh,cp⟩,bz⟩:=HC.out;exact ⟨0,nD _,rfl,⟨c,vp,_,vh,up,_,uh,cp⟩,bz⟩
  case round=>
   obtain ⟨k,hk,rfl,HZ⟩:=hrel;clear HC;by_cases hlt:k<x.sn
   ·have hlt':(k:Int)<(x.sn:Int):=by omega
    obtain ⟨⟨c,vp,vs,vh,up,us,uh,cp⟩,bz⟩:=HZ.out;obtain ⟨sa',sc',rfl⟩:=zT cp.o.s.row;obtain ⟨x0,x1,x2,x3⟩:=cp.bx;have xf:=cp.fr;have hN:=cp.lt;obtain ⟨b0,b1,b2,b3⟩:=NB.bw bz;obtain ⟨bs,os,es,s0,s1,s2,s3⟩:=(HG.bw (BW.trans (bz.mono BW.size))).s.at hlt
    have hbs:bs<w.heap.size:=by
     obtain ⟨bs',os',es',s0',-⟩:=HG.s.at hlt;rw [es] at es';cases es';exact zJ w _ s0'
    have hls:=(HG.bw (BW.trans (bz.mono BW.size))).s.lst k hlt;have HLk:=HL.s.2 k hlt;rw [es] at b1;have CP:Hid (CpB W2.heap.size N c x.y k 0 wr vp (.slice sa' k sc') nS vh up us (fun _=>nS) uh):=cp;have LSt:Hid (Sl wr (x.sQ k).ra (x.sQ k).rs/\Sl wr (x.sQ k).oa (x.sQ k).os):=hls;have BZ:Hid (Below W2.heap.size W2 wr):=bz;have hbw:bs<wr.heap.size:=by have:=bz.size;omega
    have hb0w:w.heap.size<wr.heap.size:=by have:=bz.size;omega
    have hsaN : ∀ j, (Value.slice sa' k sc').ownBlock = some j → W2.heap.size ≤ j ∧ j ≠ N := fun j hj => ⟨(cp.o.s.rb j hj).1, fun e => by
     have h2:=(cp.o.s.rb j hj).2;rw [e,cp.cN] at h2
     cases h2⟩
    have HSA:Hid (∀ j,(Value.slice sa' k sc').ownBlock=some j->W2.heap.size<=j/\j≠N):=hsaN;have HE:Hid (x.sa=some ⟨bs,os,none⟩):=es;clear cp bz hls HZ hsaN es;go_wp2_with fail
    refine qa1 (fun w'=>w'.cell? ⟨N,1,none⟩=some (.slice sa' k sc')/\w'.cell? ⟨w.heap.size,1,none⟩=some (.slice (some ⟨bs,os,none⟩) x.sn x.sc)/\w'.cell? ⟨bs,os+k*4,none⟩=some (.int .i64 (x.sQ k).p)/\w'.cell? ⟨bs,os+k*4+1,none⟩=some (.slice (x.sQ k).ra (x.sQ k).rs.length (x.sQ k).rc)/\w'.cell? ⟨bs,os+k*4+2,none⟩=some (.slice (x.sQ k).oa (x.sQ k).os.length (x.sQ k).oc)/\w'.cell? ⟨bs,os+k*4+3,none⟩=some (.int .i64 (x.sQ k).c)) (fun i=>i == 11) (by kernel_rfl) ?_;have hHeld:=And.intro x1 (And.intro b1 (And.intro s0 (And.intro s1 (And.intro s2 s3))));refine qcn [0,1,2,3,4,5,6] ?_;iterate 7 (refine qdl rfl hHeld ?_)
    refine qb0 ?_;refine yW 7 rfl fun K hK=>?_;refine qas rfl 108 _ _ rfl #[stV (x.sQ k).p (x.sQ k).ra (x.sQ k).rs.length (x.sQ k).rc (x.sQ k).oa (x.sQ k).os.length (x.sQ k).oc (x.sQ k).c] (by simp [Act.eval]) (zZ func108) (qbz _ _ _ _ _ _ (x.sQ k).rs (x.sQ k).os wr.drew HLk.1 HLk.2 LSt.1 LSt.2) ?_;rintro e w1 ⟨v1,rfl,o1,d1'⟩;refine ⟨_,rfl,?_⟩;obtain ⟨ra1,rc1,oa1,oc1,rfl,-,-⟩:=o1.read;have q1:Below wr.heap.size wr w1:=(nE wr.heap.size wr).drew.trans d1';have O1:Hid (qag w1 wr.heap.size (stV (x.sQ k).p ra1 (x.sQ k).rs.length rc1 oa1 (x.sQ k).os.length oc1 (x.sQ k).c) (x.sQ k).p (x.sQ k).rs (x.sQ k).os (x.sQ k).c):=o1;have hc1:∀ b o,b<wr.heap.size->w1.cell? ⟨b,o,none⟩=wr.cell? ⟨b,o,none⟩:=fun b o h=>(qap q1).1 b o h;have hHeld1:=And.intro ((hc1 _ _ hN).trans x1) (And.intro ((hc1 _ _ hb0w).trans b1) (And.intro ((hc1 _ _ hbw).trans s0) (And.intro ((hc1 _ _ hbw).trans s1) (And.intro ((hc1 _ _ hbw).trans s2) ((hc1 _ _ hbw).trans s3)))));have Q1:Hid (Below wr.heap.size wr w1):=q1;refine hK.out _ _ (fun _=>hHeld1) ?_;clear hHeld o1 d1' q1 hc1;clear hK K
    (try simp only [Act.put,zD,zE,zF])
    refine yW 8 rfl fun K hK=>?_;go_simp;have ba:=zP w1 (oQ1 (x.sQ k).p ra1 (x.sQ k).rs.length rc1 oa1 (x.sQ k).os.length oc1 (x.sQ k).c);have hca:∀ b o,b<wr.heap.size->(w1.alloc (oQ1 (x.sQ k).p ra1 (x.sQ k).rs.length rc1 oa1 (x.sQ k).os.length oc1 (x.sQ k).c)).cell? ⟨b,o,none⟩=w1.cell? ⟨b,o,none⟩:=fun b o h=>(qap ba).1 b o (zL h Q1.size);obtain ⟨e0,e1,e2,e3,e4,e5⟩:=hHeld1;refine hK.out _ _ (fun _=>⟨(hca _ _ hN).trans e0,(hca _ _ hb0w).trans e1,(hca _ _ hbw).trans e2,(hca _ _ hbw).trans e3,(hca _ _ hbw).trans e4,(hca _ _ hbw).trans e5⟩) ?_;clear hca ba;clear hK K
    (try simp only [Act.put,zD,zE,zF])
    refine yW 9 rfl fun K hK=>?_;refine qb7 kndS w1 rfl rfl _ _ rfl 0 (.slice sa' k sc') k _ rfl (CP.o.s.bw Q1.out).row #[.int .i64 (x.sQ k).p,.slice ra1 (x.sQ k).rs.length rc1,.slice oa1 (x.sQ k).os.length oc1,.int .i64 (x.sQ k).c] rfl rfl (by intro u hu;simp at hu;rcases hu with rfl | rfl | rfl | rfl <;> rfl) (by omega) (nD _) ?_;intro v3 w3 o3 g3 q3 n3;obtain ⟨a3,c3,rfl⟩:=zT o3
    have hk3:∀ b,b<wr.heap.size->(b<W2.heap.size\/b=N)->w3.heap[b]? = w1.heap[b]?:=fun b h1 h2=>g3.block b (zL h1 Q1.size) fun e=>by
     have:=HSA.out b e.symm;omega
    have hc3:∀ b o,b<wr.heap.size->(b<W2.heap.size\/b=N)->w3.cell? ⟨b,o,none⟩=w1.cell? ⟨b,o,none⟩:=fun b o h1 h2=>zH (hk3 b h1 h2);have hHeld:=And.intro ((hc3 _ _ hN (.inr rfl)).trans e0) (And.intro ((hc3 _ _ hb0w (.inl hl0)).trans e1) (And.intro ((hc3 _ _ hbw (.inl (by omega))).trans e2) (And.intro ((hc3 _ _ hbw (.inl (by omega))).trans e3) (And.intro ((hc3 _ _ hbw (.inl (by omega))).trans e4) ((hc3 _ _ hbw (.inl (by omega))).trans e5)))));have hfN:∀ j,w3.frozen? ⟨N,j,none⟩=false:=fun j=>(zI (hk3 N hN (.inr rfl))).trans (((qap Q1.out).2 N j hN).trans (xf j));have CN:Hid (CpB W2.heap.size N (rcol c wr.heap.size 2) x.y (k+1) 0 (w3.setCell ⟨N,1,none⟩ (.slice a3 (k+1) c3)) vp (.slice a3 (k+1) c3) nS vh up (fun j=>if j=k then stV (x.sQ k).p ra1 (x.sQ k).rs.length rc1 oa1 (x.sQ k).os.length oc1 (x.sQ k).c else us j) (fun _=>nS) uh):=CP.state Q1.out O1.out o3 g3 q3;have BN:Hid (Below W2.heap.size W2 (w3.setCell ⟨N,1,none⟩ (.slice a3 (k+1) c3))):=(Below.grown (BZ.trans (Q1.mono BZ.size)) g3 (zO BZ.size Q1.size) (fun j hj=>(HSA.out j hj).1)).setCell CP.bN _;refine hK.out _ _ (fun _=>hHeld) ?_;clear o3 g3 q3 n3 hk3 hc3;clear hK K;refine qgu 10 rfl hHeld ?_;refine yW 11 rfl fun K hK=>?_;have hcN:=hHeld.1;have hfN1:=hfN 1;go_simp;refine hK.out _ _ (fun h=>?_) ?_
    ·exact absurd h (by decide)
    clear hK K
    (try simp only [Act.put])
    refine yX ?_ _;go_wp2;go_roundw
    case rel=>exact ⟨k+1,by omega,by go_num,⟨_,_,_,_,_,_,_,CN.out⟩,BN.out⟩
    case measure=>simp [intOf];omega
   ·have hkn:k=x.sn:=by omega
    subst hkn;have hsb:∀ wx,Below W2.heap.size W2 wx->wx.cell? ⟨w.heap.size,1,none⟩=some (.slice x.sa x.sn x.sc):=fun wx hb=>(NB.bw hb).2.1;have b1:=hsb wr HZ.2;clear hsb;go_wp2_with fail
    clear b1
    go_loopw [5] (fun i wr=>∃ k:Nat,k<=x.wn/\i=.int .i64 k/\Hid ((∃ c vp vs vw vh up us uw uh,CpB W2.heap.size N c x.y x.sn k wr vp vs vw vh up us uw uh)/\Below W2.heap.size W2 wr)) (fun i _=>x.wn - (intOf i).toNat)
    case atStart=>
     obtain ⟨⟨c,vp,vs,vh,up,us,uh,cp⟩,bz⟩:=HZ.out;exact ⟨0,nD _,rfl,⟨c,vp,vs,_,vh,up,us,_,uh,cp⟩,bz⟩
    case round=>
     clear HZ hlt hk;obtain ⟨k,hk,rfl,HZ⟩:=hrel;by_cases hlt:k<x.wn
     ·have hlt':(k:Int)<(x.wn:Int):=by omega
      obtain ⟨⟨c,vp,vs,vw,vh,up,us,uw,uh,cp⟩,bz⟩:=HZ.out;obtain ⟨wa',wc',rfl⟩:=zT cp.o.t.row;obtain ⟨x0,x1,x2,x3⟩:=cp.bx;have xf:=cp.fr;have hN:=cp.lt;obtain ⟨b0,b1,b2,b3⟩:=NB.bw bz;obtain ⟨bq,oq,es,s0⟩:=(HG.bw (BW.trans (bz.mono BW.size))).w.at hlt
      have hbs:bq<w.heap.size:=by
       obtain ⟨bs',os',es',s0'⟩:=HG.w.at hlt;rw [es] at es';cases es';exact zJ w _ s0'
      have hsr:=srcT ((HG.bw (BW.trans (bz.mono BW.size))).wi k hlt);have HLk:=HL.w.2 k hlt;rw [es] at b2;have CP:Hid (CpB W2.heap.size N c x.y x.sn k wr vp vs (.slice wa' k wc') vh up us uw uh):=cp;have LSt:Hid (Src wr (x.wA k) (fT (x.wH k) (x.wL k))):=hsr;have BZ:Hid (Below W2.heap.size W2 wr):=bz;have hbw:bq<wr.heap.size:=by have:=bz.size;omega
      have hb0w:w.heap.size<wr.heap.size:=by have:=bz.size;omega
      have HSA : Hid (∀ j, (Value.slice wa' k wc').ownBlock = some j → W2.heap.size ≤ j ∧ j ≠ N) := fun j hj => ⟨(cp.o.t.rb j hj).1, fun e => by
       have h2:=(cp.o.t.rb j hj).2;rw [e,cp.cN] at h2
       cases h2⟩
      clear cp bz hsr HZ es;go_wp2_with fail
      refine qa1 (fun w'=>w'.cell? ⟨N,2,none⟩=some (.slice wa' k wc')/\w'.cell? ⟨w.heap.size,2,none⟩=some (.slice (some ⟨bq,oq,none⟩) x.wn x.wc)/\w'.cell? ⟨bq,oq+k,none⟩=some (.slice (x.wA k) (x.wL k) (x.wC k))) (fun i=>i == 12) (by kernel_rfl) ?_;have hHeld:=And.intro x2 (And.intro b2 s0);refine qcn [0,1,3,4,5,6,7] ?_;iterate 7 (refine qdl rfl hHeld ?_)
      refine qb0 ?_;refine yW 2 rfl fun K hK=>?_;go_simp;have ba:Below wr.drew.heap.size wr.drew (wr.drew.alloc (.cells #[] 74)):=zP wr.drew _;have hHeld1:(fun w'=>w'.cell? ⟨N,2,none⟩=some (.slice wa' k wc')/\w'.cell? ⟨w.heap.size,2,none⟩=some (.slice (some ⟨bq,oq,none⟩) x.wn x.wc)/\w'.cell? ⟨bq,oq+k,none⟩=some (.slice (x.wA k) (x.wL k) (x.wC k))) (wr.drew.alloc (.cells #[] 74)):=⟨((qap ba).1 _ _ hN).trans x2,((qap ba).1 _ _ hb0w).trans b2,((qap ba).1 _ _ hbw).trans s0⟩
      refine hK.out _ _ (fun _=>hHeld1) ?_;clear hHeld ba;clear hK K
      (try simp only [Act.put,zD,zE,zF])
      refine yW 8 rfl fun K hK=>?_;refine qcm kndT wr.drew rfl rfl _ _ rfl (x.wA k) (x.wL k) (x.wC k) (fT (x.wH k) (x.wL k)) rfl rfl (qrp _ _) LSt.out (qrq _ _) (zO HLk (by omega)) ?_;intro v1 w1 o1 d1' n1;obtain ⟨a1,c1,rfl⟩:=zT o1;have q1:Below wr.heap.size wr w1:=(nE wr.heap.size wr).drew.trans d1';have O1:Hid (w1.ownsRow wr.heap.size 74 2 (.slice a1 (x.wL k) c1) (x.wL k) (fT (x.wH k) (x.wL k))/\Value.slice a1 (x.wL k) c1≠nS):=⟨o1,n1⟩
      have hc1:∀ b o,b<wr.heap.size->w1.cell? ⟨b,o,none⟩=wr.cell? ⟨b,o,none⟩:=fun b o h=>(qap q1).1 b o h;have hHeld2:=And.intro ((hc1 _ _ hN).trans x2) (And.intro ((hc1 _ _ hb0w).trans b2) ((hc1 _ _ hbw).trans s0));have Q1:Hid (Below wr.heap.size wr w1):=q1;refine hK.out _ _ (fun _=>hHeld2) ?_;clear hHeld1 o1 d1' q1 hc1 n1;clear hK K
      (try simp only [Act.put,zD,zE,zF])
      refine yW 9 rfl fun K hK=>?_;go_simp;have ba:=zP w1 (.cells #[.slice a1 (x.wL k) c1] 72);have hca:∀ b o,b<wr.heap.size->(w1.alloc (.cells #[.slice a1 (x.wL k) c1] 72)).cell? ⟨b,o,none⟩=w1.cell? ⟨b,o,none⟩:=fun b o h=>(qap ba).1 b o (zL h Q1.size);obtain ⟨e0,e1,e2⟩:=hHeld2;refine hK.out _ _ (fun _=>⟨(hca _ _ hN).trans e0,(hca _ _ hb0w).trans e1,(hca _ _ hbw).trans e2⟩) ?_;clear hca ba;clear hK K
      (try simp only [Act.put,zD,zE,zF])
      refine yW 10 rfl fun K hK=>?_;refine qb7 qwu w1 rfl rfl _ _ rfl 0 (.slice wa' k wc') k _ rfl (CP.o.t.bw Q1.out).row #[.slice a1 (x.wL k) c1] rfl rfl (by intro u hu;simp at hu;subst hu;rfl) (by omega) (nD _) ?_;intro v3 w3 o3 g3 q3 n3;obtain ⟨a3,c3,rfl⟩:=zT o3
      have hk3:∀ b,b<wr.heap.size->(b<W2.heap.size\/b=N)->w3.heap[b]? = w1.heap[b]?:=fun b h1 h2=>g3.block b (zL h1 Q1.size) fun e=>by
       have:=HSA.out b e.symm;omega
      have hc3:∀ b o,b<wr.heap.size->(b<W2.heap.size\/b=N)->w3.cell? ⟨b,o,none⟩=w1.cell? ⟨b,o,none⟩:=fun b o h1 h2=>zH (hk3 b h1 h2);have hHeld:=And.intro ((hc3 _ _ hN (.inr rfl)).trans e0) (And.intro ((hc3 _ _ hb0w (.inl hl0)).trans e1) ((hc3 _ _ hbw (.inl (by omega))).trans e2));have hfN:∀ j,w3.frozen? ⟨N,j,none⟩=false:=fun j=>(zI (hk3 N hN (.inr rfl))).trans (((qap Q1.out).2 N j hN).trans (xf j));have CN:Hid (CpB W2.heap.size N (rcol c wr.heap.size 3) x.y x.sn (k+1) (w3.setCell ⟨N,2,none⟩ (.slice a3 (k+1) c3)) vp vs (.slice a3 (k+1) c3) vh up us (fun j=>if j=k then .slice a1 (x.wL k) c1 else uw j) uh):=CP.way Q1.out O1.1 O1.2 o3 g3 q3;have BN:Hid (Below W2.heap.size W2 (w3.setCell ⟨N,2,none⟩ (.slice a3 (k+1) c3))):=(Below.grown (BZ.trans (Q1.mono BZ.size)) g3 (zO BZ.size Q1.size) (fun j hj=>(HSA.out j hj).1)).setCell CP.bN _;refine hK.out _ _ (fun _=>hHeld) ?_;clear o3 g3 q3 n3 hk3 hc3;clear hK K;refine qgu 11 rfl hHeld ?_;refine yW 12 rfl fun K hK=>?_;have hcN:=hHeld.1;have hfN1:=hfN 2;go_simp;refine hK.out _ _ (fun h=>?_) ?_
      ·exact absurd h (by decide)
      clear hK K
      (try simp only [Act.put])
      refine yX ?_ _;go_wp2;go_roundw
      case rel=>exact ⟨k+1,by omega,by go_num,⟨_,_,_,_,_,_,_,_,_,CN.out⟩,BN.out⟩
      case measure=>simp [intOf];omega
     ·have hkn:k=x.wn:=by omega
      subst hkn;obtain ⟨⟨c,vp,vs,vw,vh,up,us,uw,uh,cp⟩,bz⟩:=HZ.out;obtain ⟨pa',pc',rfl⟩:=zT cp.o.p.row;obtain ⟨sa',sc',rfl⟩:=zT cp.o.s.row;obtain ⟨wa',wc',rfl⟩:=zT cp.o.t.row;obtain ⟨ha',hc',rfl⟩:=zT cp.o.h.row;obtain ⟨x0,x1,x2,x3⟩:=cp.bx;replace x0:wr.cell? ⟨N,0,none⟩=some (.slice pa' x.pn pc'):=x0;replace x3:wr.cell? ⟨N,3,none⟩=some (.slice ha' x.hn hc'):=x3;obtain ⟨r0,r1,r2,r3⟩:=RB.1.bw bz;obtain ⟨-,-,b2,-⟩:=NB.bw bz;have rf:∀ j,wr.frozen? ⟨w.heap.size+1,j,none⟩=false:=fun j=>((qap bz).2 _ _ hl1).trans (RB.2 j);have HO:Hid (OwnS true wr W2.heap.size c x.y (.slice pa' x.pn pc') (.slice sa' x.sn sc') (.slice wa' x.wn wc') (.slice ha' x.hn hc') up us uw uh):=cp.o;have BE:Hid (Below w.heap.size w wr):=BW.trans (bz.mono BW.size)
      have HO2:Hid (∀ W9:World,(∀ k,w.heap.size+1<k->W9.heap[k]? = wr.heap[k]?)->qbj true W9 w.heap.size x.y (sysV pa' x.pn pc' sa' x.sn sc' wa' x.wn wc' ha' x.hn hc')):=fun W9 hk9=>by
       have hm:∀ i k,Cl W2.heap.size c i k->k<wr.heap.size->Cl w.heap.size c i k:=fun i k h _=>⟨by have:=h.1;omega,h.2⟩
       have hq:∀ i k,Cl W2.heap.size c i k->k<wr.heap.size->W9.heap[k]? = wr.heap[k]?:=fun i k h _=>hk9 k (by have:=h.1;omega);have hm9:∀ i k,Cl W2.heap.size c i k->k<W9.heap.size->Cl w.heap.size c i k:=fun i k h _=>⟨by have:=h.1;omega,h.2⟩
       exact ⟨c,_,_,_,_,up,us,uw,uh,rfl,⟨(HO.p.keep (hq 1)).mono (hm9 1),(HO.s.keep (hq 2)).mono (hm9 2),(HO.t.keep (hq 3)).mono (hm9 3),(HO.h.keep (hq 4)).mono (hm9 4)⟩⟩
      clear HZ cp bz HO RB NB HG;go_wp2;refine bodyPost_ret (v:=sysV pa' x.pn pc' sa' x.sn sc' wa' x.wn wc' ha' x.hn hc') (by simp [results,results44,go_sem,r0,r1,r2,r3]) rfl ⟨_,rfl,HO2.out _ ?_,?_⟩
      ·intro k hk
       repeat (rw [zN _ _ _ _ (by simp;omega)])
      ·have:=BE.out
       go_grown
def Sy.nk (y:Sy) (p:Nat):Int:=nxK (y.pH p) (y.pL p) (y.sS p).p (y.sS p).rs (y.sS p).os (y.sS p).c
def Sy.nq (y:Sy) (p:Nat):Int:=nxP (y.pH p) (y.pL p) (y.sS p).p (y.sS p).rs (y.sS p).os (y.sS p).c
def Sy.nv (y:Sy) (p:Nat):Int:=nxW (y.pH p) (y.pL p) (y.sS p).p (y.sS p).rs (y.sS p).os (y.sS p).c
def tkS (y:Sy) (p:Nat) (f:Int):Int:=if belB f y.pn=true then (if y.wL (f.toNat*y.pn+p)=0 then 3 else if (y.wH (f.toNat*y.pn+p) 0).m=true then 5 else 0) else 2
def fuS (y:Sy) (p:Nat) (k q:Int):Bool:=decide (200<=y.hL p) || (k == 2 && decide (12<=y.wL (p*y.pn+q.toNat)))
def cmS (y:Sy) (p:Nat) (f:Int):Int:=if (y.sS p).c≠0 then 6 else if fuS y p (y.nk p) (y.nq p)=true then 4 else if y.nk p=3 then tkS y p (if y.nq p=9 then f else y.nq p) else 0
theorem qzj {g:Nat->I5} {n:Nat} {eh:Nat->E3} (hp:qac g n 4=true):∀ k S,rp g n eh k=some S->OkS n S
 | 0,S,h=>by
  simp only [rp,nG] at h;subst h;exact qlr hp
 | k+1,S,h=>by
  simp only [rp] at h;cases hr:rp g n eh k with
  | none=>rw [hr] at h;cases h
  | some S0=>
   rw [hr] at h;simp only [Option.bind_some,qeu] at h
   split at h
   ·rename_i hd
    simp only [nG] at h;subst h;exact qrj hd
   ·cases h
theorem Sy.Ok.four {y:Sy} (h:y.Ok) {p:Nat} (hp:p<y.pn):qac (y.pH p) (y.pL p) 4=true:=(qcs (h.rp p hp)).1
theorem Sy.Ok.le200 {y:Sy} (h:y.Ok) {p:Nat} (hp:p<y.pn):y.hL p<=200:=(qcs (h.rp p hp)).2.1
theorem Sy.Ok.st {y:Sy} (h:y.Ok) {p:Nat} (hp:p<y.pn):OkS (y.pL p) (y.sS p):=qzj (h.four hp) _ _ (qcs (h.rp p hp)).2.2
theorem Sy.Ok.right {y:Sy} (h:y.Ok) {p:Nat} (hp:p<y.pn) (hc:(y.sS p).c=0):qcj (y.pH p) (y.pL p) (y.sS p).p (y.sS p).rs (y.sS p).os 0=true:=by
 have:=qr4 (h.four hp) (h.st hp) hc
 rwa [hc] at this
theorem Sy.Ok.peer {y:Sy} (h:y.Ok) {p:Nat} (hp:p<y.pn) (hk:y.nk p=2):0<=y.nq p/\y.nq p<y.pn:=by
 unfold Sy.nk nxK at hk;unfold Sy.nq nxP;by_cases hr:qcj (y.pH p) (y.pL p) (y.sS p).p (y.sS p).rs (y.sS p).os (y.sS p).c=true
 ·rw [nC hr] at hk ⊢
  obtain ⟨-,h4,-⟩:=qbe hr;obtain ⟨-,⟨k,ek,hkl⟩,-⟩:=qco h4;have e:(y.sS p).p.toNat=k:=by omega
  rw [e] at hk ⊢;have h5:=qbw (h.pr p hp) hkl;simp only [qaj,nH] at h5;have h6:=h5.2
  have e6:(y.pH p k).o=6:=by
   unfold evK at hk;by_cases e6:(y.pH p k).o=6
   ·exact e6
   ·rw [nB e6] at hk
    split at hk
    ·cases hk
    ·split at hk <;> cases hk
  rw [evP,nC e6];simp [qbb,e6,inB] at h6;omega
 ·rw [nB hr] at hk
  cases hk
theorem Sy.Ok.way {y:Sy} (h:y.Ok) {a b:Nat} (ha:a<y.pn) (hb:b<y.pn):y.wL (a*y.pn+b)<=12:=(h.wa a ha b hb).le
variable {z:Bool}
def Sy.setW (y:Sy) (i m:Nat) (H:Nat->I2):Sy:={ y with wL:=fun j=>if j=i then m else y.wL j,wH:=fun j=>if j=i then H else y.wH j }
def Sy.setH (y:Sy) (i m:Nat) (H:Nat->E3):Sy:={ y with hL:=fun j=>if j=i then m else y.hL j,hH:=fun j=>if j=i then H else y.hH j }
def Sy.setS (y:Sy) (i:Nat) (T:S4):Sy:={ y with sS:=fun j=>if j=i then T else y.sS j }
def Sy.way (y:Sy) (p:Nat) (k q v:Int):Sy:=
 { y with
  wL:=if k=2 then fun j=>if j=p*y.pn+q.toNat then y.wL (p*y.pn+q.toNat)+1 else y.wL j
   else if k=3 then fun j=>if j=q.toNat*y.pn+p then y.wL (q.toNat*y.pn+p) - 1 else y.wL j else y.wL
  wH:=if k=2 then fun j=>if j=p*y.pn+q.toNat then (fun i=>if i=y.wL (p*y.pn+q.toNat) then ⟨false,v⟩ else y.wH (p*y.pn+q.toNat) i) else y.wH j
   else if k=3 then fun j=>if j=q.toNat*y.pn+p then (fun i=>y.wH (q.toNat*y.pn+p) (i+1)) else y.wH j else y.wH }
theorem Sy.way_send (y:Sy) (p q:Nat) (v:Int):y.way p 2 q v=y.setW (p*y.pn+q) (y.wL (p*y.pn+q)+1) (fun i=>if i=y.wL (p*y.pn+q) then ⟨false,v⟩ else y.wH (p*y.pn+q) i):=by
 simp [Sy.way,Sy.setW]
theorem Sy.way_take (y:Sy) (p q:Nat) (v:Int):y.way p 3 q v=y.setW (q*y.pn+p) (y.wL (q*y.pn+p) - 1) (fun i=>y.wH (q*y.pn+p) (i+1)):=by
 simp [Sy.way,Sy.setW]
theorem Sy.way_no (y:Sy) (p:Nat) {k:Int} (h2:k≠2) (h3:k≠3) (q v:Int):y.way p k q v=y:=by
 simp [Sy.way,h2,h3]
theorem qyg (H:Nat->I2) (x:I2) (n:Nat):fT (fun i=>if i=n then x else H i) (n+1)=fT H n ++ cT x:=by
 show flat (fun i=>cT (if i=n then x else H i)) n ++ cT (if n=n then x else H n)=flat (fun i=>cT (H i)) n ++ cT x;rw [nC rfl]
 congr 1
 exact qa2 fun i hi=>by rw [nB (by omega)]
def Sy.evt (y:Sy) (p:Nat) (k q v:Int):Sy:=
 (y.setS p (doS (y.pH p) (y.pL p) (y.sS p).p (y.sS p).rs (y.sS p).os (y.sS p).c k q v)).setH p (y.hL p+1) (fun i=>if i=y.hL p then ⟨k,q,v⟩ else y.hH p i)
def Sy.eq (y:Sy) (p:Nat) (f:Int):Int:=if y.nk p=3 then (if y.nq p=9 then f else y.nq p) else y.nq p
def Sy.ev (y:Sy) (p:Nat) (f:Int):Int:=if y.nk p=3 then (y.wH ((y.eq p f).toNat*y.pn+p) 0).v else y.nv p
def Sy.step (y:Sy) (p:Nat) (f:Int):Sy:=if cmS y p f=0 then (y.way p (y.nk p) (y.eq p f) (y.ev p f)).evt p (y.nk p) (y.eq p f) (y.ev p f) else y
theorem qq7 (eh:Nat->E3) (kd pr:Int) (n:Nat):(valL eh kd pr n).length=(plN eh kd pr n).length:=by simp [valL]
theorem qen (eh:Nat->E3) (kd pr:Int) (n:Nat):(plI eh kd pr n).length=(plN eh kd pr n).length:=by simp [plI]
def nthV (eh:Nat->E3) (kd pr:Int) (len:Nat) (n:Int):Int:=if belB n ((plI eh kd pr len).length:Nat)=true then zi (plI eh kd pr len) n.toNat else -1
theorem qqq (eh:Nat->E3) (kd pr:Int):∀ n,∀ q ∈ plN eh kd pr n,q<n
 | 0,q,h=>by simp [plN] at h
 | n+1,q,h=>by
  unfold plN at h
  split at h
  ·simp at h
   rcases h with h | h
   ·have:=qqq eh kd pr n q h
    omega
   ·omega
  ·have:=qqq eh kd pr n q h
   omega
theorem qn9 (eh:Nat->E3) (kd pr:Int) (len j:Nat) (hj:j<(plI eh kd pr len).length):∃ q:Nat,zi (plI eh kd pr len) j=(q:Int)/\q<len/\(plN eh kd pr len)[j]? = some q:=by
 have hj':j<(plN eh kd pr len).length:=by rw [qen] at hj;exact hj
 refine ⟨(plN eh kd pr len)[j],?_,qqq eh kd pr len _ (List.getElem_mem hj'),List.getElem?_eq_getElem hj'⟩;unfold zi plI;rw [List.getD_eq_getElem?_getD,List.getElem?_map,List.getElem?_eq_getElem hj'];rfl
theorem qse {ops:Array Oper} {rest:List Oper} {op:Oper} {act:Act} {Q:Exit->Act->World->Prop} (w:World) (hgd:op.guard=none) (s x:Operand)
  (ho:op.op=.call { callee:=.builtin .append,args:=#[s,x],argTypes:=#[28,28] })
  (B:Nat) (v:Value) (xs:List Int) (hs:act.eval s=v) (hv:OwnI w B v xs) (y:Int) (hx:act.eval x=.slice (some ⟨w.heap.size,0,none⟩) 1 1) (hn:xs.length<=1048576) (hB:B<=w.heap.size)
  (h:∀ v' w',OwnI w' B v' (xs ++ [y])->w.grownBy w' v.ownBlock->(∀ j,v'.ownBlock=some j->v.ownBlock=some j\/w.heap.size<=j)->wpList prog ops Q rest (act.put op.dst v') w'):
  wpList prog ops Q (op :: rest) act (w.alloc (.cells #[.int .i64 y] 3)):=by
 have hb:Below w.heap.size w (w.alloc (.cells #[.int .i64 y] 3)):=(nE _ _).alloc (nA _) _;refine qbd _ hgd s x ho B 1 v (some ⟨w.heap.size,0,none⟩) xs [y] hs hx (hv.bw hb) (.inr ⟨w.heap.size,0,rfl,by simp,fun i hi=>?_⟩) (by simp;omega) (by simp;omega) ?_
 ·have:i=0:=by simp at hi;omega
  subst this;exact zV _ _ _ 0 rfl
 ·intro v' w' o g a
  refine h v' w' o ⟨g.os,g.tape,g.output,zO hb.size g.size,fun k hk hne=>(g.block k (zL hk hb.size) hne).trans (hb.block k hk)⟩ fun j hj=>?_
  rcases a with a | a
  ·exact .inl (a.symm.trans hj)
  ·rw [hj] at a
   simp only [nG] at a;right;rw [a];simp
def Away (w w1 wr:World) (o:Value):Prop:=(∀ j,o.ownBlock=some j->j=w.heap.size\/w1.heap.size<=j)/\(∀ j,w.heap.size<j->j<w1.heap.size->wr.heap[j]? = w1.heap[j]?)/\w1.heap.size<=wr.heap.size
theorem Away.step {w w1 wr w4:World} {o v':Value} (h:Away w w1 wr o) (g:wr.grownBy w4 o.ownBlock) (a:∀ j,v'.ownBlock=some j->o.ownBlock=some j\/wr.heap.size<=j):Away w w1 w4 v':=by
 obtain ⟨h1,h2,h3⟩:=h;refine ⟨fun j hj=>?_,fun j p1 p2=>?_,zO h3 g.size⟩
 ·rcases a j hj with a | a
  ·exact h1 j a
  ·right;omega
 ·rw [g.block j (by omega) (fun e=>?_),h2 j p1 p2]
  rcases h1 j e.symm with e | e <;> omega
theorem Away.sl {w w1 wr:World} {o:Value} (h:Away w w1 wr o) {B cp:Nat} {a0:Option Addr} {xs:List Int} (hB:w.heap.size<B) (hO:OwnI w1 B (.slice a0 xs.length cp) xs):Sl wr a0 xs:=by
 by_cases hx:0<xs.length
 ·obtain ⟨g,cap,e,hg,hl⟩:=hO.block hx
  simp only [Value.slice.injEq] at e;obtain ⟨rfl,-,rfl⟩:=e;refine .inr ⟨g,0,rfl,zL hl h.2.2,fun i hi=>?_⟩;rw [nL,zH (h.2.1 g (by omega) hl)];exact hO.cell hi
 ·exact .inl (List.eq_nil_of_length_eq_zero (by omega))
def valT (eh:Nat->E3) (kd pr:Int) (len j:Nat):List Int:=((plN eh kd pr len).take j).map fun i=>(eh i).v
theorem qyu (eh:Nat->E3) (kd pr:Int) (len j:Nat):(valT eh kd pr len j).length<=j:=by simp [valT];omega
theorem qxm (eh:Nat->E3) (kd pr:Int) (len:Nat):valT eh kd pr len (plI eh kd pr len).length=valL eh kd pr len:=by
 unfold valT valL;rw [qen,List.take_length]
theorem qv6 {eh:Nat->E3} {kd pr:Int} {len j q:Nat} (h:(plN eh kd pr len)[j]? = some q):valT eh kd pr len (j+1)=valT eh kd pr len j ++ [(eh q).v]:=by
 unfold valT;rw [List.take_add_one,h,List.map_append];rfl
theorem qtm (x:SysIn) (lo hi:Nat) (v:Value) (w:World) (hs:x.size<=1048576) (o:qcc w lo hi x v):
  Calls prog 34 #[v,.int .i64 1] w fun e w'=>(∃ z:Int,e=.returned (.int .i64 z)/\¬ z<0/\z<=30000000)/\qaa (fun b=>lo<=b/\b<hi) w w':=by
 obtain ⟨D1,D2,D3,D4,b1,vs,b3,b4,h1,h2,h3,o⟩:=o;have HS:Hid (x.size<=1048576):=hs;obtain ⟨q1,q2,q3,q4,-⟩:=o.hi;have OO:Hid (qre w lo hi x v D1 D2 D3 D4 b1 vs b3 b4 h1 h2 h3):=o;have QQ:Hid (h1<=hi/\h2<=hi/\h3<=hi/\hi<=w.heap.size):=⟨q1,q2,q3,q4⟩
 obtain ⟨rfl,p1,s1,w1,i1,y1,y2,y3,y4⟩:=o;have Y:Hid (lo<=D1/\h1<=D2/\h2<=D3/\h3<=D4/\D1<h1/\D2<h2/\D3<h3/\D4<hi):=⟨y1,y2,y3,y4,p1.lt,s1.lt,w1.lt,i1.lt⟩
 have P1:Hid (qbo w D1 h1 x.pn x.pL b1 x.pH):=p1;have S1:Hid (qav w D2 h2 x.sn x.sS vs):=s1;have W1:Hid (qa6 w D3 h3 x.wn x.wL b3 x.wH):=w1;have I1:Hid (qay w D4 hi x.hn x.hL b4 x.hH):=i1;clear p1 s1 w1 i1 y1 y2 y3 y4 q1 q2 q3 q4 hs OO;have X0:Hid (MkY w (w.alloc (oQ4 (some ⟨D1,0,none⟩) x.pn x.pn (some ⟨D2,0,none⟩) x.sn x.sn (some ⟨D3,0,none⟩) x.wn x.wn (some ⟨D4,0,none⟩) x.hn x.hn)) lo hi D1 D2 D3 D4 x):=⟨qaa.of_below (qad _ _),BoxC.new w (sG D1 x.pn x.pn) (sG D2 x.sn x.sn) (sG D3 x.wn x.wn) (sG D4 x.hn x.hn) 41,by simp⟩
 have BA:Hid (Below w.heap.size w (w.alloc (oQ4 (some ⟨D1,0,none⟩) x.pn x.pn (some ⟨D2,0,none⟩) x.sn x.sn (some ⟨D3,0,none⟩) x.wn x.wn (some ⟨D4,0,none⟩) x.hn x.hn))):=qad _ _
 go_enter func34,ntmps34
 go_wp2_with fail
 generalize w.alloc (oQ4 (some ⟨D1,0,none⟩) x.pn x.pn (some ⟨D2,0,none⟩) x.sn x.sn (some ⟨D3,0,none⟩) x.wn x.wn (some ⟨D4,0,none⟩) x.hn x.hn)=wA at *;refine (qlj D1 h1 x.pn x.pn x.pL b1 x.pH 1 wA (SysIn.lens HS.out).1.1 (SysIn.lens HS.out).1.2 (by omega) (by omega) (P1.bw BA.out (by have:=QQ.out;omega))).mono ?_;rintro e w1 ⟨rfl,t1⟩;have X1:Hid (MkY w w1 lo hi D1 D2 D3 D4 x):=X0.step (by have:=QQ.out;omega) t1 fun b hb=>by have:=QQ.out;have:=Y.out;omega
 have KS:Hid (qav w1 D2 h2 x.sn x.sS vs):=(S1.bw BA.out (by have:=QQ.out;omega)).keep t1.size fun k hk1 hk2=>t1.block k (by have:=BA.size;have:=QQ.out;omega) (fun e=>by have:=Y.out;omega);have KW:Hid (qa6 w1 D3 h3 x.wn x.wL b3 x.wH):=(W1.bw BA.out (by have:=QQ.out;omega)).keep t1.size fun k hk1 hk2=>t1.block k (by have:=BA.size;have:=QQ.out;omega) (fun e=>by have:=Y.out;omega);have KI:Hid (qay w1 D4 hi x.hn x.hL b4 x.hH):=(I1.bw BA.out (by have:=QQ.out;omega)).keep t1.size fun k hk1 hk2=>t1.block k (by have:=BA.size;have:=QQ.out;omega) (fun e=>by have:=Y.out;omega);have z1:0<=(1:Int)+5*(sumL x.pL x.pn:Nat)/\(1:Int)+5*(sumL x.pL x.pn:Nat)<=6000000:=by have:=(SysIn.lens HS.out).1.2;omega
 generalize (1:Int)+5*(sumL x.pL x.pn:Nat)=Z1 at *;have HZ1:Hid (0<=Z1/\Z1<=6000000):=z1;clear t1 X0 P1 S1 W1 I1 BA z1;obtain ⟨-,⟨p0,p1,p2,p3⟩,lt⟩:=X1.out;go_wp2_with fail
 clear p0 p1 p2 p3 lt;refine (qjr D2 h2 x.sn x.sn x.sS vs Z1 w1 (SysIn.lens HS.out).2.1.1 (SysIn.lens HS.out).2.1.2 HZ1.1 (by have:=HZ1.out;omega) KS.out).mono ?_;rintro e w2 ⟨rfl,t2⟩;have X2:Hid (MkY w w2 lo hi D1 D2 D3 D4 x):=X1.step (by have:=QQ.out;omega) t2 fun b hb=>by have:=QQ.out;have:=Y.out;omega
 have KW2:Hid (qa6 w2 D3 h3 x.wn x.wL b3 x.wH):=KW.keep t2.size fun k hk1 hk2=>t2.block k (zL hk2 KW.le) (fun e=>by have:=Y.out;omega);have KI2:Hid (qay w2 D4 hi x.hn x.hL b4 x.hH):=KI.keep t2.size fun k hk1 hk2=>t2.block k (zL hk2 KI.le) (fun e=>by have:=Y.out;omega);have z2:0<=Z1+(2*x.sn+sumL (lenS x.sS) x.sn:Nat)/\Z1+(2*x.sn+sumL (lenS x.sS) x.sn:Nat)<=12000000:=by have:=(SysIn.lens HS.out).2.1;have:=HZ1.out;omega
 generalize Z1+(2*x.sn+sumL (lenS x.sS) x.sn:Nat)=Z2 at *;have HZ2:Hid (0<=Z2/\Z2<=12000000):=z2;clear t2 X1 KS KW KI z2 HZ1;obtain ⟨-,⟨p0,p1,p2,p3⟩,lt⟩:=X2.out;go_wp2_with fail
 clear p0 p1 p2 p3 lt;refine (qjq D3 h3 x.wn x.wn x.wL b3 x.wH Z2 w2 (SysIn.lens HS.out).2.2.1.1 (SysIn.lens HS.out).2.2.1.2 HZ2.1 (by have:=HZ2.out;omega) KW2.out).mono ?_;rintro e w3 ⟨rfl,t3⟩;have X3:Hid (MkY w w3 lo hi D1 D2 D3 D4 x):=X2.step (by have:=QQ.out;omega) t3 fun b hb=>by have:=QQ.out;have:=Y.out;omega
 have KI3:Hid (qay w3 D4 hi x.hn x.hL b4 x.hH):=KI2.keep t3.size fun k hk1 hk2=>t3.block k (zL hk2 KI2.le) (fun e=>by have:=Y.out;omega);have z3:0<=Z2+2*(sumL x.wL x.wn:Nat)/\Z2+2*(sumL x.wL x.wn:Nat)<=18000000:=by have:=(SysIn.lens HS.out).2.2.1;have:=HZ2.out;omega
 generalize Z2+2*(sumL x.wL x.wn:Nat)=Z3 at *;have HZ3:Hid (0<=Z3/\Z3<=18000000):=z3;clear t3 X2 KW2 KI2 z3 HZ2;obtain ⟨-,⟨p0,p1,p2,p3⟩,lt⟩:=X3.out;go_wp2_with fail
 clear p0 p1 p2 p3 lt;refine (qio D4 hi x.hn x.hn x.hL b4 x.hH Z3 w3 (SysIn.lens HS.out).2.2.2.1 (SysIn.lens HS.out).2.2.2.2 HZ3.1 (by have:=HZ3.out;omega) KI3.out).mono ?_;rintro e w4 ⟨rfl,t4⟩;have X4:Hid (MkY w w4 lo hi D1 D2 D3 D4 x):=X3.step (by have:=QQ.out;omega) t4 fun b hb=>by have:=QQ.out;have:=Y.out;omega
 have HZ4:Hid (¬ Z3+3*(sumL x.hL x.hn:Nat)<0/\Z3+3*(sumL x.hL x.hn:Nat)<=30000000):=by
  show ¬ Z3+3*(sumL x.hL x.hn:Nat)<0/\Z3+3*(sumL x.hL x.hn:Nat)<=30000000;have:=HZ3.out;have:=(SysIn.lens HS.out).2.2.2.2;omega
 generalize Z3+3*(sumL x.hL x.hn:Nat)=Z4 at *;clear t4 X3 KI3 HZ3;go_wp2;go_ret;exact ⟨⟨_,rfl,HZ4.out⟩,X4.tch⟩
