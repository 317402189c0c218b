import Derived.Test.YtlpckaoldaijlaaGreatDoorSe0
import Derived.Test.YtlpckaoldaijlaaGreatDoorSe25
import Derived.Test.YtlpckaoldaijlaaGreatDoorSe30
import Derived.Deep.RegionWith
namespace Go.Proofs.YtlpckaoldaijlaaGreatDoor
set_option maxRecDepth 100000
set_option maxHeartbeats 2000000
open Go.ChangeShapes Go.WideShapes Go.ChangeAt Go.RowKit Go.Deep
theorem below_allocS (w:World) (o:Obj):Below w.heap.size w (w.alloc o):=(Below.refl _ _).alloc (Nat.le_refl _) _
theorem sum_le {n:Nat} {ls:Nat->Nat} {N:Nat} (h:sumL ls n<=N):∀ i,i<n->ls i<=N:=fun i hi=>by
 have:=sumL_at ls hi
 omega
theorem SysIn.lens {x:SysIn} (h:x.size<=1048576):(x.pn<=1048576/\sumL x.pL x.pn<=1048576)/\(x.sn<=1048576/\sumL (lenS x.sS) x.sn<=1048576)/\(x.wn<=1048576/\sumL x.wL x.wn<=1048576)/\(x.hn<=1048576/\sumL x.hL x.hn<=1048576):=by
 unfold SysIn.size at h
 omega
theorem SysIn.lensS {x:SysIn} (h:x.size<=1048576):∀ i,i<x.sn->(x.sQ i).rs.length<=1048576/\(x.sQ i).os.length<=1048576:=fun i hi=>by
 have:=sum_le (SysIn.lens h).2.1.2 i hi
 have e:lenS x.sS i=(x.sQ i).rs.length+(x.sQ i).os.length:=rfl
 omega
structure TB (w wx:World) (a0 a1 a2 a3 o0 o1 o2 o3:Value):Prop where
 p:BoxC wx w.heap.size a0 a1 a2 a3
 r:BoxC wx (w.heap.size+1) (.slice none 0 0) (.slice none 0 0) (.slice none 0 0) (.slice none 0 0)
 o:BoxC wx (w.heap.size+1+1) o0 o1 o2 o3
 fr:∀ j,wx.frozen? ⟨w.heap.size+1,j,none⟩=false
 fo:∀ j,wx.frozen? ⟨w.heap.size+1+1,j,none⟩=false
 be:Below w.heap.size w wx
 le:w.heap.size+3<=wx.heap.size
theorem TB.below {w wx w':World} {a0 a1 a2 a3 o0 o1 o2 o3:Value} (h:TB w wx a0 a1 a2 a3 o0 o1 o2 o3) (hb:Below wx.heap.size wx w'):TB w w' a0 a1 a2 a3 o0 o1 o2 o3:=
 ⟨h.p.below hb,h.r.below hb,h.o.below hb,fun j=>(hb.frozen (p:=⟨w.heap.size+1,j,none⟩) (by have:=h.le;show w.heap.size+1<_;omega)).trans (h.fr j),fun j=>(hb.frozen (p:=⟨w.heap.size+1+1,j,none⟩) (by have:=h.le;show w.heap.size+1+1<_;omega)).trans (h.fo j),h.be.trans (hb.mono h.be.size),zP h.le hb.size⟩
theorem TB.first {w:World} (a0 a1 a2 a3:Value) (t1 t2:TypeId):TB w (((w.alloc (.cells #[a0,a1,a2,a3] t1)).alloc (.cells #[.slice none 0 0,.slice none 0 0,.slice none 0 0,.slice none 0 0] t2)).alloc (.cells #[.slice none 0 0,.slice none 0 0,.slice none 0 0,.slice none 0 0] t2)) a0 a1 a2 a3 (.slice none 0 0) (.slice none 0 0) (.slice none 0 0) (.slice none 0 0):=by
 have hb1:=below_allocS (w.alloc (.cells #[a0,a1,a2,a3] t1)) (.cells #[.slice none 0 0,.slice none 0 0,.slice none 0 0,.slice none 0 0] t2)
 have hb2:=below_allocS ((w.alloc (.cells #[a0,a1,a2,a3] t1)).alloc (.cells #[.slice none 0 0,.slice none 0 0,.slice none 0 0,.slice none 0 0] t2)) (.cells #[.slice none 0 0,.slice none 0 0,.slice none 0 0,.slice none 0 0] t2)
 have n0:=BoxC.new w a0 a1 a2 a3 t1
 have n1:=BoxC.new (w.alloc (.cells #[a0,a1,a2,a3] t1)) (.slice none 0 0) (.slice none 0 0) (.slice none 0 0) (.slice none 0 0) t2
 have n2:=BoxC.new ((w.alloc (.cells #[a0,a1,a2,a3] t1)).alloc (.cells #[.slice none 0 0,.slice none 0 0,.slice none 0 0,.slice none 0 0] t2)) (.slice none 0 0) (.slice none 0 0) (.slice none 0 0) (.slice none 0 0) t2
 have f1:=fun j=>yB (w.alloc (.cells #[a0,a1,a2,a3] t1)) #[.slice none 0 0,.slice none 0 0,.slice none 0 0,.slice none 0 0] t2 j rfl
 have f2:=fun j=>yB ((w.alloc (.cells #[a0,a1,a2,a3] t1)).alloc (.cells #[.slice none 0 0,.slice none 0 0,.slice none 0 0,.slice none 0 0] t2)) #[.slice none 0 0,.slice none 0 0,.slice none 0 0,.slice none 0 0] t2 j rfl
 simp only [World.size_alloc] at n1 n2 f1 f2
 refine ⟨(n0.below hb1).below hb2,n1.below hb2,n2,fun j=>?_,f2,?_,by simp⟩
 ·exact (hb2.frozen (p:=⟨w.heap.size+1,j,none⟩) (by simp)).trans (f1 j)
 ·exact (((Below.refl _ _).alloc (Nat.le_refl _) _).alloc (by simp) _).alloc (by simp;omega) _
theorem BoxC.setO {w:World} {N M j:Nat} {p a b c u:Value} (h:BoxC w N p a b c) (hne:M≠N):BoxC (w.setCell ⟨M,j,none⟩ u) N p a b c:=by
 obtain ⟨h0,h1,h2,h3⟩:=h
 have hc:∀ i,(w.setCell ⟨M,j,none⟩ u).cell? ⟨N,i,none⟩=w.cell? ⟨N,i,none⟩:=fun i=>World.cell?_setCell_other _ _ _ _ fun e=>hne (by injection e)
 exact ⟨(hc _).trans h0,(hc _).trans h1,(hc _).trans h2,(hc _).trans h3⟩
theorem TB.set0 {w wx:World} {a0 a1 a2 a3 o0 o1 o2 o3:Value} (h:TB w wx a0 a1 a2 a3 o0 o1 o2 o3) (u:Value):TB w (wx.setCell ⟨w.heap.size+1+1,0,none⟩ u) a0 a1 a2 a3 u o1 o2 o3:=by
 obtain ⟨q0,q1,q2,q3⟩:=h.o
 have hc:∀ i,0≠i->(wx.setCell ⟨w.heap.size+1+1,0,none⟩ u).cell? ⟨w.heap.size+1+1,i,none⟩=wx.cell? ⟨w.heap.size+1+1,i,none⟩:=fun i hi=>World.cell?_setCell_other _ _ _ _ fun e=>hi (by injection e)
 exact ⟨h.p.setO (by omega),h.r.setO (by omega),⟨World.cell?_setCell_same _ _ _ q0,(hc _ (by omega)).trans q1,(hc _ (by omega)).trans q2,(hc _ (by omega)).trans q3⟩,fun j=>by rw [World.frozen?_setCell];exact h.fr j,fun j=>by rw [World.frozen?_setCell];exact h.fo j,h.be.setCell (by simp;omega) _,by simp;exact h.le⟩
theorem TB.set1 {w wx:World} {a0 a1 a2 a3 o0 o1 o2 o3:Value} (h:TB w wx a0 a1 a2 a3 o0 o1 o2 o3) (u:Value):TB w (wx.setCell ⟨w.heap.size+1+1,1,none⟩ u) a0 a1 a2 a3 o0 u o2 o3:=by
 obtain ⟨q0,q1,q2,q3⟩:=h.o
 have hc:∀ i,1≠i->(wx.setCell ⟨w.heap.size+1+1,1,none⟩ u).cell? ⟨w.heap.size+1+1,i,none⟩=wx.cell? ⟨w.heap.size+1+1,i,none⟩:=fun i hi=>World.cell?_setCell_other _ _ _ _ fun e=>hi (by injection e)
 exact ⟨h.p.setO (by omega),h.r.setO (by omega),⟨(hc _ (by omega)).trans q0,World.cell?_setCell_same _ _ _ q1,(hc _ (by omega)).trans q2,(hc _ (by omega)).trans q3⟩,fun j=>by rw [World.frozen?_setCell];exact h.fr j,fun j=>by rw [World.frozen?_setCell];exact h.fo j,h.be.setCell (by simp;omega) _,by simp;exact h.le⟩
theorem TB.set2 {w wx:World} {a0 a1 a2 a3 o0 o1 o2 o3:Value} (h:TB w wx a0 a1 a2 a3 o0 o1 o2 o3) (u:Value):TB w (wx.setCell ⟨w.heap.size+1+1,2,none⟩ u) a0 a1 a2 a3 o0 o1 u o3:=by
 obtain ⟨q0,q1,q2,q3⟩:=h.o
 have hc:∀ i,2≠i->(wx.setCell ⟨w.heap.size+1+1,2,none⟩ u).cell? ⟨w.heap.size+1+1,i,none⟩=wx.cell? ⟨w.heap.size+1+1,i,none⟩:=fun i hi=>World.cell?_setCell_other _ _ _ _ fun e=>hi (by injection e)
 exact ⟨h.p.setO (by omega),h.r.setO (by omega),⟨(hc _ (by omega)).trans q0,(hc _ (by omega)).trans q1,World.cell?_setCell_same _ _ _ q2,(hc _ (by omega)).trans q3⟩,fun j=>by rw [World.frozen?_setCell];exact h.fr j,fun j=>by rw [World.frozen?_setCell];exact h.fo j,h.be.setCell (by simp;omega) _,by simp;exact h.le⟩
theorem toSys_any (x:SysIn) (W w:World) (hs:x.size<=1048576) (hA:x.Ok W) (hW:Below W.heap.size W w):
  Calls Tryz.prog 22 #[sysV x.pa x.pn x.pc x.sa x.sn x.sc x.wa x.wn x.wc x.ha x.hn x.hc] w fun e w'=>∃ v,e=.returned v/\IsSys w' w.heap.size w'.heap.size x v/\Below w.heap.size w w':=by
 have HA:Hid (x.Ok W):=hA
 have HW:Hid (Below W.heap.size W w):=hW
 have HS:Hid (x.size<=1048576):=hs
 have HWs:Hid (W.heap.size<=w.heap.size):=hW.size
 clear hA hW hs
 go_enter Tryz.func22,Tryz.ntmps22
 have T0:Hid (TB w (((w.alloc (oQ5 x.pa x.pn x.pc x.sa x.sn x.sc x.wa x.wn x.wc x.ha x.hn x.hc)).alloc (zQ4)).alloc (zQ4)) (.slice x.pa x.pn x.pc) (.slice x.sa x.sn x.sc) (.slice x.wa x.wn x.wc) (.slice x.ha x.hn x.hc) (.slice none 0 0) (.slice none 0 0) (.slice none 0 0) (.slice none 0 0)):=TB.first _ _ _ _ _ _
 go_wp2_with fail
 generalize ((w.alloc (oQ5 x.pa x.pn x.pc x.sa x.sn x.sc x.wa x.wn x.wc x.ha x.hn x.hc)).alloc (zQ4)).alloc (zQ4)=wA at *
 refine (toInsSS_any _ _ _ _ x.pL _ x.pH W _ (SysIn.lens HS.out).1.1 HA.out.p (HW.out.trans (T0.out.be.mono HWs.out))).mono ?_
 rintro e w1 ⟨rfl,⟨bs1,o1⟩,b1⟩
 have T1:Hid (TB w w1 (.slice x.pa x.pn x.pc) (.slice x.sa x.sn x.sc) (.slice x.wa x.wn x.wc) (.slice x.ha x.hn x.hc) (.slice none 0 0) (.slice none 0 0) (.slice none 0 0) (.slice none 0 0)):=T0.out.below b1
 have O1:Hid (OutIns w1 wA.heap.size w1.heap.size x.pn x.pL bs1 x.pH):=o1
 have zA:w.heap.size+3<=wA.heap.size:=T0.out.le
 clear b1 T0 o1
 obtain ⟨⟨p0,p1,p2,p3⟩,-,⟨q0,q1,q2,q3⟩,-,fo,-,le⟩:=T1.out
 go_wp2_with fail
 have T2:Hid (TB w (w1.setCell ⟨w.heap.size+1+1,0,none⟩ (.slice (some ⟨wA.heap.size,0,none⟩) x.pn x.pn)) (.slice x.pa x.pn x.pc) (.slice x.sa x.sn x.sc) (.slice x.wa x.wn x.wc) (.slice x.ha x.hn x.hc) (.slice (some ⟨wA.heap.size,0,none⟩) x.pn x.pn) (.slice none 0 0) (.slice none 0 0) (.slice none 0 0)):=T1.out.set0 _
 have O2:Hid (OutIns (w1.setCell ⟨w.heap.size+1+1,0,none⟩ (.slice (some ⟨wA.heap.size,0,none⟩) x.pn x.pn)) wA.heap.size w1.heap.size x.pn x.pL bs1 x.pH):=O1.out.keep (by simp) fun k hk _=>zO _ _ _ _ (by simp;omega)
 have h12:w1.heap.size=(w1.setCell ⟨w.heap.size+1+1,0,none⟩ (.slice (some ⟨wA.heap.size,0,none⟩) x.pn x.pn)).heap.size:=by simp
 have l1:wA.heap.size<w1.heap.size:=O1.out.lt
 clear O1 T1 p0 p1 p2 p3 q0 q1 q2 q3 fo le
 generalize w1.setCell ⟨w.heap.size+1+1,0,none⟩ (.slice (some ⟨wA.heap.size,0,none⟩) x.pn x.pn)=wB at *
 rw [h12] at O2 l1
 clear h12
 refine (toStateS_any _ _ _ x.sQ W wB (SysIn.lens HS.out).2.1.1 (SysIn.lensS HS.out) HA.out.s (HW.out.trans (T2.out.be.mono HWs.out))).mono ?_
 rintro e w2 ⟨rfl,⟨vs,o2⟩,b2⟩
 have T3:Hid (TB w w2 (.slice x.pa x.pn x.pc) (.slice x.sa x.sn x.sc) (.slice x.wa x.wn x.wc) (.slice x.ha x.hn x.hc) (.slice (some ⟨wA.heap.size,0,none⟩) x.pn x.pn) (.slice none 0 0) (.slice none 0 0) (.slice none 0 0)):=T2.out.below b2
 have P3:Hid (OutIns w2 wA.heap.size wB.heap.size x.pn x.pL bs1 x.pH):=O2.out.below b2 (Nat.le_refl _)
 have S3:Hid (OutState w2 wB.heap.size w2.heap.size x.sn x.sS vs):=o2
 clear b2 T2 o2 O2
 obtain ⟨⟨p0,p1,p2,p3⟩,-,⟨q0,q1,q2,q3⟩,-,fo,-,le⟩:=T3.out
 go_wp2_with fail
 have T4:Hid (TB w (w2.setCell ⟨w.heap.size+1+1,1,none⟩ (.slice (some ⟨wB.heap.size,0,none⟩) x.sn x.sn)) (.slice x.pa x.pn x.pc) (.slice x.sa x.sn x.sc) (.slice x.wa x.wn x.wc) (.slice x.ha x.hn x.hc) (.slice (some ⟨wA.heap.size,0,none⟩) x.pn x.pn) (.slice (some ⟨wB.heap.size,0,none⟩) x.sn x.sn) (.slice none 0 0) (.slice none 0 0)):=T3.out.set1 _
 have P4:Hid (OutIns (w2.setCell ⟨w.heap.size+1+1,1,none⟩ (.slice (some ⟨wB.heap.size,0,none⟩) x.sn x.sn)) wA.heap.size wB.heap.size x.pn x.pL bs1 x.pH):=P3.out.keep (by simp) fun k hk _=>zO _ _ _ _ (by simp;omega)
 have S4':Hid (OutState (w2.setCell ⟨w.heap.size+1+1,1,none⟩ (.slice (some ⟨wB.heap.size,0,none⟩) x.sn x.sn)) wB.heap.size w2.heap.size x.sn x.sS vs):=S3.out.keep (by simp) fun k hk _=>zO _ _ _ _ (by simp;omega)
 have h12:w2.heap.size=(w2.setCell ⟨w.heap.size+1+1,1,none⟩ (.slice (some ⟨wB.heap.size,0,none⟩) x.sn x.sn)).heap.size:=by simp
 have l2:wB.heap.size<w2.heap.size:=S3.out.lt
 clear P3 S3 T3 p0 p1 p2 p3 q0 q1 q2 q3 fo le
 generalize w2.setCell ⟨w.heap.size+1+1,1,none⟩ (.slice (some ⟨wB.heap.size,0,none⟩) x.sn x.sn)=wC at *
 rw [h12] at S4' l2
 clear h12
 refine (toItemSS_any _ _ _ _ x.wL _ x.wH W wC (SysIn.lens HS.out).2.2.1.1 HA.out.w (HW.out.trans (T4.out.be.mono HWs.out))).mono ?_
 rintro e w3 ⟨rfl,⟨bs3,o3⟩,b3⟩
 have T5:Hid (TB w w3 (.slice x.pa x.pn x.pc) (.slice x.sa x.sn x.sc) (.slice x.wa x.wn x.wc) (.slice x.ha x.hn x.hc) (.slice (some ⟨wA.heap.size,0,none⟩) x.pn x.pn) (.slice (some ⟨wB.heap.size,0,none⟩) x.sn x.sn) (.slice none 0 0) (.slice none 0 0)):=T4.out.below b3
 have P5:Hid (OutIns w3 wA.heap.size wB.heap.size x.pn x.pL bs1 x.pH):=P4.out.below b3 (by omega)
 have S5:Hid (OutState w3 wB.heap.size wC.heap.size x.sn x.sS vs):=S4'.out.below b3 (Nat.le_refl _)
 have W5:Hid (OutItem w3 wC.heap.size w3.heap.size x.wn x.wL bs3 x.wH):=o3
 clear b3 T4 o3 P4 S4'
 obtain ⟨⟨p0,p1,p2,p3⟩,-,⟨q0,q1,q2,q3⟩,-,fo,-,le⟩:=T5.out
 go_wp2_with fail
 have T6:Hid (TB w (w3.setCell ⟨w.heap.size+1+1,2,none⟩ (.slice (some ⟨wC.heap.size,0,none⟩) x.wn x.wn)) (.slice x.pa x.pn x.pc) (.slice x.sa x.sn x.sc) (.slice x.wa x.wn x.wc) (.slice x.ha x.hn x.hc) (.slice (some ⟨wA.heap.size,0,none⟩) x.pn x.pn) (.slice (some ⟨wB.heap.size,0,none⟩) x.sn x.sn) (.slice (some ⟨wC.heap.size,0,none⟩) x.wn x.wn) (.slice none 0 0)):=T5.out.set2 _
 have P6:Hid (OutIns (w3.setCell ⟨w.heap.size+1+1,2,none⟩ (.slice (some ⟨wC.heap.size,0,none⟩) x.wn x.wn)) wA.heap.size wB.heap.size x.pn x.pL bs1 x.pH):=P5.out.keep (by simp) fun k hk _=>zO _ _ _ _ (by simp;omega)
 have S6:Hid (OutState (w3.setCell ⟨w.heap.size+1+1,2,none⟩ (.slice (some ⟨wC.heap.size,0,none⟩) x.wn x.wn)) wB.heap.size wC.heap.size x.sn x.sS vs):=S5.out.keep (by simp) fun k hk _=>zO _ _ _ _ (by simp;omega)
 have W6:Hid (OutItem (w3.setCell ⟨w.heap.size+1+1,2,none⟩ (.slice (some ⟨wC.heap.size,0,none⟩) x.wn x.wn)) wC.heap.size w3.heap.size x.wn x.wL bs3 x.wH):=W5.out.keep (by simp) fun k hk _=>zO _ _ _ _ (by simp;omega)
 have h12:w3.heap.size=(w3.setCell ⟨w.heap.size+1+1,2,none⟩ (.slice (some ⟨wC.heap.size,0,none⟩) x.wn x.wn)).heap.size:=by simp
 have l3:wC.heap.size<w3.heap.size:=W5.out.lt
 clear P5 S5 W5 T5 p0 p1 p2 p3 q0 q1 q2 q3 fo le
 generalize w3.setCell ⟨w.heap.size+1+1,2,none⟩ (.slice (some ⟨wC.heap.size,0,none⟩) x.wn x.wn)=wD at *
 rw [h12] at W6 l3
 clear h12
 refine (toEventSS_any _ _ _ _ x.hL _ x.hH W wD (SysIn.lens HS.out).2.2.2.1 HA.out.h (HW.out.trans (T6.out.be.mono HWs.out))).mono ?_
 rintro e w4 ⟨rfl,⟨bs4,o4⟩,b4⟩
 have T7:Hid (TB w w4 (.slice x.pa x.pn x.pc) (.slice x.sa x.sn x.sc) (.slice x.wa x.wn x.wc) (.slice x.ha x.hn x.hc) (.slice (some ⟨wA.heap.size,0,none⟩) x.pn x.pn) (.slice (some ⟨wB.heap.size,0,none⟩) x.sn x.sn) (.slice (some ⟨wC.heap.size,0,none⟩) x.wn x.wn) (.slice none 0 0)):=T6.out.below b4
 have HO:Hid (∀ W9:World,(∀ k,w.heap.size+3<=k->W9.heap[k]? = w4.heap[k]?)->W9.heap.size=w4.heap.size->IsSys W9 w.heap.size W9.heap.size x (sysV (some ⟨wA.heap.size,0,none⟩) x.pn x.pn (some ⟨wB.heap.size,0,none⟩) x.sn x.sn (some ⟨wC.heap.size,0,none⟩) x.wn x.wn (some ⟨wD.heap.size,0,none⟩) x.hn x.hn)):=by
  intro W9 hk hz
  have o4':OutEvent w4 wD.heap.size W9.heap.size x.hn x.hL bs4 x.hH:=hz ▸ o4
  exact ⟨_,_,_,_,bs1,vs,bs3,bs4,wB.heap.size,wC.heap.size,wD.heap.size,rfl,(P6.out.below b4 (by omega)).keep (by omega) fun k h1 _=>hk k (by omega),(S6.out.below b4 (by omega)).keep (by omega) fun k h1 _=>hk k (by omega),(W6.out.below b4 (Nat.le_refl _)).keep (by omega) fun k h1 _=>hk k (by omega),o4'.keep (by omega) fun k h1 _=>hk k (by omega),by omega,Nat.le_refl _,Nat.le_refl _,Nat.le_refl _⟩
 clear b4 T6 o4 P6 S6 W6
 obtain ⟨-,⟨r0,r1,r2,r3⟩,⟨q0,q1,q2,q3⟩,fr,fo,be,le⟩:=T7.out
 have BE:Hid (Below w.heap.size w w4):=be
 clear be T7
 go_wp2
 refine bodyPost_ret (v:=sysV (some ⟨wA.heap.size,0,none⟩) x.pn x.pn (some ⟨wB.heap.size,0,none⟩) x.sn x.sn (some ⟨wC.heap.size,0,none⟩) x.wn x.wn (some ⟨wD.heap.size,0,none⟩) x.hn x.hn) (by simp [results,Tryz.results22,go_sem,r0,r1,r2,r3]) rfl ⟨_,rfl,HO.out _ ?_ ?_,?_⟩
 ·intro k hk
  repeat (rw [zO _ _ _ _ (by simp;omega)])
 ·simp
 ·have:=BE.out
  go_grown
theorem eqSys_same (x:SysIn) (l1 u1 l2 u2:Nat) (v1 v2:Value) (w:World) (hs:x.size<=1048576) (o1:IsSys w l1 u1 x v1) (o2:IsSys w l2 u2 x v2):
  Calls Tryz.prog 25 #[v1,v2] w fun e w'=>e=.returned (.bool true)/\Below w.heap.size w w':=by
 obtain ⟨D1,D2,D3,D4,b1,vs,b3,b4,h1,h2,h3,o1⟩:=o1
 obtain ⟨E1,E2,E3,E4,c1,us,c3,c4,g1,g2,g3,o2⟩:=o2
 have HS:Hid (x.size<=1048576):=hs
 obtain ⟨rfl,p1,s1,w1,i1,-,-,-,-⟩:=o1
 obtain ⟨rfl,p2,s2,w2,i2,-,-,-,-⟩:=o2
 have P1:Hid (OutIns w D1 h1 x.pn x.pL b1 x.pH):=p1
 have P2:Hid (OutIns w E1 g1 x.pn x.pL c1 x.pH):=p2
 have S1:Hid (OutState w D2 h2 x.sn x.sS vs):=s1
 have S2:Hid (OutState w E2 g2 x.sn x.sS us):=s2
 have W1:Hid (OutItem w D3 h3 x.wn x.wL b3 x.wH):=w1
 have W2:Hid (OutItem w E3 g3 x.wn x.wL c3 x.wH):=w2
 have I1:Hid (OutEvent w D4 u1 x.hn x.hL b4 x.hH):=i1
 have I2:Hid (OutEvent w E4 u2 x.hn x.hL c4 x.hH):=i2
 clear p1 p2 s1 s2 w1 w2 i1 i2 hs
 go_enter Tryz.func25,Tryz.ntmps25
 have X0:Hid (BoxC ((w.alloc (oQ4 (some ⟨D1,0,none⟩) x.pn x.pn (some ⟨D2,0,none⟩) x.sn x.sn (some ⟨D3,0,none⟩) x.wn x.wn (some ⟨D4,0,none⟩) x.hn x.hn)).alloc (oQ4 (some ⟨E1,0,none⟩) x.pn x.pn (some ⟨E2,0,none⟩) x.sn x.sn (some ⟨E3,0,none⟩) x.wn x.wn (some ⟨E4,0,none⟩) x.hn x.hn)) w.heap.size (.slice (some ⟨D1,0,none⟩) x.pn x.pn) (.slice (some ⟨D2,0,none⟩) x.sn x.sn) (.slice (some ⟨D3,0,none⟩) x.wn x.wn) (.slice (some ⟨D4,0,none⟩) x.hn x.hn)/\BoxC ((w.alloc (oQ4 (some ⟨D1,0,none⟩) x.pn x.pn (some ⟨D2,0,none⟩) x.sn x.sn (some ⟨D3,0,none⟩) x.wn x.wn (some ⟨D4,0,none⟩) x.hn x.hn)).alloc (oQ4 (some ⟨E1,0,none⟩) x.pn x.pn (some ⟨E2,0,none⟩) x.sn x.sn (some ⟨E3,0,none⟩) x.wn x.wn (some ⟨E4,0,none⟩) x.hn x.hn)) (w.heap.size+1) (.slice (some ⟨E1,0,none⟩) x.pn x.pn) (.slice (some ⟨E2,0,none⟩) x.sn x.sn) (.slice (some ⟨E3,0,none⟩) x.wn x.wn) (.slice (some ⟨E4,0,none⟩) x.hn x.hn)/\Below w.heap.size w ((w.alloc (oQ4 (some ⟨D1,0,none⟩) x.pn x.pn (some ⟨D2,0,none⟩) x.sn x.sn (some ⟨D3,0,none⟩) x.wn x.wn (some ⟨D4,0,none⟩) x.hn x.hn)).alloc (oQ4 (some ⟨E1,0,none⟩) x.pn x.pn (some ⟨E2,0,none⟩) x.sn x.sn (some ⟨E3,0,none⟩) x.wn x.wn (some ⟨E4,0,none⟩) x.hn x.hn))/\w.heap.size+2<=((w.alloc (oQ4 (some ⟨D1,0,none⟩) x.pn x.pn (some ⟨D2,0,none⟩) x.sn x.sn (some ⟨D3,0,none⟩) x.wn x.wn (some ⟨D4,0,none⟩) x.hn x.hn)).alloc (oQ4 (some ⟨E1,0,none⟩) x.pn x.pn (some ⟨E2,0,none⟩) x.sn x.sn (some ⟨E3,0,none⟩) x.wn x.wn (some ⟨E4,0,none⟩) x.hn x.hn)).heap.size):=by
  have n1:=BoxC.new w (.slice (some ⟨D1,0,none⟩) x.pn x.pn) (.slice (some ⟨D2,0,none⟩) x.sn x.sn) (.slice (some ⟨D3,0,none⟩) x.wn x.wn) (.slice (some ⟨D4,0,none⟩) x.hn x.hn) 29
  have n2:=BoxC.new (w.alloc (oQ4 (some ⟨D1,0,none⟩) x.pn x.pn (some ⟨D2,0,none⟩) x.sn x.sn (some ⟨D3,0,none⟩) x.wn x.wn (some ⟨D4,0,none⟩) x.hn x.hn)) (.slice (some ⟨E1,0,none⟩) x.pn x.pn) (.slice (some ⟨E2,0,none⟩) x.sn x.sn) (.slice (some ⟨E3,0,none⟩) x.wn x.wn) (.slice (some ⟨E4,0,none⟩) x.hn x.hn) 29
  simp only [World.size_alloc] at n2
  exact ⟨n1.below (below_allocS _ _),n2,((Below.refl _ _).alloc (Nat.le_refl _) _).alloc (by simp) _,by simp⟩
 go_wp2_with fail
 generalize (w.alloc (oQ4 (some ⟨D1,0,none⟩) x.pn x.pn (some ⟨D2,0,none⟩) x.sn x.sn (some ⟨D3,0,none⟩) x.wn x.wn (some ⟨D4,0,none⟩) x.hn x.hn)).alloc (oQ4 (some ⟨E1,0,none⟩) x.pn x.pn (some ⟨E2,0,none⟩) x.sn x.sn (some ⟨E3,0,none⟩) x.wn x.wn (some ⟨E4,0,none⟩) x.hn x.hn)=wA at *
 refine (eqInsSS_same D1 h1 E1 g1 x.pn _ _ x.pL b1 c1 x.pH _ (SysIn.lens HS.out).1.1 (sum_le (SysIn.lens HS.out).1.2) (P1.out.below X0.out.2.2.1 P1.out.le) (P2.out.below X0.out.2.2.1 P2.out.le)).mono ?_
 rintro e w1 ⟨rfl,b1'⟩
 have X1:Hid (BoxC w1 w.heap.size (.slice (some ⟨D1,0,none⟩) x.pn x.pn) (.slice (some ⟨D2,0,none⟩) x.sn x.sn) (.slice (some ⟨D3,0,none⟩) x.wn x.wn) (.slice (some ⟨D4,0,none⟩) x.hn x.hn)/\BoxC w1 (w.heap.size+1) (.slice (some ⟨E1,0,none⟩) x.pn x.pn) (.slice (some ⟨E2,0,none⟩) x.sn x.sn) (.slice (some ⟨E3,0,none⟩) x.wn x.wn) (.slice (some ⟨E4,0,none⟩) x.hn x.hn)/\Below w.heap.size w w1/\w.heap.size+2<=w1.heap.size):=⟨X0.out.1.below b1',X0.out.2.1.below b1',X0.out.2.2.1.trans (b1'.mono X0.out.2.2.1.size),zP X0.out.2.2.2 b1'.size⟩
 have BE1:Hid (Below w.heap.size w w1):=X1.out.2.2.1
 clear X0 b1'
 obtain ⟨⟨p0,p1,p2,p3⟩,⟨q0,q1,q2,q3⟩,-,le⟩:=X1.out
 go_wp2_with fail
 clear p0 p1 p2 p3 q0 q1 q2 q3 le
 refine (eqStateS_same D2 h2 E2 g2 x.sn _ _ x.sS vs us _ (SysIn.lens HS.out).2.1.1 (SysIn.lensS HS.out) (S1.out.below BE1.out S1.out.le) (S2.out.below BE1.out S2.out.le)).mono ?_
 rintro e w2 ⟨rfl,b2'⟩
 have X2:Hid (BoxC w2 w.heap.size (.slice (some ⟨D1,0,none⟩) x.pn x.pn) (.slice (some ⟨D2,0,none⟩) x.sn x.sn) (.slice (some ⟨D3,0,none⟩) x.wn x.wn) (.slice (some ⟨D4,0,none⟩) x.hn x.hn)/\BoxC w2 (w.heap.size+1) (.slice (some ⟨E1,0,none⟩) x.pn x.pn) (.slice (some ⟨E2,0,none⟩) x.sn x.sn) (.slice (some ⟨E3,0,none⟩) x.wn x.wn) (.slice (some ⟨E4,0,none⟩) x.hn x.hn)/\Below w.heap.size w w2/\w.heap.size+2<=w2.heap.size):=⟨X1.out.1.below b2',X1.out.2.1.below b2',X1.out.2.2.1.trans (b2'.mono X1.out.2.2.1.size),zP X1.out.2.2.2 b2'.size⟩
 have BE2:Hid (Below w.heap.size w w2):=X2.out.2.2.1
 clear X1 b2' BE1
 obtain ⟨⟨p0,p1,p2,p3⟩,⟨q0,q1,q2,q3⟩,-,le⟩:=X2.out
 go_wp2_with fail
 clear p0 p1 p2 p3 q0 q1 q2 q3 le
 refine (eqItemSS_same D3 h3 E3 g3 x.wn _ _ x.wL b3 c3 x.wH _ (SysIn.lens HS.out).2.2.1.1 (sum_le (SysIn.lens HS.out).2.2.1.2) (W1.out.below BE2.out W1.out.le) (W2.out.below BE2.out W2.out.le)).mono ?_
 rintro e w3 ⟨rfl,b3'⟩
 have X3:Hid (BoxC w3 w.heap.size (.slice (some ⟨D1,0,none⟩) x.pn x.pn) (.slice (some ⟨D2,0,none⟩) x.sn x.sn) (.slice (some ⟨D3,0,none⟩) x.wn x.wn) (.slice (some ⟨D4,0,none⟩) x.hn x.hn)/\BoxC w3 (w.heap.size+1) (.slice (some ⟨E1,0,none⟩) x.pn x.pn) (.slice (some ⟨E2,0,none⟩) x.sn x.sn) (.slice (some ⟨E3,0,none⟩) x.wn x.wn) (.slice (some ⟨E4,0,none⟩) x.hn x.hn)/\Below w.heap.size w w3/\w.heap.size+2<=w3.heap.size):=⟨X2.out.1.below b3',X2.out.2.1.below b3',X2.out.2.2.1.trans (b3'.mono X2.out.2.2.1.size),zP X2.out.2.2.2 b3'.size⟩
 have BE3:Hid (Below w.heap.size w w3):=X3.out.2.2.1
 clear X2 b3' BE2
 obtain ⟨⟨p0,p1,p2,p3⟩,⟨q0,q1,q2,q3⟩,-,le⟩:=X3.out
 go_wp2_with fail
 clear p0 p1 p2 p3 q0 q1 q2 q3 le
 refine (eqEventSS_same D4 u1 E4 u2 x.hn _ _ x.hL b4 c4 x.hH _ (SysIn.lens HS.out).2.2.2.1 (sum_le (SysIn.lens HS.out).2.2.2.2) (I1.out.below BE3.out I1.out.le) (I2.out.below BE3.out I2.out.le)).mono ?_
 rintro e w4 ⟨rfl,b4'⟩
 have X4:Hid (BoxC w4 w.heap.size (.slice (some ⟨D1,0,none⟩) x.pn x.pn) (.slice (some ⟨D2,0,none⟩) x.sn x.sn) (.slice (some ⟨D3,0,none⟩) x.wn x.wn) (.slice (some ⟨D4,0,none⟩) x.hn x.hn)/\BoxC w4 (w.heap.size+1) (.slice (some ⟨E1,0,none⟩) x.pn x.pn) (.slice (some ⟨E2,0,none⟩) x.sn x.sn) (.slice (some ⟨E3,0,none⟩) x.wn x.wn) (.slice (some ⟨E4,0,none⟩) x.hn x.hn)/\Below w.heap.size w w4/\w.heap.size+2<=w4.heap.size):=⟨X3.out.1.below b4',X3.out.2.1.below b4',X3.out.2.2.1.trans (b4'.mono X3.out.2.2.1.size),zP X3.out.2.2.2 b4'.size⟩
 have BE4:Hid (Below w.heap.size w w4):=X4.out.2.2.1
 clear X3 b4' BE3
 go_wp2
 go_ret
 exact ⟨rfl,BE4.out⟩
theorem open_sysE {H:Type} {enc:TypeId × Value->H} {w:World} {base b0:Nat} {held:Bool} {rc:Reach} {v:Value} {d:DataW H} {p:List MemPlace}
  (hv:Value.okWide Tryz.prog w rc b0 43 v) (h:DataW.Trod enc Tryz.prog w base (fun _=>true) held 43 v d p):
  ∃ x:SysIn,v=sysV x.pa x.pn x.pc x.sa x.sn x.sc x.wa x.wn x.wc x.ha x.hn x.hc/\x.Row w/\x.Max/\(x.size<=1048576->∃ y:SysIn,v=sysV y.pa y.pn y.pc y.sa y.sn y.sc y.wa y.wn y.wc y.ha y.hn y.hc/\y.Ok w/\y.size=x.size):=by
 obtain ⟨cs,rfl,hsz⟩:=okWide_struct Tryz.underlying43 hv
 have h4:Tryz.prog.cellsOf 43=4:=by kernel_rfl
 obtain ⟨c0,c1,c2,c3,rfl⟩:=array4 (hsz.trans h4)
 obtain ⟨fuel,hf⟩:=h
 have hf':DataW.trod enc Tryz.prog w base (fun _=>true) held fuel 43 [c0,c1,c2,c3]=some (d,p):=by simpa [Value.cells] using hf
 obtain ⟨xs,m,-,-,-,hl,hx⟩:=DataW.trod_struct Tryz.underlying43 hf'
 have hl:xs.length=4:=hl
 have k0:Tryz.prog.cellsOf 38=1:=by kernel_rfl
 have k1:Tryz.prog.cellsOf 39=1:=by kernel_rfl
 have k2:Tryz.prog.cellsOf 40=1:=by kernel_rfl
 have k3:Tryz.prog.cellsOf 41=1:=by kernel_rfl
 have q0:DataW.trod enc Tryz.prog w base (fun _=>true) held m 38 [c0]=xs[0]?:=by simpa [k0] using hx 0 _ rfl
 have q1:DataW.trod enc Tryz.prog w base (fun _=>true) held m 39 [c1]=xs[1]?:=by simpa [k1] using hx 1 _ rfl
 have q2:DataW.trod enc Tryz.prog w base (fun _=>true) held m 40 [c2]=xs[2]?:=by simpa [k2] using hx 2 _ rfl
 have q3:DataW.trod enc Tryz.prog w base (fun _=>true) held m 41 [c3]=xs[3]?:=by simpa [k3] using hx 3 _ rfl
 rw [List.getElem?_eq_getElem (by omega)] at q0 q1 q2 q3
 have sl:∀ {t el:TypeId} {c:Value} {y:DataW H × List MemPlace},Tryz.prog.underlying t=some (.slice el)->DataW.trod enc Tryz.prog w base (fun _=>true) held m t [c]=some y->∃ a l k,c=.slice a l k:=by
  intro t el c y hu hy
  rcases Go.Deep.open_slice hu hy with ⟨hcs,_⟩ | ⟨a,len',cap',m,n,D,Pl,hcs,_⟩
  ·simp at hcs
   exact ⟨_,_,_,hcs⟩
  ·simp at hcs
   exact ⟨_,_,_,hcs⟩
 obtain ⟨pa,pn,pc,rfl⟩:=sl Tryz.underlying38 q0
 obtain ⟨sa,sn,sc,rfl⟩:=sl Tryz.underlying39 q1
 obtain ⟨wa,wn,wc,rfl⟩:=sl Tryz.underlying40 q2
 obtain ⟨ha,hn,hc,rfl⟩:=sl Tryz.underlying41 q3
 obtain ⟨m0,pA,pL,pC,r0,x0,g0⟩:=open_InsSS (d:=(xs[0]'(by omega)).1) (p:=(xs[0]'(by omega)).2) ⟨m,by simpa [Value.cells] using q0⟩
 obtain ⟨m1,sQ,r1,x1⟩:=open_StateS (d:=(xs[1]'(by omega)).1) (p:=(xs[1]'(by omega)).2) ⟨m,by simpa [Value.cells] using q1⟩
 obtain ⟨m2,wA,wL,wC,r2,x2,g2⟩:=open_ItemSS (d:=(xs[2]'(by omega)).1) (p:=(xs[2]'(by omega)).2) ⟨m,by simpa [Value.cells] using q2⟩
 obtain ⟨m3,hA,hL,hC,r3,x3,g3⟩:=open_EventSS (d:=(xs[3]'(by omega)).1) (p:=(xs[3]'(by omega)).2) ⟨m,by simpa [Value.cells] using q3⟩
 refine ⟨⟨pa,pn,pc,pA,pL,pC,fun _ _=>⟨0,0,0,0,0⟩,sa,sn,sc,sQ,wa,wn,wc,wA,wL,wC,fun _ _=>⟨false,0⟩,ha,hn,hc,hA,hL,hC,fun _ _=>⟨0,0,0⟩⟩,rfl,⟨r0,r1,r2,r3⟩,⟨⟨m0,x0⟩,⟨m1,x1⟩,⟨m2,x2⟩,⟨m3,x3⟩⟩,fun hs=>?_⟩
 have hl:=SysIn.lens hs
 obtain ⟨pH,a0⟩:=g0 (sum_le hl.1.2)
 obtain ⟨wH,a2⟩:=g2 (sum_le hl.2.2.1.2)
 obtain ⟨hH,a3⟩:=g3 (sum_le hl.2.2.2.2)
 exact ⟨⟨pa,pn,pc,pA,pL,pC,pH,sa,sn,sc,sQ,wa,wn,wc,wA,wL,wC,wH,ha,hn,hc,hA,hL,hC,hH⟩,rfl,⟨a0,r1,a2,a3⟩,rfl⟩
theorem open_sys {H:Type} {enc:TypeId × Value->H} {w:World} {base b0:Nat} {held:Bool} {rc:Reach} {v:Value} {d:DataW H} {p:List MemPlace}
  (hv:Value.okWide Tryz.prog w rc b0 43 v) (h:DataW.Trod enc Tryz.prog w base (fun _=>true) held 43 v d p):
  ∃ x:SysIn,v=sysV x.pa x.pn x.pc x.sa x.sn x.sc x.wa x.wn x.wc x.ha x.hn x.hc/\x.Row w/\x.Max/\(x.size<=1048576->∃ y:SysIn,v=sysV y.pa y.pn y.pc y.sa y.sn y.sc y.wa y.wn y.wc y.ha y.hn y.hc/\y.Ok w/\y.size<=1048576):=by
 obtain ⟨x,e,hr,hm,hy⟩:=open_sysE hv h
 refine ⟨x,e,hr,hm,fun hs=>?_⟩
 obtain ⟨y,ey,ho,hz⟩:=hy hs
 exact ⟨y,ey,ho,hz ▸ hs⟩
open Go.Sort
theorem IsSys.g2 {w:World} {lo hi:Nat} {x:SysIn} {v:Value} (o:IsSys w lo hi x v):∃ x':SysIn,v=x'.v/\SysG w x'/\x'.y=x.y/\∀ i,i<x'.hn->x'.hL i<=x'.hC i:=by
 obtain ⟨D1,D2,D3,D4,b1,vs,b3,b4,h1,h2,h3,o⟩:=o
 obtain ⟨q1,q2,q3,q4,-⟩:=o.hi
 have hst:∀ i,i<x.sn->∃ t:Option Addr × Nat × Option Addr × Nat,vs i=stV (x.sS i).p t.1 (x.sS i).rs.length t.2.1 t.2.2.1 (x.sS i).os.length t.2.2.2 (x.sS i).c/\w.cell? ⟨D2,i*4,none⟩=some (.int .i64 (x.sS i).p)/\w.cell? ⟨D2,i*4+1,none⟩=some (.slice t.1 (x.sS i).rs.length t.2.1)/\w.cell? ⟨D2,i*4+2,none⟩=some (.slice t.2.2.1 (x.sS i).os.length t.2.2.2)/\w.cell? ⟨D2,i*4+3,none⟩=some (.int .i64 (x.sS i).c):=by
  intro i hi
  obtain ⟨ra,rc,oa,oc,e,c0,c1,c2,c3⟩:=o.ss.cel i hi
  exact ⟨(ra,rc,oa,oc),e,c0,c1,c2,c3⟩
 have inh:Inhabited (Option Addr × Nat × Option Addr × Nat):=⟨(none,0,none,0)⟩
 obtain ⟨t,ht⟩:=Go.Deep.choose_lt hst
 refine ⟨⟨some ⟨D1,0,none⟩,x.pn,x.pn,fun i=>some ⟨b1 i,0,none⟩,x.pL,x.pL,x.pH,some ⟨D2,0,none⟩,x.sn,x.sn,fun i=>⟨(x.sS i).p,(t i).1,(t i).2.1,(x.sS i).rs,(t i).2.2.1,(t i).2.2.2,(x.sS i).os,(x.sS i).c⟩,some ⟨D3,0,none⟩,x.wn,x.wn,fun i=>some ⟨b3 i,0,none⟩,x.wL,x.wL,x.wH,some ⟨D4,0,none⟩,x.hn,x.hn,fun i=>some ⟨b4 i,0,none⟩,x.hL,x.hL,x.hH⟩,o.val,?_,rfl,fun i _=>Nat.le_refl _⟩
 have l1:=o.pp.lt
 have l2:=o.ss.lt
 have l3:=o.ww.lt
 have l4:=o.hh.lt
 refine ⟨.inr ⟨D1,0,rfl,by omega,fun i hi=>?_⟩,fun i hi=>⟨b1 i,rfl,zL (o.pp.bd i hi).2 o.pp.le,o.pp.row i hi⟩,⟨.inr ⟨D2,0,rfl,by omega,fun i hi=>?_⟩,fun i hi=>?_⟩,.inr ⟨D3,0,rfl,by omega,fun i hi=>?_⟩,fun i hi=>.inr ⟨b3 i,0,rfl,zL (o.ww.bd i hi).2 o.ww.le,o.ww.row i hi⟩,.inr ⟨D4,0,rfl,by omega,fun i hi=>?_⟩,fun i hi=>.inr ⟨b4 i,0,rfl,zL (o.hh.bd i hi).2 o.hh.le,o.hh.row i hi⟩⟩
 ·have:=o.pp.cel i hi
  simpa using this
 ·have:=(ht i hi).2
  simpa using this
 ·have h4:=o.ss.own i hi
  rw [(ht i hi).1] at h4
  exact ⟨h4.parts.1.slOf,h4.parts.2.1.slOf⟩
 ·have:=o.ww.cel i hi
  simpa using this
 ·have:=o.hh.cel i hi
  simpa using this
theorem SysIn.len_of {x x':SysIn} (hs:x.size<=1048576) (hy:x'.y=x.y):x'.Len:=by
 have l:=SysIn.lens hs
 have e1:x'.pn=x.pn:=congrArg Sy.pn hy
 have e2:x'.pL=x.pL:=congrArg Sy.pL hy
 have e3:x'.sn=x.sn:=congrArg Sy.sn hy
 have e4:x'.sS=x.sS:=congrArg Sy.sS hy
 have e5:x'.wn=x.wn:=congrArg Sy.wn hy
 have e6:x'.wL=x.wL:=congrArg Sy.wL hy
 have e7:x'.hn=x.hn:=congrArg Sy.hn hy
 have e8:x'.hL=x.hL:=congrArg Sy.hL hy
 refine ⟨⟨by omega,fun i hi=>?_⟩,⟨by omega,fun i hi=>?_⟩,⟨by omega,fun i hi=>?_⟩,⟨by omega,fun i hi=>?_⟩⟩
 ·rw [e2]
  exact sum_le l.1.2 i (by omega)
 ·have h1:=SysIn.lensS hs i (by omega)
  have h2:x'.sS i=x.sS i:=by rw [e4]
  have h3:(x'.sQ i).rs=(x.sQ i).rs:=congrArg S4.rs h2
  have h4:(x'.sQ i).os=(x.sQ i).os:=congrArg S4.os h2
  rw [h3,h4]
  exact h1
 ·rw [e6]
  exact sum_le l.2.2.1.2 i (by omega)
 ·rw [e8]
  exact sum_le l.2.2.2.2 i (by omega)
