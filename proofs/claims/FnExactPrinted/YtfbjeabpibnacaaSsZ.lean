/- Systems: copied, held against each other, marked, opened. -/
import Derived.Test.YtfbjeabpibnacaaSsY
namespace Go.Proofs.Ytfbjeabpibnacaa
open Go.ChangeShapes Go.WideShapes Go.ChangeAt Go.RowKit Go.Deep

theorem below_allocS (w : World) (o : Obj) : Below w.heap.size w (w.alloc o) := (Below.refl _ _).alloc (Nat.le_refl _) _
theorem sum_le {n : Nat} {ls : Nat → Nat} {N : Nat} (h : sumL ls n ≤ N) : ∀ i, i < n → ls i ≤ N := fun i hi => by
  have := sumL_at ls hi
  omega
theorem SysIn.lens {x : SysIn} (h : x.size ≤ 1048576) : (x.pn ≤ 1048576 ∧ sumL x.pL x.pn ≤ 1048576) ∧ (x.sn ≤ 1048576 ∧ sumL (lenS x.sS) x.sn ≤ 1048576) ∧ (x.wn ≤ 1048576 ∧ sumL x.wL x.wn ≤ 1048576) ∧ (x.hn ≤ 1048576 ∧ sumL x.hL x.hn ≤ 1048576) := by
  unfold SysIn.size at h
  omega
theorem SysIn.lensS {x : SysIn} (h : x.size ≤ 1048576) : ∀ i, i < x.sn → (x.sQ i).rs.length ≤ 1048576 ∧ (x.sQ i).os.length ≤ 1048576 := fun i hi => by
  have := sum_le (SysIn.lens h).2.1.2 i hi
  have e : lenS x.sS i = (x.sQ i).rs.length + (x.sQ i).os.length := rfl
  omega

/-- The three boxes of a copy that is being made: what came in, the answer's, the copy's. -/
structure TB (w wx : World) (a0 a1 a2 a3 o0 o1 o2 o3 : Value) : Prop where
  p : BoxC wx w.heap.size a0 a1 a2 a3
  r : BoxC wx (w.heap.size + 1) (.slice none 0 0) (.slice none 0 0) (.slice none 0 0) (.slice none 0 0)
  o : BoxC wx (w.heap.size + 1 + 1) o0 o1 o2 o3
  fr : ∀ j, wx.frozen? ⟨w.heap.size + 1, j, none⟩ = false
  fo : ∀ j, wx.frozen? ⟨w.heap.size + 1 + 1, j, none⟩ = false
  be : Below w.heap.size w wx
  le : w.heap.size + 3 ≤ wx.heap.size
theorem TB.below {w wx w' : World} {a0 a1 a2 a3 o0 o1 o2 o3 : Value} (h : TB w wx a0 a1 a2 a3 o0 o1 o2 o3) (hb : Below wx.heap.size wx w') : TB w w' a0 a1 a2 a3 o0 o1 o2 o3 :=
  ⟨h.p.below hb, h.r.below hb, h.o.below hb, fun j => (hb.frozen (p := ⟨w.heap.size + 1, j, none⟩) (by have := h.le; show w.heap.size + 1 < _; omega)).trans (h.fr j), fun j => (hb.frozen (p := ⟨w.heap.size + 1 + 1, j, none⟩) (by have := h.le; show w.heap.size + 1 + 1 < _; omega)).trans (h.fo j), h.be.trans (hb.mono h.be.size), Nat.le_trans h.le hb.size⟩
theorem TB.first {w : World} (a0 a1 a2 a3 : Value) (t1 t2 : TypeId) : TB w (((w.alloc (.cells #[a0, a1, a2, a3] t1)).alloc (.cells #[.slice none 0 0, .slice none 0 0, .slice none 0 0, .slice none 0 0] t2)).alloc (.cells #[.slice none 0 0, .slice none 0 0, .slice none 0 0, .slice none 0 0] t2)) a0 a1 a2 a3 (.slice none 0 0) (.slice none 0 0) (.slice none 0 0) (.slice none 0 0) := by
  have hb1 := below_allocS (w.alloc (.cells #[a0, a1, a2, a3] t1)) (.cells #[.slice none 0 0, .slice none 0 0, .slice none 0 0, .slice none 0 0] t2)
  have hb2 := below_allocS ((w.alloc (.cells #[a0, a1, a2, a3] t1)).alloc (.cells #[.slice none 0 0, .slice none 0 0, .slice none 0 0, .slice none 0 0] t2)) (.cells #[.slice none 0 0, .slice none 0 0, .slice none 0 0, .slice none 0 0] t2)
  have n0 := BoxC.new w a0 a1 a2 a3 t1
  have n1 := BoxC.new (w.alloc (.cells #[a0, a1, a2, a3] t1)) (.slice none 0 0) (.slice none 0 0) (.slice none 0 0) (.slice none 0 0) t2
  have n2 := BoxC.new ((w.alloc (.cells #[a0, a1, a2, a3] t1)).alloc (.cells #[.slice none 0 0, .slice none 0 0, .slice none 0 0, .slice none 0 0] t2)) (.slice none 0 0) (.slice none 0 0) (.slice none 0 0) (.slice none 0 0) t2
  have f1 := fun j => new_frozen (w.alloc (.cells #[a0, a1, a2, a3] t1)) #[.slice none 0 0, .slice none 0 0, .slice none 0 0, .slice none 0 0] t2 j rfl
  have f2 := fun j => new_frozen ((w.alloc (.cells #[a0, a1, a2, a3] t1)).alloc (.cells #[.slice none 0 0, .slice none 0 0, .slice none 0 0, .slice none 0 0] t2)) #[.slice none 0 0, .slice none 0 0, .slice none 0 0, .slice none 0 0] t2 j rfl
  simp only [World.size_alloc] at n1 n2 f1 f2
  refine ⟨(n0.below hb1).below hb2, n1.below hb2, n2, fun j => ?_, f2, ?_, by simp⟩
  · exact (hb2.frozen (p := ⟨w.heap.size + 1, j, none⟩) (by simp)).trans (f1 j)
  · exact (((Below.refl _ _).alloc (Nat.le_refl _) _).alloc (by simp) _).alloc (by simp; omega) _
theorem BoxC.setO {w : World} {N M j : Nat} {p a b c u : Value} (h : BoxC w N p a b c) (hne : M ≠ N) : BoxC (w.setCell ⟨M, j, none⟩ u) N p a b c := by
  obtain ⟨h0, h1, h2, h3⟩ := h
  have hc : ∀ i, (w.setCell ⟨M, j, none⟩ u).cell? ⟨N, i, none⟩ = w.cell? ⟨N, i, none⟩ := fun i => World.cell?_setCell_other _ _ _ _ fun e => hne (by injection e)
  exact ⟨(hc _).trans h0, (hc _).trans h1, (hc _).trans h2, (hc _).trans h3⟩
theorem TB.set0 {w wx : World} {a0 a1 a2 a3 o0 o1 o2 o3 : Value} (h : TB w wx a0 a1 a2 a3 o0 o1 o2 o3) (u : Value) : TB w (wx.setCell ⟨w.heap.size + 1 + 1, 0, none⟩ u) a0 a1 a2 a3 u o1 o2 o3 := by
  obtain ⟨q0, q1, q2, q3⟩ := h.o
  have hc : ∀ i, 0 ≠ i → (wx.setCell ⟨w.heap.size + 1 + 1, 0, none⟩ u).cell? ⟨w.heap.size + 1 + 1, i, none⟩ = wx.cell? ⟨w.heap.size + 1 + 1, i, none⟩ := fun i hi => World.cell?_setCell_other _ _ _ _ fun e => hi (by injection e)
  exact ⟨h.p.setO (by omega), h.r.setO (by omega), ⟨World.cell?_setCell_same _ _ _ q0, (hc _ (by omega)).trans q1, (hc _ (by omega)).trans q2, (hc _ (by omega)).trans q3⟩, fun j => by rw [World.frozen?_setCell]; exact h.fr j, fun j => by rw [World.frozen?_setCell]; exact h.fo j, h.be.setCell (by simp; omega) _, by simp; exact h.le⟩
theorem TB.set1 {w wx : World} {a0 a1 a2 a3 o0 o1 o2 o3 : Value} (h : TB w wx a0 a1 a2 a3 o0 o1 o2 o3) (u : Value) : TB w (wx.setCell ⟨w.heap.size + 1 + 1, 1, none⟩ u) a0 a1 a2 a3 o0 u o2 o3 := by
  obtain ⟨q0, q1, q2, q3⟩ := h.o
  have hc : ∀ i, 1 ≠ i → (wx.setCell ⟨w.heap.size + 1 + 1, 1, none⟩ u).cell? ⟨w.heap.size + 1 + 1, i, none⟩ = wx.cell? ⟨w.heap.size + 1 + 1, i, none⟩ := fun i hi => World.cell?_setCell_other _ _ _ _ fun e => hi (by injection e)
  exact ⟨h.p.setO (by omega), h.r.setO (by omega), ⟨(hc _ (by omega)).trans q0, World.cell?_setCell_same _ _ _ q1, (hc _ (by omega)).trans q2, (hc _ (by omega)).trans q3⟩, fun j => by rw [World.frozen?_setCell]; exact h.fr j, fun j => by rw [World.frozen?_setCell]; exact h.fo j, h.be.setCell (by simp; omega) _, by simp; exact h.le⟩
theorem TB.set2 {w wx : World} {a0 a1 a2 a3 o0 o1 o2 o3 : Value} (h : TB w wx a0 a1 a2 a3 o0 o1 o2 o3) (u : Value) : TB w (wx.setCell ⟨w.heap.size + 1 + 1, 2, none⟩ u) a0 a1 a2 a3 o0 o1 u o3 := by
  obtain ⟨q0, q1, q2, q3⟩ := h.o
  have hc : ∀ i, 2 ≠ i → (wx.setCell ⟨w.heap.size + 1 + 1, 2, none⟩ u).cell? ⟨w.heap.size + 1 + 1, i, none⟩ = wx.cell? ⟨w.heap.size + 1 + 1, i, none⟩ := fun i hi => World.cell?_setCell_other _ _ _ _ fun e => hi (by injection e)
  exact ⟨h.p.setO (by omega), h.r.setO (by omega), ⟨(hc _ (by omega)).trans q0, (hc _ (by omega)).trans q1, World.cell?_setCell_same _ _ _ q2, (hc _ (by omega)).trans q3⟩, fun j => by rw [World.frozen?_setCell]; exact h.fr j, fun j => by rw [World.frozen?_setCell]; exact h.fo j, h.be.setCell (by simp; omega) _, by simp; exact h.le⟩

set_option maxRecDepth 100000 in
set_option maxHeartbeats 2000000 in
theorem toSys_any (x : SysIn) (W w : World) (hs : x.size ≤ 1048576) (hA : x.Ok W) (hW : Below W.heap.size W w) :
    Calls Try.prog 6 #[sysV x.pa x.pn x.pc x.sa x.sn x.sc x.wa x.wn x.wc x.ha x.hn x.hc] w fun e w' => ∃ v, e = .returned v ∧ IsSys w' w.heap.size w'.heap.size x v ∧ Below w.heap.size w w' := by
  have HA : Hid (x.Ok W) := hA
  have HW : Hid (Below W.heap.size W w) := hW
  have HS : Hid (x.size ≤ 1048576) := hs
  have HWs : Hid (W.heap.size ≤ w.heap.size) := hW.size
  clear hA hW hs
  go_enter Try.func6, Try.ntmps6
  have T0 : Hid (TB w (((w.alloc (.cells #[.slice x.pa x.pn x.pc, .slice x.sa x.sn x.sc, .slice x.wa x.wn x.wc, .slice x.ha x.hn x.hc] 27)).alloc (.cells #[.slice none 0 0, .slice none 0 0, .slice none 0 0, .slice none 0 0] 36)).alloc (.cells #[.slice none 0 0, .slice none 0 0, .slice none 0 0, .slice none 0 0] 36)) (.slice x.pa x.pn x.pc) (.slice x.sa x.sn x.sc) (.slice x.wa x.wn x.wc) (.slice x.ha x.hn x.hc) (.slice none 0 0) (.slice none 0 0) (.slice none 0 0) (.slice none 0 0)) := TB.first _ _ _ _ _ _
  go_wp2_with fail
  generalize ((w.alloc (.cells #[.slice x.pa x.pn x.pc, .slice x.sa x.sn x.sc, .slice x.wa x.wn x.wc, .slice x.ha x.hn x.hc] 27)).alloc (.cells #[.slice none 0 0, .slice none 0 0, .slice none 0 0, .slice none 0 0] 36)).alloc (.cells #[.slice none 0 0, .slice none 0 0, .slice none 0 0, .slice none 0 0] 36) = wA at *
  refine (toInsSS_any _ _ _ _ x.pL _ x.pH W _ (SysIn.lens HS.out).1.1 HA.out.p (HW.out.trans (T0.out.be.mono HWs.out))).mono ?_
  rintro e w1 ⟨rfl, ⟨bs1, o1⟩, b1⟩
  have T1 : Hid (TB w w1 (.slice x.pa x.pn x.pc) (.slice x.sa x.sn x.sc) (.slice x.wa x.wn x.wc) (.slice x.ha x.hn x.hc) (.slice none 0 0) (.slice none 0 0) (.slice none 0 0) (.slice none 0 0)) := T0.out.below b1
  have O1 : Hid (OutIns w1 wA.heap.size w1.heap.size x.pn x.pL bs1 x.pH) := o1
  have zA : w.heap.size + 3 ≤ wA.heap.size := T0.out.le
  clear b1 T0 o1
  obtain ⟨⟨p0, p1, p2, p3⟩, -, ⟨q0, q1, q2, q3⟩, -, fo, -, le⟩ := T1.out
  go_wp2_with fail
  have T2 : Hid (TB w (w1.setCell ⟨w.heap.size + 1 + 1, 0, none⟩ (.slice (some ⟨wA.heap.size, 0, none⟩) x.pn x.pn)) (.slice x.pa x.pn x.pc) (.slice x.sa x.sn x.sc) (.slice x.wa x.wn x.wc) (.slice x.ha x.hn x.hc) (.slice (some ⟨wA.heap.size, 0, none⟩) x.pn x.pn) (.slice none 0 0) (.slice none 0 0) (.slice none 0 0)) := T1.out.set0 _
  have O2 : Hid (OutIns (w1.setCell ⟨w.heap.size + 1 + 1, 0, none⟩ (.slice (some ⟨wA.heap.size, 0, none⟩) x.pn x.pn)) wA.heap.size w1.heap.size x.pn x.pL bs1 x.pH) := O1.out.keep (by simp) fun k hk _ => Below.heap_setCell _ _ _ _ (by simp; omega)
  have h12 : w1.heap.size = (w1.setCell ⟨w.heap.size + 1 + 1, 0, none⟩ (.slice (some ⟨wA.heap.size, 0, none⟩) x.pn x.pn)).heap.size := by simp
  have l1 : wA.heap.size < w1.heap.size := O1.out.lt
  clear O1 T1 p0 p1 p2 p3 q0 q1 q2 q3 fo le
  generalize w1.setCell ⟨w.heap.size + 1 + 1, 0, none⟩ (.slice (some ⟨wA.heap.size, 0, none⟩) x.pn x.pn) = wB at *
  rw [h12] at O2 l1
  clear h12
  refine (toStateS_any _ _ _ x.sQ W wB (SysIn.lens HS.out).2.1.1 (SysIn.lensS HS.out) HA.out.s (HW.out.trans (T2.out.be.mono HWs.out))).mono ?_
  rintro e w2 ⟨rfl, ⟨vs, o2⟩, b2⟩
  have T3 : Hid (TB w w2 (.slice x.pa x.pn x.pc) (.slice x.sa x.sn x.sc) (.slice x.wa x.wn x.wc) (.slice x.ha x.hn x.hc) (.slice (some ⟨wA.heap.size, 0, none⟩) x.pn x.pn) (.slice none 0 0) (.slice none 0 0) (.slice none 0 0)) := T2.out.below b2
  have P3 : Hid (OutIns w2 wA.heap.size wB.heap.size x.pn x.pL bs1 x.pH) := O2.out.below b2 (Nat.le_refl _)
  have S3 : Hid (OutState w2 wB.heap.size w2.heap.size x.sn x.sS vs) := o2
  clear b2 T2 o2 O2
  obtain ⟨⟨p0, p1, p2, p3⟩, -, ⟨q0, q1, q2, q3⟩, -, fo, -, le⟩ := T3.out
  go_wp2_with fail
  have T4 : Hid (TB w (w2.setCell ⟨w.heap.size + 1 + 1, 1, none⟩ (.slice (some ⟨wB.heap.size, 0, none⟩) x.sn x.sn)) (.slice x.pa x.pn x.pc) (.slice x.sa x.sn x.sc) (.slice x.wa x.wn x.wc) (.slice x.ha x.hn x.hc) (.slice (some ⟨wA.heap.size, 0, none⟩) x.pn x.pn) (.slice (some ⟨wB.heap.size, 0, none⟩) x.sn x.sn) (.slice none 0 0) (.slice none 0 0)) := T3.out.set1 _
  have P4 : Hid (OutIns (w2.setCell ⟨w.heap.size + 1 + 1, 1, none⟩ (.slice (some ⟨wB.heap.size, 0, none⟩) x.sn x.sn)) wA.heap.size wB.heap.size x.pn x.pL bs1 x.pH) := P3.out.keep (by simp) fun k hk _ => Below.heap_setCell _ _ _ _ (by simp; omega)
  have S4' : Hid (OutState (w2.setCell ⟨w.heap.size + 1 + 1, 1, none⟩ (.slice (some ⟨wB.heap.size, 0, none⟩) x.sn x.sn)) wB.heap.size w2.heap.size x.sn x.sS vs) := S3.out.keep (by simp) fun k hk _ => Below.heap_setCell _ _ _ _ (by simp; omega)
  have h12 : w2.heap.size = (w2.setCell ⟨w.heap.size + 1 + 1, 1, none⟩ (.slice (some ⟨wB.heap.size, 0, none⟩) x.sn x.sn)).heap.size := by simp
  have l2 : wB.heap.size < w2.heap.size := S3.out.lt
  clear P3 S3 T3 p0 p1 p2 p3 q0 q1 q2 q3 fo le
  generalize w2.setCell ⟨w.heap.size + 1 + 1, 1, none⟩ (.slice (some ⟨wB.heap.size, 0, none⟩) x.sn x.sn) = wC at *
  rw [h12] at S4' l2
  clear h12
  refine (toItemSS_any _ _ _ _ x.wL _ x.wH W wC (SysIn.lens HS.out).2.2.1.1 HA.out.w (HW.out.trans (T4.out.be.mono HWs.out))).mono ?_
  rintro e w3 ⟨rfl, ⟨bs3, o3⟩, b3⟩
  have T5 : Hid (TB w w3 (.slice x.pa x.pn x.pc) (.slice x.sa x.sn x.sc) (.slice x.wa x.wn x.wc) (.slice x.ha x.hn x.hc) (.slice (some ⟨wA.heap.size, 0, none⟩) x.pn x.pn) (.slice (some ⟨wB.heap.size, 0, none⟩) x.sn x.sn) (.slice none 0 0) (.slice none 0 0)) := T4.out.below b3
  have P5 : Hid (OutIns w3 wA.heap.size wB.heap.size x.pn x.pL bs1 x.pH) := P4.out.below b3 (by omega)
  have S5 : Hid (OutState w3 wB.heap.size wC.heap.size x.sn x.sS vs) := S4'.out.below b3 (Nat.le_refl _)
  have W5 : Hid (OutItem w3 wC.heap.size w3.heap.size x.wn x.wL bs3 x.wH) := o3
  clear b3 T4 o3 P4 S4'
  obtain ⟨⟨p0, p1, p2, p3⟩, -, ⟨q0, q1, q2, q3⟩, -, fo, -, le⟩ := T5.out
  go_wp2_with fail
  have T6 : Hid (TB w (w3.setCell ⟨w.heap.size + 1 + 1, 2, none⟩ (.slice (some ⟨wC.heap.size, 0, none⟩) x.wn x.wn)) (.slice x.pa x.pn x.pc) (.slice x.sa x.sn x.sc) (.slice x.wa x.wn x.wc) (.slice x.ha x.hn x.hc) (.slice (some ⟨wA.heap.size, 0, none⟩) x.pn x.pn) (.slice (some ⟨wB.heap.size, 0, none⟩) x.sn x.sn) (.slice (some ⟨wC.heap.size, 0, none⟩) x.wn x.wn) (.slice none 0 0)) := T5.out.set2 _
  have P6 : Hid (OutIns (w3.setCell ⟨w.heap.size + 1 + 1, 2, none⟩ (.slice (some ⟨wC.heap.size, 0, none⟩) x.wn x.wn)) wA.heap.size wB.heap.size x.pn x.pL bs1 x.pH) := P5.out.keep (by simp) fun k hk _ => Below.heap_setCell _ _ _ _ (by simp; omega)
  have S6 : Hid (OutState (w3.setCell ⟨w.heap.size + 1 + 1, 2, none⟩ (.slice (some ⟨wC.heap.size, 0, none⟩) x.wn x.wn)) wB.heap.size wC.heap.size x.sn x.sS vs) := S5.out.keep (by simp) fun k hk _ => Below.heap_setCell _ _ _ _ (by simp; omega)
  have W6 : Hid (OutItem (w3.setCell ⟨w.heap.size + 1 + 1, 2, none⟩ (.slice (some ⟨wC.heap.size, 0, none⟩) x.wn x.wn)) wC.heap.size w3.heap.size x.wn x.wL bs3 x.wH) := W5.out.keep (by simp) fun k hk _ => Below.heap_setCell _ _ _ _ (by simp; omega)
  have h12 : w3.heap.size = (w3.setCell ⟨w.heap.size + 1 + 1, 2, none⟩ (.slice (some ⟨wC.heap.size, 0, none⟩) x.wn x.wn)).heap.size := by simp
  have l3 : wC.heap.size < w3.heap.size := W5.out.lt
  clear P5 S5 W5 T5 p0 p1 p2 p3 q0 q1 q2 q3 fo le
  generalize w3.setCell ⟨w.heap.size + 1 + 1, 2, none⟩ (.slice (some ⟨wC.heap.size, 0, none⟩) x.wn x.wn) = wD at *
  rw [h12] at W6 l3
  clear h12
  refine (toEventSS_any _ _ _ _ x.hL _ x.hH W wD (SysIn.lens HS.out).2.2.2.1 HA.out.h (HW.out.trans (T6.out.be.mono HWs.out))).mono ?_
  rintro e w4 ⟨rfl, ⟨bs4, o4⟩, b4⟩
  have T7 : Hid (TB w w4 (.slice x.pa x.pn x.pc) (.slice x.sa x.sn x.sc) (.slice x.wa x.wn x.wc) (.slice x.ha x.hn x.hc) (.slice (some ⟨wA.heap.size, 0, none⟩) x.pn x.pn) (.slice (some ⟨wB.heap.size, 0, none⟩) x.sn x.sn) (.slice (some ⟨wC.heap.size, 0, none⟩) x.wn x.wn) (.slice none 0 0)) := T6.out.below b4
  have HO : Hid (∀ W9 : World, (∀ k, w.heap.size + 3 ≤ k → W9.heap[k]? = w4.heap[k]?) → W9.heap.size = w4.heap.size → IsSys W9 w.heap.size W9.heap.size x (sysV (some ⟨wA.heap.size, 0, none⟩) x.pn x.pn (some ⟨wB.heap.size, 0, none⟩) x.sn x.sn (some ⟨wC.heap.size, 0, none⟩) x.wn x.wn (some ⟨wD.heap.size, 0, none⟩) x.hn x.hn)) := by
    intro W9 hk hz
    have o4' : OutEvent w4 wD.heap.size W9.heap.size x.hn x.hL bs4 x.hH := hz ▸ o4
    exact ⟨_, _, _, _, bs1, vs, bs3, bs4, wB.heap.size, wC.heap.size, wD.heap.size, rfl, (P6.out.below b4 (by omega)).keep (by omega) fun k h1 _ => hk k (by omega), (S6.out.below b4 (by omega)).keep (by omega) fun k h1 _ => hk k (by omega), (W6.out.below b4 (Nat.le_refl _)).keep (by omega) fun k h1 _ => hk k (by omega), o4'.keep (by omega) fun k h1 _ => hk k (by omega), by omega, Nat.le_refl _, Nat.le_refl _, Nat.le_refl _⟩
  clear b4 T6 o4 P6 S6 W6
  obtain ⟨-, ⟨r0, r1, r2, r3⟩, ⟨q0, q1, q2, q3⟩, fr, fo, be, le⟩ := T7.out
  have BE : Hid (Below w.heap.size w w4) := be
  clear be T7
  go_wp2
  refine bodyPost_ret (v := sysV (some ⟨wA.heap.size, 0, none⟩) x.pn x.pn (some ⟨wB.heap.size, 0, none⟩) x.sn x.sn (some ⟨wC.heap.size, 0, none⟩) x.wn x.wn (some ⟨wD.heap.size, 0, none⟩) x.hn x.hn) (by simp [results, Try.results6, go_sem, r0, r1, r2, r3]) rfl ⟨_, rfl, HO.out _ ?_ ?_, ?_⟩
  · intro k hk
    repeat (rw [Below.heap_setCell _ _ _ _ (by simp; omega)])
  · simp
  · have := BE.out
    go_grown

end Go.Proofs.Ytfbjeabpibnacaa
