/- The walk of the program's canRow, which takes back what it has put. -/
import Derived.Test.YtdfhpimdgfemjaaGreatDoorLa27
import Derived.Test.YtdfhpimdgfemjaaGreatDoorLa25
import Derived.Test.YtdfhpimdgfemjaaGreatDoorLa13
import Derived.Defers
import Derived.Deep.LoopGhost
import Derived.Deep.Cut
import Derived.Deep.MidRow
import Derived.Laws.EntriesVeiled
namespace Go.Proofs.YtdfhpimdgfemjaaGreatDoor
open Go.ChangeShapes Go.WideShapes Go.ChangeAt Go.RowKit Go.Deep

/-- A copy of a live system: that of the system, and behind it that of the shot. -/
def IsLive (w : World) (lo hi : Nat) (x : LvIn) (v : Value) : Prop := ∃ D1 D2 D3 D4 E1 E2 E3 m, v = .agg #[.slice (some ⟨D1, 0, none⟩) x.s.pn x.s.pn, .slice (some ⟨D2, 0, none⟩) x.s.sn x.s.sn, .slice (some ⟨D3, 0, none⟩) x.s.wn x.s.wn, .slice (some ⟨D4, 0, none⟩) x.s.hn x.s.hn, .bool x.h.on, .slice (some ⟨E1, 0, none⟩) x.h.cn x.h.cn, .slice (some ⟨E2, 0, none⟩) x.h.ol x.h.ol, .slice (some ⟨E3, 0, none⟩) x.h.kn x.h.kn] ∧ IsSys w lo m x.s (sysV (some ⟨D1, 0, none⟩) x.s.pn x.s.pn (some ⟨D2, 0, none⟩) x.s.sn x.s.sn (some ⟨D3, 0, none⟩) x.s.wn x.s.wn (some ⟨D4, 0, none⟩) x.s.hn x.s.hn) ∧ IsSh w m hi x.h (shV x.h.on (some ⟨E1, 0, none⟩) x.h.cn x.h.cn (some ⟨E2, 0, none⟩) x.h.ol x.h.ol (some ⟨E3, 0, none⟩) x.h.kn x.h.kn)
theorem IsSys.hi {w : World} {lo hi : Nat} {x : SysIn} {v : Value} (o : IsSys w lo hi x v) : lo < hi ∧ hi ≤ w.heap.size := by
  obtain ⟨D1, D2, D3, D4, b1, vs, b3, b4, h1, h2, h3, o⟩ := o
  exact ⟨o.hi.2.2.2.2, o.hi.2.2.2.1⟩
theorem IsLive.hi {w : World} {lo hi : Nat} {x : LvIn} {v : Value} (o : IsLive w lo hi x v) : lo < hi ∧ hi ≤ w.heap.size := by
  obtain ⟨D1, D2, D3, D4, E1, E2, E3, m, -, o1, o2⟩ := o
  have := o1.hi
  have := o2.hi
  omega
theorem IsLive.keep {w w' : World} {lo hi : Nat} {x : LvIn} {v : Value} (o : IsLive w lo hi x v) (hs : w.heap.size ≤ w'.heap.size) (hb : ∀ k, lo ≤ k → k < hi → w'.heap[k]? = w.heap[k]?) : IsLive w' lo hi x v := by
  obtain ⟨D1, D2, D3, D4, E1, E2, E3, m, e, o1, o2⟩ := o
  have q1 := o1.hi
  have q2 := o2.hi
  exact ⟨D1, D2, D3, D4, E1, E2, E3, m, e, o1.keep hs fun k h1 h2 => hb k h1 (by omega), o2.keep hs fun k h1 h2 => hb k (by omega) h2⟩
theorem IsLive.below {w w' : World} {lo hi : Nat} {x : LvIn} {v : Value} {B : Nat} (o : IsLive w lo hi x v) (hb : Below B w w') (hB : hi ≤ B) : IsLive w' lo hi x v := o.keep hb.size fun k _ h2 => hb.block k (by omega)
theorem IsSys.val {w : World} {lo hi : Nat} {x : SysIn} {v : Value} (o : IsSys w lo hi x v) : ∃ D1 D2 D3 D4, v = sysV (some ⟨D1, 0, none⟩) x.pn x.pn (some ⟨D2, 0, none⟩) x.sn x.sn (some ⟨D3, 0, none⟩) x.wn x.wn (some ⟨D4, 0, none⟩) x.hn x.hn := by
  obtain ⟨D1, D2, D3, D4, b1, vs, b3, b4, h1, h2, h3, o⟩ := o
  exact ⟨D1, D2, D3, D4, o.val⟩
theorem IsSh.val {w : World} {lo hi : Nat} {x : ShIn} {v : Value} (o : IsSh w lo hi x v) : ∃ E1 E2 E3, v = shV x.on (some ⟨E1, 0, none⟩) x.cn x.cn (some ⟨E2, 0, none⟩) x.ol x.ol (some ⟨E3, 0, none⟩) x.kn x.kn := by
  obtain ⟨D1, D2, D3, bs, o⟩ := o
  exact ⟨D1, D2, D3, o.val⟩

/-- The three boxes of a copy that is being made. -/
structure TH (w wx : World) (a : Nat → Value) (o : Nat → Value) : Prop where
  p : ∀ i, i < 8 → wx.cell? ⟨w.heap.size, i, none⟩ = some (a i)
  r : BoxH wx (w.heap.size + 1) (.slice none 0 0) (.slice none 0 0) (.slice none 0 0) (.slice none 0 0) (.bool false) (.slice none 0 0) (.slice none 0 0) (.slice none 0 0)
  o : ∀ i, i < 8 → wx.cell? ⟨w.heap.size + 1 + 1, i, none⟩ = some (o i)
  fr : ∀ j, wx.frozen? ⟨w.heap.size + 1, j, none⟩ = false
  fo : ∀ j, wx.frozen? ⟨w.heap.size + 1 + 1, j, none⟩ = false
  be : Below w.heap.size w wx
  le : w.heap.size + 3 ≤ wx.heap.size
theorem TH.below {w wx w' : World} {a o : Nat → Value} (h : TH w wx a o) (hb : Below wx.heap.size wx w') : TH w w' a o := by
  have hl := h.le
  exact ⟨fun i hi => (World.cell?_of_block (hb.block w.heap.size (by omega))).trans (h.p i hi), h.r.below hb, fun i hi => (World.cell?_of_block (hb.block (w.heap.size + 1 + 1) (by omega))).trans (h.o i hi), fun j => (hb_frozen hb (by omega) j).trans (h.fr j), fun j => (hb_frozen hb (by omega) j).trans (h.fo j), h.be.trans (hb.mono h.be.size), Nat.le_trans hl hb.size⟩
theorem TH.set {w wx : World} {a o : Nat → Value} (h : TH w wx a o) (k : Nat) (hk : k < 8) (u : Value) : TH w (wx.setCell ⟨w.heap.size + 1 + 1, k, none⟩ u) a (fun i => if i = k then u else o i) := by
  have hl := h.le
  have hne : ∀ b, b ≠ w.heap.size + 1 + 1 → (wx.setCell ⟨w.heap.size + 1 + 1, k, none⟩ u).heap[b]? = wx.heap[b]? := fun b hb => Below.heap_setCell _ _ _ _ hb
  refine ⟨fun i hi => (World.cell?_of_block (hne w.heap.size (by omega))).trans (h.p i hi), h.r.blk (hne _ (by omega)), fun i hi => ?_, fun j => by rw [World.frozen?_setCell]; exact h.fr j, fun j => by rw [World.frozen?_setCell]; exact h.fo j, h.be.setCell (by simp; omega) _, by simp; exact hl⟩
  by_cases e : i = k
  · subst e
    rw [if_pos rfl]
    exact World.cell?_setCell_same _ _ _ (h.o i hi)
  · rw [if_neg e]
    exact (World.cell?_setCell_other _ _ _ _ fun e' => e (by injection e' with _ e'; exact e'.symm)).trans (h.o i hi)
def v8 (c0 c1 c2 c3 c4 c5 c6 c7 : Value) : Nat → Value
  | 0 => c0 | 1 => c1 | 2 => c2 | 3 => c3 | 4 => c4 | 5 => c5 | 6 => c6 | _ => c7
theorem box8 {w : World} {b : Nat} {c0 c1 c2 c3 c4 c5 c6 c7 : Value} (h : BoxH w b c0 c1 c2 c3 c4 c5 c6 c7) : ∀ i, i < 8 → w.cell? ⟨b, i, none⟩ = some (v8 c0 c1 c2 c3 c4 c5 c6 c7 i) := by
  intro i hi
  obtain ⟨h0, h1, h2, h3, h4, h5, h6, h7⟩ := h
  match i, hi with
  | 0, _ => exact h0
  | 1, _ => exact h1
  | 2, _ => exact h2
  | 3, _ => exact h3
  | 4, _ => exact h4
  | 5, _ => exact h5
  | 6, _ => exact h6
  | 7, _ => exact h7
theorem TH.first {w : World} (a0 a1 a2 a3 a4 a5 a6 a7 : Value) (t1 t2 : TypeId) : TH w (((w.alloc (.cells #[a0, a1, a2, a3, a4, a5, a6, a7] t1)).alloc (.cells #[.slice none 0 0, .slice none 0 0, .slice none 0 0, .slice none 0 0, .bool false, .slice none 0 0, .slice none 0 0, .slice none 0 0] t2)).alloc (.cells #[.slice none 0 0, .slice none 0 0, .slice none 0 0, .slice none 0 0, .bool false, .slice none 0 0, .slice none 0 0, .slice none 0 0] t2)) (v8 a0 a1 a2 a3 a4 a5 a6 a7) (v8 (.slice none 0 0) (.slice none 0 0) (.slice none 0 0) (.slice none 0 0) (.bool false) (.slice none 0 0) (.slice none 0 0) (.slice none 0 0)) := by
  have hb1 := below_allocS (w.alloc (.cells #[a0, a1, a2, a3, a4, a5, a6, a7] t1)) (.cells #[.slice none 0 0, .slice none 0 0, .slice none 0 0, .slice none 0 0, .bool false, .slice none 0 0, .slice none 0 0, .slice none 0 0] t2)
  have hb2 := below_allocS ((w.alloc (.cells #[a0, a1, a2, a3, a4, a5, a6, a7] t1)).alloc (.cells #[.slice none 0 0, .slice none 0 0, .slice none 0 0, .slice none 0 0, .bool false, .slice none 0 0, .slice none 0 0, .slice none 0 0] t2)) (.cells #[.slice none 0 0, .slice none 0 0, .slice none 0 0, .slice none 0 0, .bool false, .slice none 0 0, .slice none 0 0, .slice none 0 0] t2)
  have n0 := BoxH.new w a0 a1 a2 a3 a4 a5 a6 a7 t1
  have n1 := BoxH.new (w.alloc (.cells #[a0, a1, a2, a3, a4, a5, a6, a7] t1)) (.slice none 0 0) (.slice none 0 0) (.slice none 0 0) (.slice none 0 0) (.bool false) (.slice none 0 0) (.slice none 0 0) (.slice none 0 0) t2
  have n2 := BoxH.new ((w.alloc (.cells #[a0, a1, a2, a3, a4, a5, a6, a7] t1)).alloc (.cells #[.slice none 0 0, .slice none 0 0, .slice none 0 0, .slice none 0 0, .bool false, .slice none 0 0, .slice none 0 0, .slice none 0 0] t2)) (.slice none 0 0) (.slice none 0 0) (.slice none 0 0) (.slice none 0 0) (.bool false) (.slice none 0 0) (.slice none 0 0) (.slice none 0 0) t2
  have f1 := fun j => new_frozen (w.alloc (.cells #[a0, a1, a2, a3, a4, a5, a6, a7] t1)) #[.slice none 0 0, .slice none 0 0, .slice none 0 0, .slice none 0 0, .bool false, .slice none 0 0, .slice none 0 0, .slice none 0 0] t2 j rfl
  have f2 := fun j => new_frozen ((w.alloc (.cells #[a0, a1, a2, a3, a4, a5, a6, a7] t1)).alloc (.cells #[.slice none 0 0, .slice none 0 0, .slice none 0 0, .slice none 0 0, .bool false, .slice none 0 0, .slice none 0 0, .slice none 0 0] t2)) #[.slice none 0 0, .slice none 0 0, .slice none 0 0, .slice none 0 0, .bool false, .slice none 0 0, .slice none 0 0, .slice none 0 0] t2 j rfl
  simp only [World.size_alloc] at n1 n2 f1 f2
  refine ⟨box8 ((n0.below hb1).below hb2), n1.below hb2, box8 n2, fun j => ?_, f2, ?_, by simp⟩
  · exact (hb2.frozen (p := ⟨w.heap.size + 1, j, none⟩) (by simp)).trans (f1 j)
  · exact (((Below.refl _ _).alloc (Nat.le_refl _) _).alloc (by simp) _).alloc (by simp; omega) _

set_option maxRecDepth 100000 in
set_option maxHeartbeats 2000000 in
theorem toLive_any (x : LvIn) (W w : World) (hs : x.size ≤ 1048576) (hA : x.Ok W) (hW : Below W.heap.size W w) :
    Calls Tryz.prog 20 #[x.v] w fun e w' => ∃ v, e = .returned v ∧ IsLive w' w.heap.size w'.heap.size x v ∧ Below w.heap.size w w' := by
  have hz1 : x.s.size ≤ 1048576 := by unfold LvIn.size at hs; omega
  have hz2 : x.h.size ≤ 1048576 := by unfold LvIn.size at hs; omega
  have HA : Hid (x.Ok W) := hA
  have HW : Hid (Below W.heap.size W w) := hW
  have HWs : Hid (W.heap.size ≤ w.heap.size) := hW.size
  clear hA hW hs
  go_enter Tryz.func20, Tryz.ntmps20
  have T1 : Hid (TH w (((w.alloc (.cells #[.slice x.s.pa x.s.pn x.s.pc, .slice x.s.sa x.s.sn x.s.sc, .slice x.s.wa x.s.wn x.s.wc, .slice x.s.ha x.s.hn x.s.hc, .bool x.h.on, .slice x.h.ca x.h.cn x.h.cc, .slice x.h.oa x.h.ol x.h.oc, .slice x.h.ka x.h.kn x.h.kc] 51)).alloc (.cells #[.slice none 0 0, .slice none 0 0, .slice none 0 0, .slice none 0 0, .bool false, .slice none 0 0, .slice none 0 0, .slice none 0 0] 41)).alloc (.cells #[.slice none 0 0, .slice none 0 0, .slice none 0 0, .slice none 0 0, .bool false, .slice none 0 0, .slice none 0 0, .slice none 0 0] 41)) (v8 (.slice x.s.pa x.s.pn x.s.pc) (.slice x.s.sa x.s.sn x.s.sc) (.slice x.s.wa x.s.wn x.s.wc) (.slice x.s.ha x.s.hn x.s.hc) (.bool x.h.on) (.slice x.h.ca x.h.cn x.h.cc) (.slice x.h.oa x.h.ol x.h.oc) (.slice x.h.ka x.h.kn x.h.kc)) (v8 (.slice none 0 0) (.slice none 0 0) (.slice none 0 0) (.slice none 0 0) (.bool false) (.slice none 0 0) (.slice none 0 0) (.slice none 0 0))) := TH.first _ _ _ _ _ _ _ _ _ _
  go_wp2_with fail
  generalize ((w.alloc (.cells #[.slice x.s.pa x.s.pn x.s.pc, .slice x.s.sa x.s.sn x.s.sc, .slice x.s.wa x.s.wn x.s.wc, .slice x.s.ha x.s.hn x.s.hc, .bool x.h.on, .slice x.h.ca x.h.cn x.h.cc, .slice x.h.oa x.h.ol x.h.oc, .slice x.h.ka x.h.kn x.h.kc] 51)).alloc (.cells #[.slice none 0 0, .slice none 0 0, .slice none 0 0, .slice none 0 0, .bool false, .slice none 0 0, .slice none 0 0, .slice none 0 0] 41)).alloc (.cells #[.slice none 0 0, .slice none 0 0, .slice none 0 0, .slice none 0 0, .bool false, .slice none 0 0, .slice none 0 0, .slice none 0 0] 41) = wA at *
  refine (toSys_any x.s W wA hz1 HA.out.s (HW.out.trans (T1.out.be.mono HWs.out))).mono ?_
  rintro e w1 ⟨v1, rfl, o1, b1⟩
  obtain ⟨D1, D2, D3, D4, rfl⟩ := o1.val
  have T2 : Hid (TH w w1 (v8 (.slice x.s.pa x.s.pn x.s.pc) (.slice x.s.sa x.s.sn x.s.sc) (.slice x.s.wa x.s.wn x.s.wc) (.slice x.s.ha x.s.hn x.s.hc) (.bool x.h.on) (.slice x.h.ca x.h.cn x.h.cc) (.slice x.h.oa x.h.ol x.h.oc) (.slice x.h.ka x.h.kn x.h.kc)) (v8 (.slice none 0 0) (.slice none 0 0) (.slice none 0 0) (.slice none 0 0) (.bool false) (.slice none 0 0) (.slice none 0 0) (.slice none 0 0))) := T1.out.below b1
  have S1 : Hid (IsSys w1 wA.heap.size w1.heap.size x.s (sysV (some ⟨D1, 0, none⟩) x.s.pn x.s.pn (some ⟨D2, 0, none⟩) x.s.sn x.s.sn (some ⟨D3, 0, none⟩) x.s.wn x.s.wn (some ⟨D4, 0, none⟩) x.s.hn x.s.hn)) := o1
  have zA : w.heap.size + 3 ≤ wA.heap.size := T1.out.le
  clear o1 b1 T1
  have p0 := T2.out.p 0 (by omega)
  have p1 := T2.out.p 1 (by omega)
  have p2 := T2.out.p 2 (by omega)
  have p3 := T2.out.p 3 (by omega)
  have p4 := T2.out.p 4 (by omega)
  have p5 := T2.out.p 5 (by omega)
  have p6 := T2.out.p 6 (by omega)
  have p7 := T2.out.p 7 (by omega)
  have q0 := T2.out.o 0 (by omega)
  have q1 := T2.out.o 1 (by omega)
  have q2 := T2.out.o 2 (by omega)
  have q3 := T2.out.o 3 (by omega)
  have fo := T2.out.fo
  simp only [v8] at p0 p1 p2 p3 p4 p5 p6 p7 q0 q1 q2 q3
  have T3 : Hid (TH w ((((w1.setCell ⟨w.heap.size + 1 + 1, 0, none⟩ (.slice (some ⟨D1, 0, none⟩) x.s.pn x.s.pn)).setCell ⟨w.heap.size + 1 + 1, 1, none⟩ (.slice (some ⟨D2, 0, none⟩) x.s.sn x.s.sn)).setCell ⟨w.heap.size + 1 + 1, 2, none⟩ (.slice (some ⟨D3, 0, none⟩) x.s.wn x.s.wn)).setCell ⟨w.heap.size + 1 + 1, 3, none⟩ (.slice (some ⟨D4, 0, none⟩) x.s.hn x.s.hn)) (v8 (.slice x.s.pa x.s.pn x.s.pc) (.slice x.s.sa x.s.sn x.s.sc) (.slice x.s.wa x.s.wn x.s.wc) (.slice x.s.ha x.s.hn x.s.hc) (.bool x.h.on) (.slice x.h.ca x.h.cn x.h.cc) (.slice x.h.oa x.h.ol x.h.oc) (.slice x.h.ka x.h.kn x.h.kc)) (fun i => if i = 3 then .slice (some ⟨D4, 0, none⟩) x.s.hn x.s.hn else if i = 2 then .slice (some ⟨D3, 0, none⟩) x.s.wn x.s.wn else if i = 1 then .slice (some ⟨D2, 0, none⟩) x.s.sn x.s.sn else if i = 0 then .slice (some ⟨D1, 0, none⟩) x.s.pn x.s.pn else v8 (.slice none 0 0) (.slice none 0 0) (.slice none 0 0) (.slice none 0 0) (.bool false) (.slice none 0 0) (.slice none 0 0) (.slice none 0 0) i)) := (((T2.out.set 0 (by omega) _).set 1 (by omega) _).set 2 (by omega) _).set 3 (by omega) _
  have S2 : Hid (IsSys ((((w1.setCell ⟨w.heap.size + 1 + 1, 0, none⟩ (.slice (some ⟨D1, 0, none⟩) x.s.pn x.s.pn)).setCell ⟨w.heap.size + 1 + 1, 1, none⟩ (.slice (some ⟨D2, 0, none⟩) x.s.sn x.s.sn)).setCell ⟨w.heap.size + 1 + 1, 2, none⟩ (.slice (some ⟨D3, 0, none⟩) x.s.wn x.s.wn)).setCell ⟨w.heap.size + 1 + 1, 3, none⟩ (.slice (some ⟨D4, 0, none⟩) x.s.hn x.s.hn)) wA.heap.size ((((w1.setCell ⟨w.heap.size + 1 + 1, 0, none⟩ (.slice (some ⟨D1, 0, none⟩) x.s.pn x.s.pn)).setCell ⟨w.heap.size + 1 + 1, 1, none⟩ (.slice (some ⟨D2, 0, none⟩) x.s.sn x.s.sn)).setCell ⟨w.heap.size + 1 + 1, 2, none⟩ (.slice (some ⟨D3, 0, none⟩) x.s.wn x.s.wn)).setCell ⟨w.heap.size + 1 + 1, 3, none⟩ (.slice (some ⟨D4, 0, none⟩) x.s.hn x.s.hn)).heap.size x.s (sysV (some ⟨D1, 0, none⟩) x.s.pn x.s.pn (some ⟨D2, 0, none⟩) x.s.sn x.s.sn (some ⟨D3, 0, none⟩) x.s.wn x.s.wn (some ⟨D4, 0, none⟩) x.s.hn x.s.hn)) := by
    have := S1.out.keep (w' := (((w1.setCell ⟨w.heap.size + 1 + 1, 0, none⟩ (.slice (some ⟨D1, 0, none⟩) x.s.pn x.s.pn)).setCell ⟨w.heap.size + 1 + 1, 1, none⟩ (.slice (some ⟨D2, 0, none⟩) x.s.sn x.s.sn)).setCell ⟨w.heap.size + 1 + 1, 2, none⟩ (.slice (some ⟨D3, 0, none⟩) x.s.wn x.s.wn)).setCell ⟨w.heap.size + 1 + 1, 3, none⟩ (.slice (some ⟨D4, 0, none⟩) x.s.hn x.s.hn)) (by simp) fun k h1 _ => by
      repeat (rw [Below.heap_setCell _ _ _ _ (by simp; omega)])
    have ez : ((((w1.setCell ⟨w.heap.size + 1 + 1, 0, none⟩ (.slice (some ⟨D1, 0, none⟩) x.s.pn x.s.pn)).setCell ⟨w.heap.size + 1 + 1, 1, none⟩ (.slice (some ⟨D2, 0, none⟩) x.s.sn x.s.sn)).setCell ⟨w.heap.size + 1 + 1, 2, none⟩ (.slice (some ⟨D3, 0, none⟩) x.s.wn x.s.wn)).setCell ⟨w.heap.size + 1 + 1, 3, none⟩ (.slice (some ⟨D4, 0, none⟩) x.s.hn x.s.hn)).heap.size = w1.heap.size := by simp
    rw [ez]
    exact this
  clear T2 S1
  go_wp2_with fail
  generalize (((w1.setCell ⟨w.heap.size + 1 + 1, 0, none⟩ (.slice (some ⟨D1, 0, none⟩) x.s.pn x.s.pn)).setCell ⟨w.heap.size + 1 + 1, 1, none⟩ (.slice (some ⟨D2, 0, none⟩) x.s.sn x.s.sn)).setCell ⟨w.heap.size + 1 + 1, 2, none⟩ (.slice (some ⟨D3, 0, none⟩) x.s.wn x.s.wn)).setCell ⟨w.heap.size + 1 + 1, 3, none⟩ (.slice (some ⟨D4, 0, none⟩) x.s.hn x.s.hn) = wB at *
  clear p0 p1 p2 p3 p4 p5 p6 p7 q0 q1 q2 q3 fo
  refine (toShot_any x.h W wB hz2 HA.out.h (HW.out.trans (T3.out.be.mono HWs.out))).mono ?_
  rintro e w2 ⟨v2, rfl, o2, b2⟩
  obtain ⟨E1, E2, E3, rfl⟩ := o2.val
  have T4 := T3.out.below b2
  have HO : Hid (∀ W9 : World, (∀ k, w.heap.size + 3 ≤ k → W9.heap[k]? = w2.heap[k]?) → W9.heap.size = w2.heap.size → IsLive W9 w.heap.size W9.heap.size x (.agg #[.slice (some ⟨D1, 0, none⟩) x.s.pn x.s.pn, .slice (some ⟨D2, 0, none⟩) x.s.sn x.s.sn, .slice (some ⟨D3, 0, none⟩) x.s.wn x.s.wn, .slice (some ⟨D4, 0, none⟩) x.s.hn x.s.hn, .bool x.h.on, .slice (some ⟨E1, 0, none⟩) x.h.cn x.h.cn, .slice (some ⟨E2, 0, none⟩) x.h.ol x.h.ol, .slice (some ⟨E3, 0, none⟩) x.h.kn x.h.kn])) := by
    intro W9 hk hz
    have o2' : IsSh w2 wB.heap.size W9.heap.size x.h (shV x.h.on (some ⟨E1, 0, none⟩) x.h.cn x.h.cn (some ⟨E2, 0, none⟩) x.h.ol x.h.ol (some ⟨E3, 0, none⟩) x.h.kn x.h.kn) := hz ▸ o2
    have q1 := S2.out.hi
    have q2 := o2'.hi
    have o1' : IsSys W9 wA.heap.size wB.heap.size x.s (sysV (some ⟨D1, 0, none⟩) x.s.pn x.s.pn (some ⟨D2, 0, none⟩) x.s.sn x.s.sn (some ⟨D3, 0, none⟩) x.s.wn x.s.wn (some ⟨D4, 0, none⟩) x.s.hn x.s.hn) := (S2.out.below b2 (Nat.le_refl _)).keep (by omega) fun k h1 _ => hk k (by omega)
    refine ⟨D1, D2, D3, D4, E1, E2, E3, wB.heap.size, rfl, ?_, o2'.keep (by omega) fun k h1 _ => hk k (by omega)⟩
    obtain ⟨C1, C2, C3, C4, b1, vs, b3, b4, h1, h2, h3, o⟩ := o1'
    exact ⟨C1, C2, C3, C4, b1, vs, b3, b4, h1, h2, h3, o.val, o.pp, o.ss, o.ww, o.hh, by have := o.lo; omega, o.o1, o.o2, o.o3⟩
  clear b2 T3 o2 S2
  obtain ⟨-, ⟨r0, r1, r2, r3, r4, r5, r6, r7⟩, ho, fr, fo, be, le⟩ := T4
  have q0 := ho 0 (by omega)
  have q1 := ho 1 (by omega)
  have q2 := ho 2 (by omega)
  have q3 := ho 3 (by omega)
  have q4 := ho 4 (by omega)
  have q5 := ho 5 (by omega)
  have q6 := ho 6 (by omega)
  have q7 := ho 7 (by omega)
  simp [v8] at q0 q1 q2 q3 q4 q5 q6 q7
  have BE : Hid (Below w.heap.size w w2) := be
  clear be ho
  go_wp2
  refine bodyPost_ret (v := .agg #[.slice (some ⟨D1, 0, none⟩) x.s.pn x.s.pn, .slice (some ⟨D2, 0, none⟩) x.s.sn x.s.sn, .slice (some ⟨D3, 0, none⟩) x.s.wn x.s.wn, .slice (some ⟨D4, 0, none⟩) x.s.hn x.s.hn, .bool x.h.on, .slice (some ⟨E1, 0, none⟩) x.h.cn x.h.cn, .slice (some ⟨E2, 0, none⟩) x.h.ol x.h.ol, .slice (some ⟨E3, 0, none⟩) x.h.kn x.h.kn]) (by simp [results, Tryz.results20, go_sem, r0, r1, r2, r3, r4, r5, r6, r7]) rfl ⟨_, rfl, HO.out _ ?_ ?_, ?_⟩
  · intro k hk
    repeat (rw [Below.heap_setCell _ _ _ _ (by simp; omega)])
  · simp
  · have := BE.out
    go_grown

end Go.Proofs.YtdfhpimdgfemjaaGreatDoor

namespace Go.Proofs.YtdfhpimdgfemjaaGreatDoor
open Go.ChangeShapes Go.WideShapes Go.ChangeAt Go.RowKit Go.Deep Go.Sort

theorem Touch.set {P : Nat → Prop} {w w' : World} (h : Touch P w w') {a : Addr} (ha : P a.block) (u : Value) : Touch P w (w'.setCell a u) := h.trans (Touch.of_set w' ha u)
theorem Touch.sets {P : Nat → Prop} {b : Nat} (hb : P b) : ∀ (vs : List Value) (o : Nat) {w w' : World}, Touch P w w' → Touch P w (w'.setCells b o vs)
  | [], _, _, _, h => h
  | v :: r, o, _, _, h => Touch.sets hb r (o + 1) (h.set (a := ⟨b, o, none⟩) hb v)
theorem infoHis : (Tryz.prog.info? 144).map (·.size) = some 21 := by kernel_rfl

set_option maxRecDepth 100000 in
set_option maxHeartbeats 1000000 in
theorem rowBack (X Bf Hb : Nat) (w : World) (cs : List Value) (hl : cs.length = 21) (h1 : ∀ v ∈ cs, v.oneCell' = true) (hB : w.rangeAt Bf 0 cs) (hT : w.there X 4 21) (hH : w.cell? ⟨Hb, 0, none⟩ = some (.pointer (some ⟨X, 4, none⟩))) (u : FrameMode) :
    CallsD Tryz.prog 176 #[.pointer (some ⟨Bf, 0, none⟩), .pointer (some ⟨Hb, 0, none⟩)] u w fun e u' w' => u' = u ∧ (e = .returned (.tuple #[]) ∧ Touch (fun b => b = X) w w') := by
  have HB : Hid (w.rangeAt Bf 0 cs) := hB
  have HT : Hid (w.there X 4 cs.toArray.size) := by rw [show cs.toArray.size = 21 by simp [hl]]; exact hT
  have HI : Hid ((Tryz.prog.info? 144).map (·.size) = some cs.length) := by rw [hl]; exact infoHis
  have HO : Hid (cs.toArray.all (·.oneCell') = true) := all_oneCell_toArray h1
  clear hB hT h1 hl
  go_enter_d Tryz.func176, Tryz.ntmps176
  go_wp2_with (first | (refine wpList_load_mid rfl 144 (.tmp 0) rfl Bf 0 rfl cs _ HB.out Tryz.underlying144 rfl HI.out ?_) | (refine wpList_store_mid rfl 144 (.tmp 4) (.tmp 3) rfl X 4 cs.toArray rfl rfl HT.out (by simpa using HI.out) HO.out ?_))
  go_end0
  exact ⟨rfl, Touch.sets (P := fun b => b = X) rfl _ _ (Touch.refl _ _)⟩

/-- The history of block X, cell by cell. -/
def hisL (ha : Option Addr) (hc : Nat) (y : Hs) (d : Nat → Nat) : List Value :=
  [.slice ha y.n hc, .int .i64 (d 0), .int .i64 (d 1), .int .i64 (d 2), .int .i64 (d 3),
   .int .i64 (y.opn d 0 0), .int .i64 (y.opn d 0 1), .int .i64 (y.opn d 0 2), .int .i64 (y.opn d 0 3), .int .i64 (y.opn d 1 0), .int .i64 (y.opn d 1 1), .int .i64 (y.opn d 1 2), .int .i64 (y.opn d 1 3),
   .int .i64 (y.opn d 2 0), .int .i64 (y.opn d 2 1), .int .i64 (y.opn d 2 2), .int .i64 (y.opn d 2 3), .int .i64 (y.opn d 3 0), .int .i64 (y.opn d 3 1), .int .i64 (y.opn d 3 2), .int .i64 (y.opn d 3 3)]
theorem HisP.range {w : World} {X : Nat} {ha : Option Addr} {hc : Nat} {y : Hs} {d : Nat → Nat} (h : HisP w X ha hc y d) : w.rangeAt X 4 (hisL ha hc y d) := by
  intro j v hj
  have hl : j < 21 := by
    have := (List.getElem?_eq_some_iff.1 hj).1
    simpa [hisL] using this
  match j, hl, hj with
  | 0, _, hj => rw [← hj]; exact h.c4
  | 1, _, hj => rw [← hj]; exact h.pt 0 (by omega)
  | 2, _, hj => rw [← hj]; exact h.pt 1 (by omega)
  | 3, _, hj => rw [← hj]; exact h.pt 2 (by omega)
  | 4, _, hj => rw [← hj]; exact h.pt 3 (by omega)
  | 5, _, hj => rw [← hj]; exact h.op 0 0 (by omega) (by omega)
  | 6, _, hj => rw [← hj]; exact h.op 0 1 (by omega) (by omega)
  | 7, _, hj => rw [← hj]; exact h.op 0 2 (by omega) (by omega)
  | 8, _, hj => rw [← hj]; exact h.op 0 3 (by omega) (by omega)
  | 9, _, hj => rw [← hj]; exact h.op 1 0 (by omega) (by omega)
  | 10, _, hj => rw [← hj]; exact h.op 1 1 (by omega) (by omega)
  | 11, _, hj => rw [← hj]; exact h.op 1 2 (by omega) (by omega)
  | 12, _, hj => rw [← hj]; exact h.op 1 3 (by omega) (by omega)
  | 13, _, hj => rw [← hj]; exact h.op 2 0 (by omega) (by omega)
  | 14, _, hj => rw [← hj]; exact h.op 2 1 (by omega) (by omega)
  | 15, _, hj => rw [← hj]; exact h.op 2 2 (by omega) (by omega)
  | 16, _, hj => rw [← hj]; exact h.op 2 3 (by omega) (by omega)
  | 17, _, hj => rw [← hj]; exact h.op 3 0 (by omega) (by omega)
  | 18, _, hj => rw [← hj]; exact h.op 3 1 (by omega) (by omega)
  | 19, _, hj => rw [← hj]; exact h.op 3 2 (by omega) (by omega)
  | 20, _, hj => rw [← hj]; exact h.op 3 3 (by omega) (by omega)
theorem hisL_one {ha : Option Addr} {hc : Nat} {y : Hs} {d : Nat → Nat} : ∀ v ∈ hisL ha hc y d, v.oneCell' = true := by
  intro v hv
  simp only [hisL, List.mem_cons, List.not_mem_nil, or_false] at hv
  rcases hv with rfl | rfl | rfl | rfl | rfl | rfl | rfl | rfl | rfl | rfl | rfl | rfl | rfl | rfl | rfl | rfl | rfl | rfl | rfl | rfl | rfl <;> rfl
theorem HisP.thereX {w : World} {X : Nat} {ha : Option Addr} {hc : Nat} {y : Hs} {d : Nat → Nat} (h : HisP w X ha hc y d) : w.there X 4 21 := fun j hj => ⟨h.range.isSome j (by simpa [hisL] using hj), h.fr _⟩
theorem sumL_same {d e : Nat → Nat} : ∀ {n : Nat}, (∀ i, i < n → d i = e i) → sumL d n = sumL e n
  | 0, _ => rfl
  | n + 1, h => by
    show sumL d n + d n = sumL e n + e n
    rw [sumL_same fun i hi => h i (by omega), h n (by omega)]
theorem sumL_zero : ∀ n, sumL (fun _ => 0) n = 0
  | 0 => rfl
  | n + 1 => sumL_zero n
theorem sumL_up {d : Nat → Nat} {k : Nat} : ∀ {n : Nat}, k < n → sumL (up d k) n = sumL d n + 1
  | 0, h => by omega
  | n + 1, h => by
    show sumL (up d k) n + up d k n = sumL d n + d n + 1
    by_cases e : k = n
    · subst e
      rw [up_same]
      have : sumL (up d k) k = sumL d k := sumL_same fun i hi => up_other (by omega)
      omega
    · rw [sumL_up (by omega), up_other (by omega)]
      omega
theorem sumL_le {d l : Nat → Nat} (h : ∀ i, d i ≤ l i) : ∀ n, sumL d n ≤ sumL l n
  | 0 => Nat.le_refl _
  | n + 1 => by
    have := sumL_le h n
    have := h n
    show sumL d n + d n ≤ sumL l n + l n
    omega

/-- What stands between the rounds of a row that is being put. -/
structure Rw (w0 W wr : World) (X Bf Hb : Nat) (ha : Option Addr) (hc : Nat) (y : Hs) (cs : List Value) (d : Nat → Nat) : Prop where
  pu : y.Put d
  hp : HisP wr X ha hc y d
  be : Below w0.heap.size w0 wr
  hb : wr.cell? ⟨Hb, 0, none⟩ = some (.pointer (some ⟨X, 4, none⟩))
  bf : wr.rangeAt Bf 0 cs
theorem rangeAt_touch {P : Nat → Prop} {w w' : World} {b o : Nat} {cs : List Value} (h : w.rangeAt b o cs) (t : Touch P w w') (hb : ¬ P b) : w'.rangeAt b o cs := fun j v hv => by
  have := h j v hv
  rw [t.cell (World.block_lt_of_cell? w _ this) hb]
  exact this
theorem Rw.touch {w0 W wr w' : World} {X Bf Hb : Nat} {ha : Option Addr} {hc : Nat} {y : Hs} {cs : List Value} {d d' : Nat → Nat} (h : Rw w0 W wr X Bf Hb ha hc y cs d) (t : Touch (fun b => b = X) wr w') (hX : w0.heap.size ≤ X) (hB : Bf ≠ X) (hH : Hb ≠ X) (pu : y.Put d') (hp : HisP w' X ha hc y d') : Rw w0 W w' X Bf Hb ha hc y cs d' :=
  ⟨pu, hp, h.be.trans (t.below h.be.size fun b e => by omega), (t.cell (World.block_lt_of_cell? wr _ h.hb) hH 0).trans h.hb, rangeAt_touch h.bf t hB⟩

set_option maxRecDepth 100000 in
set_option maxHeartbeats 2000000 in
theorem canRow_any (X : Nat) (ha : Option Addr) (hc : Nat) (hA : Nat → Option Addr) (hC : Nat → Nat) (y : Hs) (w0 w : World) (hE : HisE w0 ha hA hC y) (hb : Below w0.heap.size w0 w) (hX : w0.heap.size ≤ X) (hP : HisP w X ha hc y (fun _ => 0)) (h4 : y.n ≤ 4) (hp : y.Peers) (hl : ∀ i, i < y.n → y.l i ≤ 200) :
    Calls Tryz.prog 104 #[.pointer (some ⟨X, 4, none⟩)] w fun e w' => e = .returned (.bool (qB y.Row)) ∧ Below w0.heap.size w0 w' := by
  have HE : Hid (HisE w0 ha hA hC y) := hE
  have HH : Hid (y.Peers ∧ (∀ i, i < y.n → y.l i ≤ 200) ∧ w0.heap.size ≤ X) := ⟨hp, hl, hX⟩
  have zX := hP.lt
  obtain ⟨cs, hcs, hlen, hone⟩ : ∃ cs, w.rangeAt X 4 cs ∧ cs.length = 21 ∧ ∀ v ∈ cs, v.oneCell' = true := ⟨_, hP.range, rfl, hisL_one⟩
  have hsz : cs.toArray.size = 21 := by simpa using hlen
  have HL21 : Hid (cs.length = 21 ∧ ∀ v ∈ cs, v.oneCell' = true) := ⟨hlen, hone⟩
  have HI : Hid ((Tryz.prog.info? 144).map (·.size) = some cs.length) := by rw [hlen]; exact infoHis
  have HR : Hid ((w.alloc (.cells #[.pointer (some ⟨X, 4, none⟩)] 211)).rangeAt X 4 cs) := World.rangeAt_alloc hcs _
  have HO : Hid (cs.toArray.all (·.oneCell') = true) := all_oneCell_toArray hone
  have hmf : ∀ (fn : Fn) (first cap : Array Value) (w : World), (Instr.makeFunc fn first cap).run Tryz.prog w = .ok (.func fn first cap) w := fun _ _ _ _ => rfl
  have HT : Hid (((w.alloc (.cells #[.pointer (some ⟨X, 4, none⟩)] 211)).alloc (.cells #[.slice none 0 0, .int .i64 0, .int .i64 0, .int .i64 0, .int .i64 0, .int .i64 0, .int .i64 0, .int .i64 0, .int .i64 0, .int .i64 0, .int .i64 0, .int .i64 0, .int .i64 0, .int .i64 0, .int .i64 0, .int .i64 0, .int .i64 0, .int .i64 0, .int .i64 0, .int .i64 0, .int .i64 0] 144)).there (w.heap.size + 1) 0 cs.toArray.size) := fun j hj => by
    have hj' : j < 21 := by rw [← hsz]; exact hj
    refine ⟨?_, new_frozen _ _ _ _ (by simp)⟩
    rw [Nat.zero_add, new_cell _ _ _ j (by simp), Array.getElem?_eq_getElem (by simpa using hj')]
    rfl
  have tw : Touch (fun b => b = w.heap.size + 1) w (((w.alloc (.cells #[.pointer (some ⟨X, 4, none⟩)] 211)).alloc (.cells #[.slice none 0 0, .int .i64 0, .int .i64 0, .int .i64 0, .int .i64 0, .int .i64 0, .int .i64 0, .int .i64 0, .int .i64 0, .int .i64 0, .int .i64 0, .int .i64 0, .int .i64 0, .int .i64 0, .int .i64 0, .int .i64 0, .int .i64 0, .int .i64 0, .int .i64 0, .int .i64 0, .int .i64 0] 144)).setCells (w.heap.size + 1) 0 cs) := Touch.sets (P := fun b => b = w.heap.size + 1) rfl _ _ (Touch.of_below ((below_alloc _ _).trans ((below_alloc _ _).mono (by simp))))
  have HRw : Hid (Rw w0 w (((w.alloc (.cells #[.pointer (some ⟨X, 4, none⟩)] 211)).alloc (.cells #[.slice none 0 0, .int .i64 0, .int .i64 0, .int .i64 0, .int .i64 0, .int .i64 0, .int .i64 0, .int .i64 0, .int .i64 0, .int .i64 0, .int .i64 0, .int .i64 0, .int .i64 0, .int .i64 0, .int .i64 0, .int .i64 0, .int .i64 0, .int .i64 0, .int .i64 0, .int .i64 0, .int .i64 0] 144)).setCells (w.heap.size + 1) 0 cs) X (w.heap.size + 1) w.heap.size ha hc y cs (fun _ => 0)) := by
    refine ⟨.start, hP.blk (tw.block X zX (by omega)), hb.trans (tw.below hb.size fun b e => by have := hb.size; omega), ?_, World.rangeAt_setCells_same _ _ _ _ (by simpa using HT.out)⟩
    rw [World.cell?_setCells_out _ _ _ _ _ (fun e => absurd e (by simp)), World.cell?_alloc_lt _ _ _ (by simp)]
    exact new_cell _ _ _ 0 rfl
  have HX : Hid (X < w.heap.size) := zX
  clear hE hp hl hX tw hb hP zX hlen hsz hcs hone
  go_enter_defers Tryz.func104, Tryz.ntmps104
  have h0 := HRw.out.hb
  go_wp2_with (first | (refine wpList_load_mid rfl 144 (.tmp 6) rfl X 4 rfl cs _ HR.out Tryz.underlying144 rfl HI.out ?_) | (refine wpList_store_mid rfl 144 (.tmp 3) (.tmp 7) rfl (w.heap.size + 1) 0 cs.toArray rfl rfl HT.out (by simpa using HI.out) HO.out ?_))
  clear HR HT HI HO
  generalize ((w.alloc (.cells #[.pointer (some ⟨X, 4, none⟩)] 211)).alloc (.cells #[.slice none 0 0, .int .i64 0, .int .i64 0, .int .i64 0, .int .i64 0, .int .i64 0, .int .i64 0, .int .i64 0, .int .i64 0, .int .i64 0, .int .i64 0, .int .i64 0, .int .i64 0, .int .i64 0, .int .i64 0, .int .i64 0, .int .i64 0, .int .i64 0, .int .i64 0, .int .i64 0, .int .i64 0] 144)).setCells (w.heap.size + 1) 0 cs = W1 at *
  have nX : Hid (w.heap.size + 1 ≠ X ∧ w.heap.size ≠ X) := by
    have := HX.out
    exact ⟨by omega, by omega⟩
  refine (next_any X ha hc hA hC y (fun _ => 0) W1 (HE.out.below HRw.out.be) HRw.out.hp h4 HH.out.1 HH.out.2.1 HRw.out.pu.le).mono ?_
  rintro e w1 ⟨q1, hor⟩
  have HNx : Hid (Rw w0 w w1 X (w.heap.size + 1) w.heap.size ha hc y cs (fun _ => 0)) := HRw.out.touch (Touch.of_below q1) HH.out.2.2 nX.out.1 nX.out.2 HRw.out.pu (HRw.out.hp.below q1)
  obtain ⟨z, rfl, HOr⟩ : ∃ z : Int, e = .returned (.int .i64 z) ∧ Hid ((∃ k, k < y.n ∧ y.Can (fun _ => 0) k ∧ z = (k : Nat)) ∨ (z = -1 ∧ ∀ p, p < y.n → ¬ y.Can (fun _ => 0) p)) := by
    rcases hor with ⟨k, hk, hcan, rfl⟩ | ⟨rfl, hn⟩
    · exact ⟨_, rfl, .inl ⟨k, hk, hcan, rfl⟩⟩
    · exact ⟨_, rfl, .inr ⟨rfl, hn⟩⟩
  clear hor q1 h0 HRw
  go_wp2_with fail
  go_loopg [4] (sumL y.l y.n) (fun k p wr => ∃ d z, k = sumL y.l y.n - sumL d y.n ∧ p = .int .i64 z ∧ Rw w0 w wr X (w.heap.size + 1) w.heap.size ha hc y cs d ∧ Hid ((∃ k, k < y.n ∧ y.Can d k ∧ z = (k : Nat)) ∨ (z = -1 ∧ ∀ p, p < y.n → ¬ y.Can d p)))
  case atStart => exact ⟨_, z, by simp [sumL_zero], rfl, HNx.out, HOr.out⟩
  case round =>
    clear HNx HOr
    obtain ⟨d, zz, hgk, rfl, rw0, HOr⟩ := hrel
    have HRr : Hid (Rw w0 w wr X (w.heap.size + 1) w.heap.size ha hc y cs d) := rw0
    have h1 := rw0.hb
    have HG : Hid (gk = sumL y.l y.n - sumL d y.n) := hgk
    clear rw0 hgk
    rcases HOr.out with ⟨k, hk, hcan, rfl⟩ | ⟨rfl, hst⟩
    · have HCn : Hid (y.Can d k) := hcan
      have hz : ¬ (k : Int) = -1 := by omega
      have hz' : ((k : Int) == -1) = false := by simp
      clear HOr hcan
      go_wp2_with fail
      refine (putOne_any X ha hc hA hC y d k wr (HE.out.below HRr.out.be) HRr.out.hp h4 hk HH.out.1 HH.out.2.1 HRr.out.pu.le HCn.out.1).mono ?_
      rintro e w1 ⟨rfl, hp1, t1⟩
      have hpu : y.Put (up d k) := .next HRr.out.pu hk HCn.out
      have HN : Hid (Rw w0 w w1 X (w.heap.size + 1) w.heap.size ha hc y cs (up d k)) := HRr.out.touch t1 HH.out.2.2 nX.out.1 nX.out.2 hpu hp1
      have HM : Hid (sumL y.l y.n - sumL (up d k) y.n < gk) := by
        have h2 := sumL_up (d := d) hk
        have h3 := sumL_le hpu.le y.n
        have h4 := HG.out
        show sumL y.l y.n - sumL (up d k) y.n < gk
        omega
      clear hp1 t1 hpu h1 HRr HG hz hz'
      generalize up d k = d2 at *
      have h1 := HN.out.hb
      go_wp2_with fail
      refine (next_any X ha hc hA hC y d2 w1 (HE.out.below HN.out.be) HN.out.hp h4 HH.out.1 HH.out.2.1 HN.out.pu.le).mono ?_
      rintro e w2 ⟨q2, hor⟩
      have HN2 : Hid (Rw w0 w w2 X (w.heap.size + 1) w.heap.size ha hc y cs d2) := HN.out.touch (Touch.of_below q2) HH.out.2.2 nX.out.1 nX.out.2 HN.out.pu (HN.out.hp.below q2)
      obtain ⟨z, rfl, HOr⟩ : ∃ z : Int, e = .returned (.int .i64 z) ∧ Hid ((∃ k, k < y.n ∧ y.Can d2 k ∧ z = (k : Nat)) ∨ (z = -1 ∧ ∀ p, p < y.n → ¬ y.Can d2 p)) := by
        rcases hor with ⟨k, hk, hcan, rfl⟩ | ⟨rfl, hn⟩
        · exact ⟨_, rfl, .inl ⟨k, hk, hcan, rfl⟩⟩
        · exact ⟨_, rfl, .inr ⟨rfl, hn⟩⟩
      clear hor q2 h1 HN
      go_wp2
      go_roundg (sumL y.l y.n - sumL d2 y.n)
      case measure => exact HM.out
      case rel => exact ⟨d2, z, rfl, rfl, HN2.out, HOr.out⟩
    · have HRow : Hid (qB (y.All d) = qB y.Row) := by
        show qB (y.All d) = qB y.Row
        have hi := Hs.row_iff HRr.out.pu HH.out.1 hst
        by_cases hr : y.Row
        · rw [qB_true hr, qB_true (hi.1 hr)]
        · rw [qB_false hr, qB_false (fun h => hr (hi.2 h))]
      have HN : Hid (Rw w0 w wr X (w.heap.size + 1) w.heap.size ha hc y cs d) := HRr.out
      clear hst HG HOr HRr
      go_wp2_with fail
      refine (allPut_any X ha hc hA hC y d wr (HE.out.below HN.out.be) HN.out.hp h4 HH.out.2.1 HN.out.pu.le).mono ?_
      rintro e w2 ⟨rfl, b2⟩
      rw [HRow.out]
      have B2 : Hid (Below wr.heap.size wr w2) := b2
      clear b2 h1
      have HB2 : Hid (Below w0.heap.size w0 w2 ∧ w2.rangeAt (w.heap.size + 1) 0 cs ∧ w2.there X 4 21 ∧ w2.cell? ⟨w.heap.size, 0, none⟩ = some (.pointer (some ⟨X, 4, none⟩))) :=
        ⟨HN.out.be.trans (B2.out.mono HN.out.be.size), rangeAt_touch (P := fun _ => False) HN.out.bf (Touch.of_below B2.out) (fun h => h), (HN.out.hp.below B2.out).thereX, (B2.out.cell (p := ⟨w.heap.size, 0, none⟩) (World.block_lt_of_cell? wr _ HN.out.hb)).trans HN.out.hb⟩
      go_wp2
      refine leaves_cons (f := 176) (args := #[.pointer (some ⟨w.heap.size + 1, 0, none⟩), .pointer (some ⟨w.heap.size, 0, none⟩)]) (by simp) (by simp [go_sem]) ?_
      refine (rowBack X (w.heap.size + 1) w.heap.size w2 cs HL21.out.1 HL21.out.2 HB2.out.2.1 HB2.out.2.2.1 HB2.out.2.2.2 .returning).mono ?_
      rintro e u' w3 ⟨rfl, rfl, t3⟩
      exact ⟨_, results_tmp rfl _ _ _, rfl, HB2.out.1.trans (t3.below HB2.out.1.size fun b e => by have := HH.out.2.2; omega)⟩

end Go.Proofs.YtdfhpimdgfemjaaGreatDoor
