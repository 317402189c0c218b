/- Shots in any memory; what a live system that is right is. -/
import Derived.Test.YtfdanemmefckpaaGreatDoorOc0
import Derived.Test.YtfdanemmefckpaaGreatDoorOc24
import Derived.Test.YtfdanemmefckpaaGreatDoorOc23
import Derived.Lib.QuietBelow
namespace Go.Proofs.YtfdanemmefckpaaGreatDoor
open Go.ChangeShapes Go.WideShapes Go.ChangeAt Go.RowKit Go.Deep
theorem ShIn.lens {x : ShIn} (h : x.size ≤ 1048576) : x.cn ≤ 1048576 ∧ x.ol ≤ 1048576 ∧ x.kn ≤ 1048576 ∧ sumL x.kL x.kn ≤ 1048576 := by
 unfold ShIn.size at h
 omega
structure B44 (w wx : World) (a0 a1 a2 a3 c0 c1 c2 c3 : Value) : Prop where
 p : BoxC wx w.heap.size a0 a1 a2 a3
 q : BoxC wx (w.heap.size + 1) c0 c1 c2 c3
 be : Below w.heap.size w wx
 le : w.heap.size + 2 ≤ wx.heap.size
theorem B44.below {w wx w' : World} {a0 a1 a2 a3 c0 c1 c2 c3 : Value} (h : B44 w wx a0 a1 a2 a3 c0 c1 c2 c3) (hb : Below wx.heap.size wx w') : B44 w w' a0 a1 a2 a3 c0 c1 c2 c3 := ⟨h.p.below hb, h.q.below hb, h.be.trans (hb.mono h.be.size), Nat.le_trans h.le hb.size⟩
theorem B44.new (w : World) (a0 a1 a2 a3 c0 c1 c2 c3 : Value) (t : TypeId) : B44 w ((w.alloc (.cells #[a0, a1, a2, a3] t)).alloc (.cells #[c0, c1, c2, c3] t)) a0 a1 a2 a3 c0 c1 c2 c3 := by
 have n1 := BoxC.new w a0 a1 a2 a3 t
 have n2 := BoxC.new (w.alloc (.cells #[a0, a1, a2, a3] t)) c0 c1 c2 c3 t
 simp only [World.size_alloc] at n2
 exact ⟨n1.below (below_allocS _ _), n2, ((Below.refl _ _).alloc (Nat.le_refl _) _).alloc (by simp) _, by simp⟩
structure B88 (w wx : World) (a : Nat → Value) (c : Nat → Value) : Prop where
 p : ∀ i, i < 8 → wx.cell? ⟨w.heap.size, i, none⟩ = some (a i)
 q : ∀ i, i < 8 → wx.cell? ⟨w.heap.size + 1, i, none⟩ = some (c i)
 be : Below w.heap.size w wx
 le : w.heap.size + 2 ≤ wx.heap.size
theorem B88.below {w wx w' : World} {a c : Nat → Value} (h : B88 w wx a c) (hb : Below wx.heap.size wx w') : B88 w w' a c := by
 have hl := h.le
 exact ⟨fun i hi => (World.cell?_of_block (hb.block w.heap.size (by omega))).trans (h.p i hi), fun i hi => (World.cell?_of_block (hb.block (w.heap.size + 1) (by omega))).trans (h.q i hi), h.be.trans (hb.mono h.be.size), Nat.le_trans h.le hb.size⟩
theorem B88.new (w : World) (a0 a1 a2 a3 a4 a5 a6 a7 c0 c1 c2 c3 c4 c5 c6 c7 : Value) (t : TypeId) : B88 w ((w.alloc (.cells #[a0, a1, a2, a3, a4, a5, a6, a7] t)).alloc (.cells #[c0, c1, c2, c3, c4, c5, c6, c7] t)) (v8 a0 a1 a2 a3 a4 a5 a6 a7) (v8 c0 c1 c2 c3 c4 c5 c6 c7) := by
 have n1 := BoxH.new w a0 a1 a2 a3 a4 a5 a6 a7 t
 have n2 := BoxH.new (w.alloc (.cells #[a0, a1, a2, a3, a4, a5, a6, a7] t)) c0 c1 c2 c3 c4 c5 c6 c7 t
 simp only [World.size_alloc] at n2
 exact ⟨box8 (n1.below (below_allocS _ _)), box8 n2, ((Below.refl _ _).alloc (Nat.le_refl _) _).alloc (by simp) _, by simp⟩
def Sy.Marks (y : Sy) : Prop := ∃ i, i < y.wn ∧ ∃ k, k < y.wL i ∧ (y.wH i k).m = true
structure Sh where
 on : Bool
 cn : Nat
 cH : Nat → Int
 ol : Nat
 oH : Nat → Bool
 kn : Nat
 kL : Nat → Nat
 kH : Nat → Nat → Int
def ShIn.z (x : ShIn) : Sh := ⟨x.on, x.cn, x.cH, x.ol, x.oH, x.kn, x.kL, x.kH⟩
structure ShIn.Len (x : ShIn) : Prop where
 c : x.cn ≤ 1048576
 o : x.ol ≤ 1048576
 k : x.kn ≤ 1048576 ∧ ∀ i, i < x.kn → x.kL i ≤ 1048576
theorem ShIn.len_of {x x' : ShIn} (hs : x.size ≤ 1048576) (hz : x'.z = x.z) : x'.Len := by
 have l := ShIn.lens hs
 have e1 : x'.cn = x.cn := congrArg Sh.cn hz
 have e2 : x'.ol = x.ol := congrArg Sh.ol hz
 have e3 : x'.kn = x.kn := congrArg Sh.kn hz
 have e4 : x'.kL = x.kL := congrArg Sh.kL hz
 refine ⟨by omega, by omega, by omega, fun i hi => ?_⟩
 rw [e4]
 exact sum_le l.2.2.2 i (by omega)
structure LvIn.Len (x : LvIn) : Prop where
 s : x.s.Len
 h : x.h.Len
theorem LvIn.len_of {x x' : LvIn} (hs : x.size ≤ 1048576) (hy : x'.s.y = x.s.y) (hz : x'.h.z = x.h.z) : x'.Len :=
 ⟨SysIn.len_of (show x.s.size ≤ 1048576 by unfold LvIn.size at hs; omega) hy, ShIn.len_of (show x.h.size ≤ 1048576 by unfold LvIn.size at hs; omega) hz⟩
end Go.Proofs.YtfdanemmefckpaaGreatDoor
