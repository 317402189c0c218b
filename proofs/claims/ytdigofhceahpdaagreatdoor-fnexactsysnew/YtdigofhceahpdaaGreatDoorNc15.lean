/- Rows of events in memory; the walks of the laws' own helpers on them. -/
import Derived.Test.YtdigofhceahpdaaGreatDoorNc0
import Derived.Test.YtdigofhceahpdaaGreatDoorNc12
import Derived.Test.YtdigofhceahpdaaGreatDoorNc14
namespace Go.Proofs.YtdigofhceahpdaaGreatDoor
set_option maxRecDepth 100000
set_option maxHeartbeats 1000000
open Go.RowKit Go.Deep
theorem toInsS_free (b off len cap : Nat) (g : Nat → I5) (w : World) (hlen : len ≤ 1048576) (hb : b < w.heap.size) (hc : InsAt w b off len g) :
  Calls Tryz.prog 25 #[.slice (some ⟨b, off, none⟩) len cap] w fun e w' => e = .returned (.slice (some ⟨w.heap.size, 0, none⟩) len len) ∧ InsAt w' w.heap.size 0 len g ∧ w.heap.size < w'.heap.size ∧ Below w.heap.size w w' ∧ ∀ j, w'.frozen? ⟨w.heap.size, j, none⟩ = false := by
 have hl' : (len : Int) ≤ 1048576 := by omega
 have hmk := run_make_ins len hlen
 have HC : Hid (InsAt w b off len g) := hc
 clear hc
 go_enter Tryz.func25, Tryz.ntmps25
 go_wp2_with fail
 clear hmk
 go_loopw [4] (fun i wr => ∃ k : Nat, k ≤ len ∧ i = .int .i64 k ∧ (∃ f, wr.rowIs w.heap.size 60 (len * 5) f ∧ Hid (Filled f g k)) ∧ Below w.heap.size w wr) (fun i _ => len - (intOf i).toNat)
 case atStart => exact ⟨0, Nat.zero_le _, rfl, ⟨_, madeIns_row w len, fun i hi => by omega⟩, (Below.refl _ _).alloc (Nat.le_refl _) _⟩
 case round =>
  obtain ⟨k, hk, rfl, ⟨f, hrow, HF⟩, hbw⟩ := hrel
  have hs := hrow.lt
  by_cases hlt : k < len
  ·obtain ⟨c0, c1, c2, c3, c4⟩ := HC.out.below hbw hb k hlt
   have HR : Hid (wr.rowIs w.heap.size 60 (len * 5) f) := hrow
   clear hrow
   go_wp2_with fail
   refine (toIns_any _ _ _ _ _ _).mono ?_
   rintro e w1 ⟨rfl, hb1⟩
   have hr1 : w1.rowIs w.heap.size 60 (len * 5) f := HR.out.of_block (hb1.block _ hs)
   have f0 := hr1.frozen (k * 5)
   have f1 := hr1.frozen (k * 5 + 1)
   have f2 := hr1.frozen (k * 5 + 2)
   have f3 := hr1.frozen (k * 5 + 3)
   have f4 := hr1.frozen (k * 5 + 4)
   have g0 := hr1.cell (i := k * 5) (by omega)
   have g1 := hr1.cell (i := k * 5 + 1) (by omega)
   have g2 := hr1.cell (i := k * 5 + 2) (by omega)
   have g3 := hr1.cell (i := k * 5 + 3) (by omega)
   have g4 := hr1.cell (i := k * 5 + 4) (by omega)
   have HR1 : Hid (w1.rowIs w.heap.size 60 (len * 5) f) := hr1
   clear hr1
   go_wp2_with fail
   exact ⟨⟨k + 1, by omega, by go_num, Filled.step HR1.out HF.out, (((((hbw.trans (hb1.mono (Nat.le_of_lt hs))).setCell (Nat.le_refl _) _).setCell (Nat.le_refl _) _).setCell (Nat.le_refl _) _).setCell (Nat.le_refl _) _).setCell (Nat.le_refl _) _⟩, by simp [intOf]; omega⟩
  ·have hkl : k = len := by omega
   have HI : Hid (InsAt wr w.heap.size 0 len g) := by
    have := HF.out.at hrow hk
    rw [hkl] at this
    exact this
   have HZ : Hid (∀ j, wr.frozen? ⟨w.heap.size, j, none⟩ = false) := fun j => hrow.frozen j
   clear hkl HF hrow
   go_wp2
   go_ret
   exact ⟨rfl, HI.out, hs, hbw, HZ.out⟩
theorem toInsS_freeEmpty (a0 : Option Addr) (cap : Nat) (g : Nat → I5) (w : World) :
  Calls Tryz.prog 25 #[.slice a0 0 cap] w fun e w' => e = .returned (.slice (some ⟨w.heap.size, 0, none⟩) 0 0) ∧ InsAt w' w.heap.size 0 0 g ∧ w.heap.size < w'.heap.size ∧ Below w.heap.size w w' ∧ ∀ j, w'.frozen? ⟨w.heap.size, j, none⟩ = false := by
 have hmk : ∀ w : World, (Instr.makeSlice 57 (.int .i64 0) (.int .i64 0)).run Tryz.prog w = .ok (.slice (some ⟨w.heap.size, 0, none⟩) 0 0) (w.alloc (.cells (madeCells (insV 0 0 0 0 0).cells (0 * 5)) 60)) := fun w => run_make_ins 0 (by omega) w
 go_enter Tryz.func25, Tryz.ntmps25
 go_wp2_with fail
 clear hmk
 go_rounds 1
 go_ret
 exact ⟨rfl, fun i hi => by omega, by simp, (Below.refl _ _).alloc (Nat.le_refl _) _, fun j => new_frozen _ _ _ j rfl⟩
def CopiesF (w : World) (a0 : Option Addr) (len cap : Nat) (g : Nat → I5) : Prop := ∀ wx, Below w.heap.size w wx →
 Calls Tryz.prog 25 #[.slice a0 len cap] wx fun e w' => e = .returned (.slice (some ⟨wx.heap.size, 0, none⟩) len len) ∧ InsAt w' wx.heap.size 0 len g ∧ wx.heap.size < w'.heap.size ∧ Below wx.heap.size wx w' ∧ ∀ j, w'.frozen? ⟨wx.heap.size, j, none⟩ = false
theorem copiesF_of {W : World} {a0 : Option Addr} {len cap : Nat} (hl : len ≤ 1048576) (hr : len = 0 ∨ ∃ b off g, a0 = some ⟨b, off, none⟩ ∧ b < W.heap.size ∧ InsAt W b off len g) : ∃ g, CopiesF W a0 len cap g := by
 rcases hr with rfl | ⟨b, off, g, rfl, hb, hI⟩
 ·exact ⟨fun _ => ⟨0, 0, 0, 0, 0⟩, fun wx _ => toInsS_freeEmpty a0 cap _ wx⟩
 ·exact ⟨g, fun wx hB => toInsS_free b off len cap g wx hl (Nat.lt_of_lt_of_le hb hB.size) (hI.below hB hb)⟩
def Room (w : World) (b len : Nat) : Prop := (∀ i, i < len * 5 → ∃ u, w.cell? ⟨b, i, none⟩ = some u) ∧ ∀ j, w.frozen? ⟨b, j, none⟩ = false
theorem Room.set {w : World} {b len : Nat} (h : Room w b len) (p : Addr) (v : Value) : Room (w.setCell p v) b len :=
 ⟨fun i hi => (h.1 i hi).elim fun _ e => cell?_setCell_some e, fun j => by rw [World.frozen?_setCell]; exact h.2 j⟩
theorem Room.of_ins {w : World} {b len : Nat} {g : Nat → I5} (h : InsAt w b 0 len g) (hf : ∀ j, w.frozen? ⟨b, j, none⟩ = false) : Room w b len := by
 refine ⟨fun i hi => ?_, hf⟩
 obtain ⟨c0, c1, c2, c3, c4⟩ := h (i / 5) (by omega)
 simp only [Nat.zero_add] at c0 c1 c2 c3 c4
 have hh : i = i / 5 * 5 ∨ i = i / 5 * 5 + 1 ∨ i = i / 5 * 5 + 2 ∨ i = i / 5 * 5 + 3 ∨ i = i / 5 * 5 + 4 := by omega
 rcases hh with e | e | e | e | e
 ·rw [e]; exact ⟨_, c0⟩
 ·rw [e]; exact ⟨_, c1⟩
 ·rw [e]; exact ⟨_, c2⟩
 ·rw [e]; exact ⟨_, c3⟩
 ·rw [e]; exact ⟨_, c4⟩
theorem markInsS_any (b len cap : Nat) (k : Int) (w : World) (hlen : len ≤ 1048576) (k0 : 0 ≤ k) (k1 : k ≤ 100000000) (h : Room w b len) :
  Calls Tryz.prog 33 #[.slice (some ⟨b, 0, none⟩) len cap, .int .i64 k] w fun e w' => e = .returned (.int .i64 (k + 5 * len)) ∧ w.grownBy w' (some b) := by
 have hl' : (len : Int) ≤ 1048576 := by omega
 have HO : Hid (Room w b len) := h
 clear h
 go_enter Tryz.func33, Tryz.ntmps33
 go_wp2_with fail
 go_loopw [1, 5] (fun q i wr => ∃ j : Nat, j ≤ len ∧ i = .int .i64 j ∧ q = .int .i64 (k + 5 * j) ∧ Hid (Room wr b len ∧ w.grownBy wr (some b))) (fun _ i _ => len - (intOf i).toNat)
 case atStart => exact ⟨0, Nat.zero_le _, rfl, by simp, HO.out, World.grownBy.refl _ _⟩
 case round =>
  clear HO
  obtain ⟨j, hj, rfl, rfl, HR⟩ := hrel
  by_cases hlt : j < len
  ·have hlt' : (j : Int) < (len : Int) := by omega
   obtain ⟨u0, c0⟩ := HR.out.1.1 (j * 5) (by omega)
   obtain ⟨u1, c1⟩ := HR.out.1.1 (j * 5 + 1) (by omega)
   obtain ⟨u2, c2⟩ := HR.out.1.1 (j * 5 + 2) (by omega)
   obtain ⟨u3, c3⟩ := HR.out.1.1 (j * 5 + 3) (by omega)
   obtain ⟨u4, c4⟩ := HR.out.1.1 (j * 5 + 4) (by omega)
   have fz := HR.out.1.2
   go_wp2
   go_roundw
   case rel =>
    refine ⟨j + 1, by omega, by go_num, by go_num, ?_⟩
    refine ⟨?_, ?_⟩
    ·repeat (refine Room.set ?_ _ _)
     exact HR.out.1
    ·repeat (refine grown_setCell ?_ (.inl rfl) _)
     exact HR.out.2
   case measure => simp [intOf]; omega
  ·have hlt' : ¬ (j : Int) < (len : Int) := by omega
   have HF : Hid (w.grownBy wr (some b)) := HR.out.2
   have hjl : (j : Int) = len := by omega
   have HJ : Hid ((j : Int) = len) := hjl
   clear HR hjl
   go_wp2
   go_ret
   exact ⟨ret_int (by rw [HJ.out]), HF.out⟩
open Go.ChangeShapes Go.WideShapes Go.ChangeAt
structure E3 where
 k : Int
 q : Int
 v : Int
def EvAt (w : World) (b off len : Nat) (h : Nat → E3) : Prop := ∀ i, i < len →
 w.cell? ⟨b, off + i * 3, none⟩ = some (.int .i64 (h i).k) ∧ w.cell? ⟨b, off + i * 3 + 1, none⟩ = some (.int .i64 (h i).q) ∧ w.cell? ⟨b, off + i * 3 + 2, none⟩ = some (.int .i64 (h i).v)
theorem EvAt.below {w w' : World} {B b off len : Nat} {h : Nat → E3} (hh : EvAt w b off len h) (hb : Below B w w') (hB : b < B) : EvAt w' b off len h := by
 intro i hi
 obtain ⟨h0, h1, h2⟩ := hh i hi
 exact ⟨(hb.cell hB).trans h0, (hb.cell hB).trans h1, (hb.cell hB).trans h2⟩
def FilledE (f : Nat → Value) (h : Nat → E3) (k : Nat) : Prop := ∀ i, i < k →
 f (i * 3) = .int .i64 (h i).k ∧ f (i * 3 + 1) = .int .i64 (h i).q ∧ f (i * 3 + 2) = .int .i64 (h i).v
def CopiesE (w : World) (a0 : Option Addr) (len cap : Nat) (h : Nat → E3) : Prop := ∀ wx, Below w.heap.size w wx →
 Calls Tryz.prog 91 #[.slice a0 len cap] wx fun e w' => e = .returned (.slice (some ⟨wx.heap.size, 0, none⟩) len len) ∧ EvAt w' wx.heap.size 0 len h ∧ wx.heap.size < w'.heap.size ∧ Below wx.heap.size wx w' ∧ ∀ j, w'.frozen? ⟨wx.heap.size, j, none⟩ = false
def RoomE (w : World) (b len : Nat) : Prop := (∀ i, i < len * 3 → ∃ u, w.cell? ⟨b, i, none⟩ = some u) ∧ ∀ j, w.frozen? ⟨b, j, none⟩ = false
end Go.Proofs.YtdigofhceahpdaaGreatDoor
