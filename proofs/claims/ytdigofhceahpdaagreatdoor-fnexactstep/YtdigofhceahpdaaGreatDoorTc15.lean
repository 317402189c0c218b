/- Rows of events in memory; the walks of the laws' own helpers on them. -/
import Derived.Test.YtdigofhceahpdaaGreatDoorTc0
import Derived.Test.YtdigofhceahpdaaGreatDoorTc12
import Derived.Test.YtdigofhceahpdaaGreatDoorTc14
namespace Go.Proofs.YtdigofhceahpdaaGreatDoor
set_option maxRecDepth 100000
set_option maxHeartbeats 1000000
open Go.RowKit Go.Deep
theorem toInsS_free (b off len cap : Nat) (g : Nat → I5) (w : World) (hlen : len ≤ 1048576) (hb : b < w.heap.size) (hc : InsAt w b off len g) :
  Calls Tryz.prog 25 #[.slice (some ⟨b, off, none⟩) len cap] w fun e w' => e = .returned (.slice (some ⟨w.heap.size, 0, none⟩) len len) ∧ InsAt w' w.heap.size 0 len g ∧ w.heap.size < w'.heap.size ∧ Below w.heap.size w w' ∧ ∀ j, w'.frozen? ⟨w.heap.size, j, none⟩ = false := by
 have hl' : (len : Int) ≤ 1048576 := by omega
 have hmk := run_make_ins len hlen
 have HC : Hid (InsAt w b off len g) := hc
 clear hc
 go_enter Tryz.func25, Tryz.ntmps25
 go_wp2_with fail
 clear hmk
 go_loopw [4] (fun i wr => ∃ k : Nat, k ≤ len ∧ i = .int .i64 k ∧ (∃ f, wr.rowIs w.heap.size 60 (len * 5) f ∧ Hid (Filled f g k)) ∧ Below w.heap.size w wr) (fun i _ => len - (intOf i).toNat)
 case atStart => exact ⟨0, Nat.zero_le _, rfl, ⟨_, madeIns_row w len, fun i hi => by omega⟩, (Below.refl _ _).alloc (Nat.le_refl _) _⟩
 case round =>
  obtain ⟨k, hk, rfl, ⟨f, hrow, HF⟩, hbw⟩ := hrel
  have hs := hrow.lt
  by_cases hlt : k < len
  ·obtain ⟨c0, c1, c2, c3, c4⟩ := HC.out.below hbw hb k hlt
   have HR : Hid (wr.rowIs w.heap.size 60 (len * 5) f) := hrow
   clear hrow
   go_wp2_with fail
   refine (toIns_any _ _ _ _ _ _).mono ?_
   rintro e w1 ⟨rfl, hb1⟩
   have hr1 : w1.rowIs w.heap.size 60 (len * 5) f := HR.out.of_block (hb1.block _ hs)
   have f0 := hr1.frozen (k * 5)
   have f1 := hr1.frozen (k * 5 + 1)
   have f2 := hr1.frozen (k * 5 + 2)
   have f3 := hr1.frozen (k * 5 + 3)
   have f4 := hr1.frozen (k * 5 + 4)
   have g0 := hr1.cell (i := k * 5) (by omega)
   have g1 := hr1.cell (i := k * 5 + 1) (by omega)
   have g2 := hr1.cell (i := k * 5 + 2) (by omega)
   have g3 := hr1.cell (i := k * 5 + 3) (by omega)
   have g4 := hr1.cell (i := k * 5 + 4) (by omega)
   have HR1 : Hid (w1.rowIs w.heap.size 60 (len * 5) f) := hr1
   clear hr1
   go_wp2_with fail
   exact ⟨⟨k + 1, by omega, by go_num, Filled.step HR1.out HF.out, (((((hbw.trans (hb1.mono (Nat.le_of_lt hs))).setCell (Nat.le_refl _) _).setCell (Nat.le_refl _) _).setCell (Nat.le_refl _) _).setCell (Nat.le_refl _) _).setCell (Nat.le_refl _) _⟩, by simp [intOf]; omega⟩
  ·have hkl : k = len := by omega
   have HI : Hid (InsAt wr w.heap.size 0 len g) := by
    have := HF.out.at hrow hk
    rw [hkl] at this
    exact this
   have HZ : Hid (∀ j, wr.frozen? ⟨w.heap.size, j, none⟩ = false) := fun j => hrow.frozen j
   clear hkl HF hrow
   go_wp2
   go_ret
   exact ⟨rfl, HI.out, hs, hbw, HZ.out⟩
theorem toInsS_freeEmpty (a0 : Option Addr) (cap : Nat) (g : Nat → I5) (w : World) :
  Calls Tryz.prog 25 #[.slice a0 0 cap] w fun e w' => e = .returned (.slice (some ⟨w.heap.size, 0, none⟩) 0 0) ∧ InsAt w' w.heap.size 0 0 g ∧ w.heap.size < w'.heap.size ∧ Below w.heap.size w w' ∧ ∀ j, w'.frozen? ⟨w.heap.size, j, none⟩ = false := by
 have hmk : ∀ w : World, (Instr.makeSlice 57 (.int .i64 0) (.int .i64 0)).run Tryz.prog w = .ok (.slice (some ⟨w.heap.size, 0, none⟩) 0 0) (w.alloc (.cells (madeCells (insV 0 0 0 0 0).cells (0 * 5)) 60)) := fun w => run_make_ins 0 (by omega) w
 go_enter Tryz.func25, Tryz.ntmps25
 go_wp2_with fail
 clear hmk
 go_rounds 1
 go_ret
 exact ⟨rfl, fun i hi => by omega, by simp, (Below.refl _ _).alloc (Nat.le_refl _) _, fun j => new_frozen _ _ _ j rfl⟩
def CopiesF (w : World) (a0 : Option Addr) (len cap : Nat) (g : Nat → I5) : Prop := ∀ wx, Below w.heap.size w wx →
 Calls Tryz.prog 25 #[.slice a0 len cap] wx fun e w' => e = .returned (.slice (some ⟨wx.heap.size, 0, none⟩) len len) ∧ InsAt w' wx.heap.size 0 len g ∧ wx.heap.size < w'.heap.size ∧ Below wx.heap.size wx w' ∧ ∀ j, w'.frozen? ⟨wx.heap.size, j, none⟩ = false
theorem copiesF_of {W : World} {a0 : Option Addr} {len cap : Nat} (hl : len ≤ 1048576) (hr : len = 0 ∨ ∃ b off g, a0 = some ⟨b, off, none⟩ ∧ b < W.heap.size ∧ InsAt W b off len g) : ∃ g, CopiesF W a0 len cap g := by
 rcases hr with rfl | ⟨b, off, g, rfl, hb, hI⟩
 ·exact ⟨fun _ => ⟨0, 0, 0, 0, 0⟩, fun wx _ => toInsS_freeEmpty a0 cap _ wx⟩
 ·exact ⟨g, fun wx hB => toInsS_free b off len cap g wx hl (Nat.lt_of_lt_of_le hb hB.size) (hI.below hB hb)⟩
def Room (w : World) (b len : Nat) : Prop := (∀ i, i < len * 5 → ∃ u, w.cell? ⟨b, i, none⟩ = some u) ∧ ∀ j, w.frozen? ⟨b, j, none⟩ = false
theorem Room.set {w : World} {b len : Nat} (h : Room w b len) (p : Addr) (v : Value) : Room (w.setCell p v) b len :=
 ⟨fun i hi => (h.1 i hi).elim fun _ e => cell?_setCell_some e, fun j => by rw [World.frozen?_setCell]; exact h.2 j⟩
theorem Room.of_ins {w : World} {b len : Nat} {g : Nat → I5} (h : InsAt w b 0 len g) (hf : ∀ j, w.frozen? ⟨b, j, none⟩ = false) : Room w b len := by
 refine ⟨fun i hi => ?_, hf⟩
 obtain ⟨c0, c1, c2, c3, c4⟩ := h (i / 5) (by omega)
 simp only [Nat.zero_add] at c0 c1 c2 c3 c4
 have hh : i = i / 5 * 5 ∨ i = i / 5 * 5 + 1 ∨ i = i / 5 * 5 + 2 ∨ i = i / 5 * 5 + 3 ∨ i = i / 5 * 5 + 4 := by omega
 rcases hh with e | e | e | e | e
 ·rw [e]; exact ⟨_, c0⟩
 ·rw [e]; exact ⟨_, c1⟩
 ·rw [e]; exact ⟨_, c2⟩
 ·rw [e]; exact ⟨_, c3⟩
 ·rw [e]; exact ⟨_, c4⟩
theorem markInsS_any (b len cap : Nat) (k : Int) (w : World) (hlen : len ≤ 1048576) (k0 : 0 ≤ k) (k1 : k ≤ 100000000) (h : Room w b len) :
  Calls Tryz.prog 33 #[.slice (some ⟨b, 0, none⟩) len cap, .int .i64 k] w fun e w' => e = .returned (.int .i64 (k + 5 * len)) ∧ w.grownBy w' (some b) := by
 have hl' : (len : Int) ≤ 1048576 := by omega
 have HO : Hid (Room w b len) := h
 clear h
 go_enter Tryz.func33, Tryz.ntmps33
 go_wp2_with fail
 go_loopw [1, 5] (fun q i wr => ∃ j : Nat, j ≤ len ∧ i = .int .i64 j ∧ q = .int .i64 (k + 5 * j) ∧ Hid (Room wr b len ∧ w.grownBy wr (some b))) (fun _ i _ => len - (intOf i).toNat)
 case atStart => exact ⟨0, Nat.zero_le _, rfl, by simp, HO.out, World.grownBy.refl _ _⟩
 case round =>
  clear HO
  obtain ⟨j, hj, rfl, rfl, HR⟩ := hrel
  by_cases hlt : j < len
  ·have hlt' : (j : Int) < (len : Int) := by omega
   obtain ⟨u0, c0⟩ := HR.out.1.1 (j * 5) (by omega)
   obtain ⟨u1, c1⟩ := HR.out.1.1 (j * 5 + 1) (by omega)
   obtain ⟨u2, c2⟩ := HR.out.1.1 (j * 5 + 2) (by omega)
   obtain ⟨u3, c3⟩ := HR.out.1.1 (j * 5 + 3) (by omega)
   obtain ⟨u4, c4⟩ := HR.out.1.1 (j * 5 + 4) (by omega)
   have fz := HR.out.1.2
   go_wp2
   go_roundw
   case rel =>
    refine ⟨j + 1, by omega, by go_num, by go_num, ?_⟩
    refine ⟨?_, ?_⟩
    ·repeat (refine Room.set ?_ _ _)
     exact HR.out.1
    ·repeat (refine grown_setCell ?_ (.inl rfl) _)
     exact HR.out.2
   case measure => simp [intOf]; omega
  ·have hlt' : ¬ (j : Int) < (len : Int) := by omega
   have HF : Hid (w.grownBy wr (some b)) := HR.out.2
   have hjl : (j : Int) = len := by omega
   have HJ : Hid ((j : Int) = len) := hjl
   clear HR hjl
   go_wp2
   go_ret
   exact ⟨ret_int (by rw [HJ.out]), HF.out⟩
open Go.ChangeShapes Go.WideShapes Go.ChangeAt
structure E3 where
 k : Int
 q : Int
 v : Int
def EvAt (w : World) (b off len : Nat) (h : Nat → E3) : Prop := ∀ i, i < len →
 w.cell? ⟨b, off + i * 3, none⟩ = some (.int .i64 (h i).k) ∧ w.cell? ⟨b, off + i * 3 + 1, none⟩ = some (.int .i64 (h i).q) ∧ w.cell? ⟨b, off + i * 3 + 2, none⟩ = some (.int .i64 (h i).v)
theorem EvAt.below {w w' : World} {B b off len : Nat} {h : Nat → E3} (hh : EvAt w b off len h) (hb : Below B w w') (hB : b < B) : EvAt w' b off len h := by
 intro i hi
 obtain ⟨h0, h1, h2⟩ := hh i hi
 exact ⟨(hb.cell hB).trans h0, (hb.cell hB).trans h1, (hb.cell hB).trans h2⟩
theorem infoEv : (Tryz.prog.info? 77).map (fun i => (i.zero, i.size, i.bytes)) = some (some (evV 0 0 0), 3, 24) := by kernel_rfl
theorem run_make_ev (n : Nat) (hn : n ≤ 1048576) (w : World) :
  (Instr.makeSlice 91 (.int .i64 (n : Int)) (.int .i64 (n : Int))).run Tryz.prog w = .ok (.slice (some ⟨w.heap.size, 0, none⟩) n n) (w.alloc (.cells (madeCells (evV 0 0 0).cells (n * 3)) 77)) := by
 have hinfo := infoEv
 cases hi : Tryz.prog.info? 77 with
 | none => rw [hi] at hinfo; cases hinfo
 | some i =>
  rw [hi] at hinfo
  simp only [Option.map_some, Option.some.injEq, Prod.mk.injEq] at hinfo
  obtain ⟨hz, hs, hb⟩ := hinfo
  have h := run_make (P := Tryz.prog) w 91 77 i _ Tryz.underlying91 hi hz .i64 .i64 (n : Int) (n : Int) (by omega) (Int.le_refl _) (by rw [hb]; omega) (by omega)
  rw [hs] at h
  simpa using h
theorem madeEv_row (w : World) (n : Nat) : (w.alloc (.cells (madeCells (evV 0 0 0).cells (n * 3)) 77)).rowIs w.heap.size 77 (n * 3) (fun _ => .int .i64 0) := by
 refine ⟨_, blk_alloc_new _ _, size_madeCells _ _, fun i hi => ?_⟩
 have h3 : i % 3 < 3 := Nat.mod_lt _ (by omega)
 have : ∀ j, j < 3 → (#[Value.int .i64 0, .int .i64 0, .int .i64 0] : Array Value)[j]! = .int .i64 0 := by
  intro j hj
  match j, hj with
  | 0, _ => rfl
  | 1, _ => rfl
  | 2, _ => rfl
 simp only [madeCells, Value.cells]
 rw [Array.getElem?_map, Array.getElem?_range, if_pos hi]
 exact congrArg some (this (i % 3) h3)
def FilledE (f : Nat → Value) (h : Nat → E3) (k : Nat) : Prop := ∀ i, i < k →
 f (i * 3) = .int .i64 (h i).k ∧ f (i * 3 + 1) = .int .i64 (h i).q ∧ f (i * 3 + 2) = .int .i64 (h i).v
theorem FilledE.at {w : World} {b : Nat} {t : TypeId} {len k : Nat} {f : Nat → Value} {h : Nat → E3} (hh : FilledE f h k) (hr : w.rowIs b t (len * 3) f) (hk : k ≤ len) : EvAt w b 0 k h := by
 intro i hi
 obtain ⟨h0, h1, h2⟩ := hh i hi
 refine ⟨?_, ?_, ?_⟩
 ·rw [hr.cell (by omega), Nat.zero_add, h0]
 ·rw [hr.cell (by omega), Nat.zero_add, h1]
 ·rw [hr.cell (by omega), Nat.zero_add, h2]
theorem FilledE.step {w : World} {b : Nat} {t : TypeId} {len k : Nat} {f : Nat → Value} {h : Nat → E3} (hr : w.rowIs b t (len * 3) f) (hh : FilledE f h k) :
  ∃ f', (((w.setCell ⟨b, k * 3, none⟩ (.int .i64 (h k).k)).setCell ⟨b, k * 3 + 1, none⟩ (.int .i64 (h k).q)).setCell ⟨b, k * 3 + 2, none⟩ (.int .i64 (h k).v)).rowIs b t (len * 3) f' ∧ FilledE f' h (k + 1) := by
 refine ⟨_, ((hr.set _ _).set _ _).set _ _, fun i hi => ?_⟩
 by_cases hik : i = k
 ·subst hik
  simp
 ·have hlt : i < k := by omega
  obtain ⟨h0, h1, h2⟩ := hh i hlt
  refine ⟨?_, ?_, ?_⟩
  ·rw [if_neg (by omega), if_neg (by omega), if_neg (by omega)]; exact h0
  ·rw [if_neg (by omega), if_neg (by omega), if_neg (by omega)]; exact h1
  ·rw [if_neg (by omega), if_neg (by omega), if_neg (by omega)]; exact h2
theorem szEventS_small (a0 : Option Addr) (len cap : Nat) (L : Int) (w : World) (h : (len : Int) ≤ L) (hL : L ≤ 1048576) :
  Calls Tryz.prog 84 #[.slice a0 len cap, .int .i64 L] w fun e w' => e = .returned (.int .i64 (L - (len : Int))) ∧ w' = w := by
 have h1 : (len : Int) ≤ 1048576 := by omega
 have h2 : 0 ≤ L := by omega
 have h3 : ¬ (L - (len : Int) < 0) := by omega
 go_enter Tryz.func84, Tryz.ntmps84
 go_wp2
 go_ret
 exact ⟨rfl, rfl⟩
theorem szEventS_great (a0 : Option Addr) (len cap : Nat) (L : Int) (w : World) (h : L < (len : Int)) (h0 : 0 ≤ L) (hL : L ≤ 1048576) (hm : len ≤ maxLen) :
  Calls Tryz.prog 84 #[.slice a0 len cap, .int .i64 L] w fun e w' => e = .returned (.int .i64 (-1)) ∧ w' = w := by
 unfold maxLen at hm
 have h2 : (len : Int) ≤ 9223372036854775807 := by omega
 have h3 : L - (len : Int) < 0 := by omega
 go_enter Tryz.func84, Tryz.ntmps84
 go_wp2
 go_ret
 exact ⟨rfl, rfl⟩
theorem toEventS_free (b off len cap : Nat) (h : Nat → E3) (w : World) (hlen : len ≤ 1048576) (hb : b < w.heap.size) (hc : EvAt w b off len h) :
  Calls Tryz.prog 91 #[.slice (some ⟨b, off, none⟩) len cap] w fun e w' => e = .returned (.slice (some ⟨w.heap.size, 0, none⟩) len len) ∧ EvAt w' w.heap.size 0 len h ∧ w.heap.size < w'.heap.size ∧ Below w.heap.size w w' ∧ ∀ j, w'.frozen? ⟨w.heap.size, j, none⟩ = false := by
 have hl' : (len : Int) ≤ 1048576 := by omega
 have hmk := run_make_ev len hlen
 have HC : Hid (EvAt w b off len h) := hc
 clear hc
 go_enter Tryz.func91, Tryz.ntmps91
 go_wp2_with fail
 clear hmk
 go_loopw [4] (fun i wr => ∃ k : Nat, k ≤ len ∧ i = .int .i64 k ∧ (∃ f, wr.rowIs w.heap.size 77 (len * 3) f ∧ Hid (FilledE f h k)) ∧ Below w.heap.size w wr) (fun i _ => len - (intOf i).toNat)
 case atStart => exact ⟨0, Nat.zero_le _, rfl, ⟨_, madeEv_row w len, fun i hi => by omega⟩, (Below.refl _ _).alloc (Nat.le_refl _) _⟩
 case round =>
  obtain ⟨k, hk, rfl, ⟨f, hrow, HF⟩, hbw⟩ := hrel
  have hs := hrow.lt
  by_cases hlt : k < len
  ·obtain ⟨c0, c1, c2⟩ := HC.out.below hbw hb k hlt
   have HR : Hid (wr.rowIs w.heap.size 77 (len * 3) f) := hrow
   clear hrow
   go_wp2_with fail
   refine (toEvent_any _ _ _ _).mono ?_
   rintro e w1 ⟨rfl, hb1⟩
   have hr1 : w1.rowIs w.heap.size 77 (len * 3) f := HR.out.of_block (hb1.block _ hs)
   have f0 := hr1.frozen (k * 3)
   have f1 := hr1.frozen (k * 3 + 1)
   have f2 := hr1.frozen (k * 3 + 2)
   have g0 := hr1.cell (i := k * 3) (by omega)
   have g1 := hr1.cell (i := k * 3 + 1) (by omega)
   have g2 := hr1.cell (i := k * 3 + 2) (by omega)
   have HR1 : Hid (w1.rowIs w.heap.size 77 (len * 3) f) := hr1
   clear hr1
   go_wp2_with fail
   exact ⟨⟨k + 1, by omega, by go_num, FilledE.step HR1.out HF.out, (((hbw.trans (hb1.mono (Nat.le_of_lt hs))).setCell (Nat.le_refl _) _).setCell (Nat.le_refl _) _).setCell (Nat.le_refl _) _⟩, by simp [intOf]; omega⟩
  ·have hkl : k = len := by omega
   have HI : Hid (EvAt wr w.heap.size 0 len h) := by
    have := HF.out.at hrow hk
    rw [hkl] at this
    exact this
   have HZ : Hid (∀ j, wr.frozen? ⟨w.heap.size, j, none⟩ = false) := fun j => hrow.frozen j
   clear hkl HF hrow
   go_wp2
   go_ret
   exact ⟨rfl, HI.out, hs, hbw, HZ.out⟩
theorem toEventS_freeEmpty (a0 : Option Addr) (cap : Nat) (h : Nat → E3) (w : World) :
  Calls Tryz.prog 91 #[.slice a0 0 cap] w fun e w' => e = .returned (.slice (some ⟨w.heap.size, 0, none⟩) 0 0) ∧ EvAt w' w.heap.size 0 0 h ∧ w.heap.size < w'.heap.size ∧ Below w.heap.size w w' ∧ ∀ j, w'.frozen? ⟨w.heap.size, j, none⟩ = false := by
 have hmk : ∀ w : World, (Instr.makeSlice 91 (.int .i64 0) (.int .i64 0)).run Tryz.prog w = .ok (.slice (some ⟨w.heap.size, 0, none⟩) 0 0) (w.alloc (.cells (madeCells (evV 0 0 0).cells (0 * 3)) 77)) := fun w => run_make_ev 0 (by omega) w
 go_enter Tryz.func91, Tryz.ntmps91
 go_wp2_with fail
 clear hmk
 go_rounds 1
 go_ret
 exact ⟨rfl, fun i hi => by omega, by simp, (Below.refl _ _).alloc (Nat.le_refl _) _, fun j => new_frozen _ _ _ j rfl⟩
def CopiesE (w : World) (a0 : Option Addr) (len cap : Nat) (h : Nat → E3) : Prop := ∀ wx, Below w.heap.size w wx →
 Calls Tryz.prog 91 #[.slice a0 len cap] wx fun e w' => e = .returned (.slice (some ⟨wx.heap.size, 0, none⟩) len len) ∧ EvAt w' wx.heap.size 0 len h ∧ wx.heap.size < w'.heap.size ∧ Below wx.heap.size wx w' ∧ ∀ j, w'.frozen? ⟨wx.heap.size, j, none⟩ = false
theorem copiesE_of {W : World} {a0 : Option Addr} {len cap : Nat} (hl : len ≤ 1048576) (hr : len = 0 ∨ ∃ b off h, a0 = some ⟨b, off, none⟩ ∧ b < W.heap.size ∧ EvAt W b off len h) : ∃ h, CopiesE W a0 len cap h := by
 rcases hr with rfl | ⟨b, off, h, rfl, hb, hI⟩
 ·exact ⟨fun _ => ⟨0, 0, 0⟩, fun wx _ => toEventS_freeEmpty a0 cap _ wx⟩
 ·exact ⟨h, fun wx hB => toEventS_free b off len cap h wx hl (Nat.lt_of_lt_of_le hb hB.size) (hI.below hB hb)⟩
theorem eqEventS_same (b1 b2 len c1 c2 : Nat) (h : Nat → E3) (w : World) (hlen : len ≤ 1048576) (hb1 : b1 < w.heap.size) (hb2 : b2 < w.heap.size) (hc1 : EvAt w b1 0 len h) (hc2 : EvAt w b2 0 len h) :
  Calls Tryz.prog 73 #[.slice (some ⟨b1, 0, none⟩) len c1, .slice (some ⟨b2, 0, none⟩) len c2] w fun e w' => e = .returned (.bool true) ∧ Below w.heap.size w w' := by
 have hl' : (len : Int) ≤ 1048576 := by omega
 have HC1 : Hid (EvAt w b1 0 len h) := hc1
 have HC2 : Hid (EvAt w b2 0 len h) := hc2
 clear hc1 hc2
 go_enter Tryz.func73, Tryz.ntmps73
 go_wp2_with fail
 go_loopw [5] (fun i wr => ∃ k : Nat, k ≤ len ∧ i = .int .i64 k ∧ Below w.heap.size w wr) (fun i _ => len - (intOf i).toNat)
 case atStart => exact ⟨0, Nat.zero_le _, rfl, Below.refl _ _⟩
 case round =>
  obtain ⟨k, hk, rfl, hbw⟩ := hrel
  have hs := hbw.size
  by_cases hlt : k < len
  ·obtain ⟨c0, c1, c2⟩ := HC1.out.below hbw hb1 k hlt
   obtain ⟨d0, d1, d2⟩ := HC2.out.below hbw hb2 k hlt
   have hlt' : (k : Int) < (len : Int) := by omega
   rw [Nat.zero_add] at c0 c1 c2 d0 d1 d2
   go_wp2_with fail
   first | (go_region_with (go_at_call 129; refine (eqEvent_same _ _ _ _).mono ?_; rintro e w1 ⟨rfl, hq1⟩)) | fail
   all_goals
    go_wp2
    go_roundw
    case rel => exact ⟨k + 1, by omega, by go_num, hbw.drew.trans (hq1.mono hs)⟩
    case measure => simp [intOf]; omega
  ·go_wp2
   go_ret
   exact ⟨rfl, hbw⟩
def RoomE (w : World) (b len : Nat) : Prop := (∀ i, i < len * 3 → ∃ u, w.cell? ⟨b, i, none⟩ = some u) ∧ ∀ j, w.frozen? ⟨b, j, none⟩ = false
theorem RoomE.set {w : World} {b len : Nat} (h : RoomE w b len) (p : Addr) (v : Value) : RoomE (w.setCell p v) b len :=
 ⟨fun i hi => (h.1 i hi).elim fun _ e => cell?_setCell_some e, fun j => by rw [World.frozen?_setCell]; exact h.2 j⟩
theorem RoomE.of_ev {w : World} {b len : Nat} {h : Nat → E3} (hh : EvAt w b 0 len h) (hf : ∀ j, w.frozen? ⟨b, j, none⟩ = false) : RoomE w b len := by
 refine ⟨fun i hi => ?_, hf⟩
 obtain ⟨c0, c1, c2⟩ := hh (i / 3) (by omega)
 simp only [Nat.zero_add] at c0 c1 c2
 have he : i = i / 3 * 3 ∨ i = i / 3 * 3 + 1 ∨ i = i / 3 * 3 + 2 := by omega
 rcases he with e | e | e
 ·rw [e]; exact ⟨_, c0⟩
 ·rw [e]; exact ⟨_, c1⟩
 ·rw [e]; exact ⟨_, c2⟩
theorem markEventS_any (b len cap : Nat) (k : Int) (w : World) (hlen : len ≤ 1048576) (k0 : 0 ≤ k) (k1 : k ≤ 100000000) (h : RoomE w b len) :
  Calls Tryz.prog 77 #[.slice (some ⟨b, 0, none⟩) len cap, .int .i64 k] w fun e w' => e = .returned (.int .i64 (k + 3 * len)) ∧ w.grownBy w' (some b) := by
 have hl' : (len : Int) ≤ 1048576 := by omega
 have HO : Hid (RoomE w b len) := h
 clear h
 go_enter Tryz.func77, Tryz.ntmps77
 go_wp2_with fail
 go_loopw [1, 5] (fun q i wr => ∃ j : Nat, j ≤ len ∧ i = .int .i64 j ∧ q = .int .i64 (k + 3 * j) ∧ Hid (RoomE wr b len ∧ w.grownBy wr (some b))) (fun _ i _ => len - (intOf i).toNat)
 case atStart => exact ⟨0, Nat.zero_le _, rfl, by simp, HO.out, World.grownBy.refl _ _⟩
 case round =>
  clear HO
  obtain ⟨j, hj, rfl, rfl, HR⟩ := hrel
  by_cases hlt : j < len
  ·have hlt' : (j : Int) < (len : Int) := by omega
   obtain ⟨u0, c0⟩ := HR.out.1.1 (j * 3) (by omega)
   obtain ⟨u1, c1⟩ := HR.out.1.1 (j * 3 + 1) (by omega)
   obtain ⟨u2, c2⟩ := HR.out.1.1 (j * 3 + 2) (by omega)
   have fz := HR.out.1.2
   go_wp2
   go_roundw
   case rel =>
    refine ⟨j + 1, by omega, by go_num, by go_num, ?_⟩
    refine ⟨?_, ?_⟩
    ·repeat (refine RoomE.set ?_ _ _)
     exact HR.out.1
    ·repeat (refine grown_setCell ?_ (.inl rfl) _)
     exact HR.out.2
   case measure => simp [intOf]; omega
  ·have hlt' : ¬ (j : Int) < (len : Int) := by omega
   have HF : Hid (w.grownBy wr (some b)) := HR.out.2
   have hjl : (j : Int) = len := by omega
   have HJ : Hid ((j : Int) = len) := hjl
   clear HR hjl
   go_wp2
   go_ret
   exact ⟨ret_int (by rw [HJ.out]), HF.out⟩
theorem cellsLawEv : Tryz.prog.cellsOf 162 = 3 := by kernel_rfl
theorem open_evCells {H : Type} {enc : TypeId × Value → H} {w : World} {base fuel : Nat} {spare : Nat → Bool} {held : Bool} {c0 c1 c2 : Value} {x : DataW H × List MemPlace}
  (hf : DataW.trod enc Tryz.prog w base spare held fuel 162 [c0, c1, c2] = some x) :
  ∃ k q v : Int, c0 = .int .i64 k ∧ c1 = .int .i64 q ∧ c2 = .int .i64 v := by
 obtain ⟨xs, m, -, -, -, hl, hx⟩ := DataW.trod_struct Tryz.underlying162 hf
 have hl : xs.length = 3 := hl
 have q0 : DataW.trod enc Tryz.prog w base spare held m 3 [c0] = xs[0]? := by simpa [cellsInt] using hx 0 _ rfl
 have q1 : DataW.trod enc Tryz.prog w base spare held m 3 [c1] = xs[1]? := by simpa [cellsInt] using hx 1 _ rfl
 have q2 : DataW.trod enc Tryz.prog w base spare held m 3 [c2] = xs[2]? := by simpa [cellsInt] using hx 2 _ rfl
 rw [List.getElem?_eq_getElem (by omega)] at q0 q1 q2
 obtain ⟨z0, e0, -, -⟩ := DataW.trod_int Tryz.underlying3 q0
 obtain ⟨z1, e1, -, -⟩ := DataW.trod_int Tryz.underlying3 q1
 obtain ⟨z2, e2, -, -⟩ := DataW.trod_int Tryz.underlying3 q2
 simp only [List.cons.injEq, and_true] at e0 e1 e2
 exact ⟨z0, z1, z2, e0, e1, e2⟩
theorem open_evRow {H : Type} {enc : TypeId × Value → H} {w : World} {spare : Nat → Bool} {held : Bool} {base : Nat} {a0 : Option Addr} {len cap : Nat} {d : DataW H} {p : List MemPlace}
  (h : DataW.Trod enc Tryz.prog w base spare held 119 (.slice a0 len cap) d p) :
  len ≤ maxLen ∧ (len = 0 ∨ ∃ b off h, a0 = some ⟨b, off, none⟩ ∧ b < w.heap.size ∧ EvAt w b off len h) := by
 obtain ⟨fuel, hf⟩ := h
 rcases Go.Deep.open_slice Tryz.underlying119 hf with ⟨hcs, _⟩ | ⟨a, len', cap', m, n, D, Pl, hcs, _, hl, hm, hmm, _, hx⟩
 ·simp [Value.cells] at hcs
  obtain ⟨_, rfl, _⟩ := hcs
  exact ⟨Nat.zero_le _, .inl rfl⟩
 ·simp [Value.cells] at hcs
  obtain ⟨rfl, rfl, rfl⟩ := hcs
  refine ⟨Nat.le_trans hl hm, ?_⟩
  by_cases h0 : len = 0
  ·exact .inl h0
  right
  have hle : len ≤ m := by rw [hmm]; split <;> omega
  rw [cellsLawEv] at hx
  obtain ⟨b, off, spot⟩ := a
  have hcell : ∀ i, i < len → ∃ x : E3, w.cell? (Addr.add (Addr.add ⟨b, off, spot⟩ (i * 3)) 0) = some (.int .i64 x.k) ∧ w.cell? (Addr.add (Addr.add ⟨b, off, spot⟩ (i * 3)) 1) = some (.int .i64 x.q) ∧ w.cell? (Addr.add (Addr.add ⟨b, off, spot⟩ (i * 3)) 2) = some (.int .i64 x.v) := by
   intro i hi
   obtain ⟨cs', h1, h2⟩ := hx i (by omega)
   obtain ⟨_, hlen, hc⟩ := World.cells?_some h1
   match cs', hlen with
   | [c0, c1, c2], _ =>
    obtain ⟨k, q, v, rfl, rfl, rfl⟩ := open_evCells h2
    exact ⟨⟨k, q, v⟩, hc 0 (by omega), hc 1 (by omega), hc 2 (by omega)⟩
  have hspot : spot = none := by
   obtain ⟨x, hx0, _⟩ := hcell 0 (by omega)
   simpa [Addr.add] using World.cell?_spot hx0
  subst hspot
  have inh : Inhabited E3 := ⟨⟨0, 0, 0⟩⟩
  obtain ⟨g, hg⟩ := Go.Deep.choose_lt (α := E3) hcell
  have hI : EvAt w b off len g := by
   intro i hi
   obtain ⟨q0, q1, q2⟩ := hg i hi
   rw [addr_addO, addr_addO] at q0 q1 q2
   exact ⟨q0, q1, q2⟩
  exact ⟨b, off, g, rfl, cell_lt (hI 0 (by omega)).1, hI⟩
end Go.Proofs.YtdigofhceahpdaaGreatDoor
