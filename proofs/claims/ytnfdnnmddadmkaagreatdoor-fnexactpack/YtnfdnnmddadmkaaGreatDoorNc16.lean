/- Bytes in memory: what is read, what is owned, made, appended, compared and marked. -/
import Derived.Test.YtnfdnnmddadmkaaGreatDoorNc0
import Derived.Test.YtnfdnnmddadmkaaGreatDoorNc9
import Derived.Test.YtnfdnnmddadmkaaGreatDoorNc15
import Derived.Test.YtnfdnnmddadmkaaGreatDoorNc10
import Derived.Laws.BitsLemmas
namespace Go.Proofs.YtnfdnnmddadmkaaGreatDoor
set_option maxRecDepth 100000
set_option maxHeartbeats 1000000
open Go.RowKit Go.Deep
theorem toInsS_free (b off len cap : Nat) (g : Nat → I5) (w : World) (hlen : len ≤ 1048576) (hb : b < w.heap.size) (hc : InsAt w b off len g) :
  Calls Tryz.prog 128 #[.slice (some ⟨b, off, none⟩) len cap] w fun e w' => e = .returned (.slice (some ⟨w.heap.size, 0, none⟩) len len) ∧ InsAt w' w.heap.size 0 len g ∧ w.heap.size < w'.heap.size ∧ Below w.heap.size w w' ∧ ∀ j, w'.frozen? ⟨w.heap.size, j, none⟩ = false := by
 have hl' : (len : Int) ≤ 1048576 := by omega
 have hmk := run_make_ins len hlen
 have HC : Hid (InsAt w b off len g) := hc
 clear hc
 go_enter Tryz.func128, Tryz.ntmps128
 go_wp2_with fail
 clear hmk
 go_loopw [4] (fun i wr => ∃ k : Nat, k ≤ len ∧ i = .int .i64 k ∧ (∃ f, wr.rowIs w.heap.size 123 (len * 5) f ∧ Hid (Filled f g k)) ∧ Below w.heap.size w wr) (fun i _ => len - (intOf i).toNat)
 case atStart => exact ⟨0, Nat.zero_le _, rfl, ⟨_, madeIns_row w len, fun i hi => by omega⟩, (Below.refl _ _).alloc (Nat.le_refl _) _⟩
 case round =>
  obtain ⟨k, hk, rfl, ⟨f, hrow, HF⟩, hbw⟩ := hrel
  have hs := hrow.lt
  by_cases hlt : k < len
  ·obtain ⟨c0, c1, c2, c3, c4⟩ := HC.out.below hbw hb k hlt
   have HR : Hid (wr.rowIs w.heap.size 123 (len * 5) f) := hrow
   clear hrow
   go_wp2_with fail
   refine (toIns_any _ _ _ _ _ _).mono ?_
   rintro e w1 ⟨rfl, hb1⟩
   have hr1 : w1.rowIs w.heap.size 123 (len * 5) f := HR.out.of_block (hb1.block _ hs)
   have f0 := hr1.frozen (k * 5)
   have f1 := hr1.frozen (k * 5 + 1)
   have f2 := hr1.frozen (k * 5 + 2)
   have f3 := hr1.frozen (k * 5 + 3)
   have f4 := hr1.frozen (k * 5 + 4)
   have g0 := hr1.cell (i := k * 5) (by omega)
   have g1 := hr1.cell (i := k * 5 + 1) (by omega)
   have g2 := hr1.cell (i := k * 5 + 2) (by omega)
   have g3 := hr1.cell (i := k * 5 + 3) (by omega)
   have g4 := hr1.cell (i := k * 5 + 4) (by omega)
   have HR1 : Hid (w1.rowIs w.heap.size 123 (len * 5) f) := hr1
   clear hr1
   go_wp2_with fail
   exact ⟨⟨k + 1, by omega, by go_num, Filled.step HR1.out HF.out, (((((hbw.trans (hb1.mono (Nat.le_of_lt hs))).setCell (Nat.le_refl _) _).setCell (Nat.le_refl _) _).setCell (Nat.le_refl _) _).setCell (Nat.le_refl _) _).setCell (Nat.le_refl _) _⟩, by simp [intOf]; omega⟩
  ·have hkl : k = len := by omega
   have HI : Hid (InsAt wr w.heap.size 0 len g) := by
    have := HF.out.at hrow hk
    rw [hkl] at this
    exact this
   have HZ : Hid (∀ j, wr.frozen? ⟨w.heap.size, j, none⟩ = false) := fun j => hrow.frozen j
   clear hkl HF hrow
   go_wp2
   go_ret
   exact ⟨rfl, HI.out, hs, hbw, HZ.out⟩
theorem toInsS_freeEmpty (a0 : Option Addr) (cap : Nat) (g : Nat → I5) (w : World) :
  Calls Tryz.prog 128 #[.slice a0 0 cap] w fun e w' => e = .returned (.slice (some ⟨w.heap.size, 0, none⟩) 0 0) ∧ InsAt w' w.heap.size 0 0 g ∧ w.heap.size < w'.heap.size ∧ Below w.heap.size w w' ∧ ∀ j, w'.frozen? ⟨w.heap.size, j, none⟩ = false := by
 have hmk : ∀ w : World, (Instr.makeSlice 121 (.int .i64 0) (.int .i64 0)).run Tryz.prog w = .ok (.slice (some ⟨w.heap.size, 0, none⟩) 0 0) (w.alloc (.cells (madeCells (insV 0 0 0 0 0).cells (0 * 5)) 123)) := fun w => run_make_ins 0 (by omega) w
 go_enter Tryz.func128, Tryz.ntmps128
 go_wp2_with fail
 clear hmk
 go_rounds 1
 go_ret
 exact ⟨rfl, fun i hi => by omega, by simp, (Below.refl _ _).alloc (Nat.le_refl _) _, fun j => new_frozen _ _ _ j rfl⟩
def CopiesF (w : World) (a0 : Option Addr) (len cap : Nat) (g : Nat → I5) : Prop := ∀ wx, Below w.heap.size w wx →
 Calls Tryz.prog 128 #[.slice a0 len cap] wx fun e w' => e = .returned (.slice (some ⟨wx.heap.size, 0, none⟩) len len) ∧ InsAt w' wx.heap.size 0 len g ∧ wx.heap.size < w'.heap.size ∧ Below wx.heap.size wx w' ∧ ∀ j, w'.frozen? ⟨wx.heap.size, j, none⟩ = false
theorem copiesF_of {W : World} {a0 : Option Addr} {len cap : Nat} (hl : len ≤ 1048576) (hr : len = 0 ∨ ∃ b off g, a0 = some ⟨b, off, none⟩ ∧ b < W.heap.size ∧ InsAt W b off len g) : ∃ g, CopiesF W a0 len cap g := by
 rcases hr with rfl | ⟨b, off, g, rfl, hb, hI⟩
 ·exact ⟨fun _ => ⟨0, 0, 0, 0, 0⟩, fun wx _ => toInsS_freeEmpty a0 cap _ wx⟩
 ·exact ⟨g, fun wx hB => toInsS_free b off len cap g wx hl (Nat.lt_of_lt_of_le hb hB.size) (hI.below hB hb)⟩
def Room (w : World) (b len : Nat) : Prop := (∀ i, i < len * 5 → ∃ u, w.cell? ⟨b, i, none⟩ = some u) ∧ ∀ j, w.frozen? ⟨b, j, none⟩ = false
theorem Room.set {w : World} {b len : Nat} (h : Room w b len) (p : Addr) (v : Value) : Room (w.setCell p v) b len :=
 ⟨fun i hi => (h.1 i hi).elim fun _ e => cell?_setCell_some e, fun j => by rw [World.frozen?_setCell]; exact h.2 j⟩
theorem Room.of_ins {w : World} {b len : Nat} {g : Nat → I5} (h : InsAt w b 0 len g) (hf : ∀ j, w.frozen? ⟨b, j, none⟩ = false) : Room w b len := by
 refine ⟨fun i hi => ?_, hf⟩
 obtain ⟨c0, c1, c2, c3, c4⟩ := h (i / 5) (by omega)
 simp only [Nat.zero_add] at c0 c1 c2 c3 c4
 have hh : i = i / 5 * 5 ∨ i = i / 5 * 5 + 1 ∨ i = i / 5 * 5 + 2 ∨ i = i / 5 * 5 + 3 ∨ i = i / 5 * 5 + 4 := by omega
 rcases hh with e | e | e | e | e
 ·rw [e]; exact ⟨_, c0⟩
 ·rw [e]; exact ⟨_, c1⟩
 ·rw [e]; exact ⟨_, c2⟩
 ·rw [e]; exact ⟨_, c3⟩
 ·rw [e]; exact ⟨_, c4⟩
theorem markInsS_any (b len cap : Nat) (k : Int) (w : World) (hlen : len ≤ 1048576) (k0 : 0 ≤ k) (k1 : k ≤ 100000000) (h : Room w b len) :
  Calls Tryz.prog 136 #[.slice (some ⟨b, 0, none⟩) len cap, .int .i64 k] w fun e w' => e = .returned (.int .i64 (k + 5 * len)) ∧ w.grownBy w' (some b) := by
 have hl' : (len : Int) ≤ 1048576 := by omega
 have HO : Hid (Room w b len) := h
 clear h
 go_enter Tryz.func136, Tryz.ntmps136
 go_wp2_with fail
 go_loopw [1, 5] (fun q i wr => ∃ j : Nat, j ≤ len ∧ i = .int .i64 j ∧ q = .int .i64 (k + 5 * j) ∧ Hid (Room wr b len ∧ w.grownBy wr (some b))) (fun _ i _ => len - (intOf i).toNat)
 case atStart => exact ⟨0, Nat.zero_le _, rfl, by simp, HO.out, World.grownBy.refl _ _⟩
 case round =>
  clear HO
  obtain ⟨j, hj, rfl, rfl, HR⟩ := hrel
  by_cases hlt : j < len
  ·have hlt' : (j : Int) < (len : Int) := by omega
   obtain ⟨u0, c0⟩ := HR.out.1.1 (j * 5) (by omega)
   obtain ⟨u1, c1⟩ := HR.out.1.1 (j * 5 + 1) (by omega)
   obtain ⟨u2, c2⟩ := HR.out.1.1 (j * 5 + 2) (by omega)
   obtain ⟨u3, c3⟩ := HR.out.1.1 (j * 5 + 3) (by omega)
   obtain ⟨u4, c4⟩ := HR.out.1.1 (j * 5 + 4) (by omega)
   have fz := HR.out.1.2
   go_wp2
   go_roundw
   case rel =>
    refine ⟨j + 1, by omega, by go_num, by go_num, ?_⟩
    refine ⟨?_, ?_⟩
    ·repeat (refine Room.set ?_ _ _)
     exact HR.out.1
    ·repeat (refine grown_setCell ?_ (.inl rfl) _)
     exact HR.out.2
   case measure => simp [intOf]; omega
  ·have hlt' : ¬ (j : Int) < (len : Int) := by omega
   have HF : Hid (w.grownBy wr (some b)) := HR.out.2
   have hjl : (j : Int) = len := by omega
   have HJ : Hid ((j : Int) = len) := hjl
   clear HR hjl
   go_wp2
   go_ret
   exact ⟨ret_int (by rw [HJ.out]), HF.out⟩
open Go.ChangeShapes Go.WideShapes Go.ChangeAt
structure E3 where
 k : Int
 q : Int
 v : Int
def EvAt (w : World) (b off len : Nat) (h : Nat → E3) : Prop := ∀ i, i < len →
 w.cell? ⟨b, off + i * 3, none⟩ = some (.int .i64 (h i).k) ∧ w.cell? ⟨b, off + i * 3 + 1, none⟩ = some (.int .i64 (h i).q) ∧ w.cell? ⟨b, off + i * 3 + 2, none⟩ = some (.int .i64 (h i).v)
theorem EvAt.below {w w' : World} {B b off len : Nat} {h : Nat → E3} (hh : EvAt w b off len h) (hb : Below B w w') (hB : b < B) : EvAt w' b off len h := by
 intro i hi
 obtain ⟨h0, h1, h2⟩ := hh i hi
 exact ⟨(hb.cell hB).trans h0, (hb.cell hB).trans h1, (hb.cell hB).trans h2⟩
theorem infoEv : (Tryz.prog.info? 83).map (fun i => (i.zero, i.size, i.bytes)) = some (some (evV 0 0 0), 3, 24) := by kernel_rfl
theorem run_make_ev (n : Nat) (hn : n ≤ 1048576) (w : World) :
  (Instr.makeSlice 84 (.int .i64 (n : Int)) (.int .i64 (n : Int))).run Tryz.prog w = .ok (.slice (some ⟨w.heap.size, 0, none⟩) n n) (w.alloc (.cells (madeCells (evV 0 0 0).cells (n * 3)) 83)) := by
 have hinfo := infoEv
 cases hi : Tryz.prog.info? 83 with
 | none => rw [hi] at hinfo; cases hinfo
 | some i =>
  rw [hi] at hinfo
  simp only [Option.map_some, Option.some.injEq, Prod.mk.injEq] at hinfo
  obtain ⟨hz, hs, hb⟩ := hinfo
  have h := run_make (P := Tryz.prog) w 84 83 i _ Tryz.underlying84 hi hz .i64 .i64 (n : Int) (n : Int) (by omega) (Int.le_refl _) (by rw [hb]; omega) (by omega)
  rw [hs] at h
  simpa using h
theorem madeEv_row (w : World) (n : Nat) : (w.alloc (.cells (madeCells (evV 0 0 0).cells (n * 3)) 83)).rowIs w.heap.size 83 (n * 3) (fun _ => .int .i64 0) := by
 refine ⟨_, blk_alloc_new _ _, size_madeCells _ _, fun i hi => ?_⟩
 have h3 : i % 3 < 3 := Nat.mod_lt _ (by omega)
 have : ∀ j, j < 3 → (#[Value.int .i64 0, .int .i64 0, .int .i64 0] : Array Value)[j]! = .int .i64 0 := by
  intro j hj
  match j, hj with
  | 0, _ => rfl
  | 1, _ => rfl
  | 2, _ => rfl
 simp only [madeCells, Value.cells]
 rw [Array.getElem?_map, Array.getElem?_range, if_pos hi]
 exact congrArg some (this (i % 3) h3)
def FilledE (f : Nat → Value) (h : Nat → E3) (k : Nat) : Prop := ∀ i, i < k →
 f (i * 3) = .int .i64 (h i).k ∧ f (i * 3 + 1) = .int .i64 (h i).q ∧ f (i * 3 + 2) = .int .i64 (h i).v
theorem FilledE.at {w : World} {b : Nat} {t : TypeId} {len k : Nat} {f : Nat → Value} {h : Nat → E3} (hh : FilledE f h k) (hr : w.rowIs b t (len * 3) f) (hk : k ≤ len) : EvAt w b 0 k h := by
 intro i hi
 obtain ⟨h0, h1, h2⟩ := hh i hi
 refine ⟨?_, ?_, ?_⟩
 ·rw [hr.cell (by omega), Nat.zero_add, h0]
 ·rw [hr.cell (by omega), Nat.zero_add, h1]
 ·rw [hr.cell (by omega), Nat.zero_add, h2]
theorem FilledE.step {w : World} {b : Nat} {t : TypeId} {len k : Nat} {f : Nat → Value} {h : Nat → E3} (hr : w.rowIs b t (len * 3) f) (hh : FilledE f h k) :
  ∃ f', (((w.setCell ⟨b, k * 3, none⟩ (.int .i64 (h k).k)).setCell ⟨b, k * 3 + 1, none⟩ (.int .i64 (h k).q)).setCell ⟨b, k * 3 + 2, none⟩ (.int .i64 (h k).v)).rowIs b t (len * 3) f' ∧ FilledE f' h (k + 1) := by
 refine ⟨_, ((hr.set _ _).set _ _).set _ _, fun i hi => ?_⟩
 by_cases hik : i = k
 ·subst hik
  simp
 ·have hlt : i < k := by omega
  obtain ⟨h0, h1, h2⟩ := hh i hlt
  refine ⟨?_, ?_, ?_⟩
  ·rw [if_neg (by omega), if_neg (by omega), if_neg (by omega)]; exact h0
  ·rw [if_neg (by omega), if_neg (by omega), if_neg (by omega)]; exact h1
  ·rw [if_neg (by omega), if_neg (by omega), if_neg (by omega)]; exact h2
theorem szEventS_small (a0 : Option Addr) (len cap : Nat) (L : Int) (w : World) (h : (len : Int) ≤ L) (hL : L ≤ 1048576) :
  Calls Tryz.prog 127 #[.slice a0 len cap, .int .i64 L] w fun e w' => e = .returned (.int .i64 (L - (len : Int))) ∧ w' = w := by
 have h1 : (len : Int) ≤ 1048576 := by omega
 have h2 : 0 ≤ L := by omega
 have h3 : ¬ (L - (len : Int) < 0) := by omega
 go_enter Tryz.func127, Tryz.ntmps127
 go_wp2
 go_ret
 exact ⟨rfl, rfl⟩
theorem szEventS_great (a0 : Option Addr) (len cap : Nat) (L : Int) (w : World) (h : L < (len : Int)) (h0 : 0 ≤ L) (hL : L ≤ 1048576) (hm : len ≤ maxLen) :
  Calls Tryz.prog 127 #[.slice a0 len cap, .int .i64 L] w fun e w' => e = .returned (.int .i64 (-1)) ∧ w' = w := by
 unfold maxLen at hm
 have h2 : (len : Int) ≤ 9223372036854775807 := by omega
 have h3 : L - (len : Int) < 0 := by omega
 go_enter Tryz.func127, Tryz.ntmps127
 go_wp2
 go_ret
 exact ⟨rfl, rfl⟩
theorem toEventS_free (b off len cap : Nat) (h : Nat → E3) (w : World) (hlen : len ≤ 1048576) (hb : b < w.heap.size) (hc : EvAt w b off len h) :
  Calls Tryz.prog 131 #[.slice (some ⟨b, off, none⟩) len cap] w fun e w' => e = .returned (.slice (some ⟨w.heap.size, 0, none⟩) len len) ∧ EvAt w' w.heap.size 0 len h ∧ w.heap.size < w'.heap.size ∧ Below w.heap.size w w' ∧ ∀ j, w'.frozen? ⟨w.heap.size, j, none⟩ = false := by
 have hl' : (len : Int) ≤ 1048576 := by omega
 have hmk := run_make_ev len hlen
 have HC : Hid (EvAt w b off len h) := hc
 clear hc
 go_enter Tryz.func131, Tryz.ntmps131
 go_wp2_with fail
 clear hmk
 go_loopw [4] (fun i wr => ∃ k : Nat, k ≤ len ∧ i = .int .i64 k ∧ (∃ f, wr.rowIs w.heap.size 83 (len * 3) f ∧ Hid (FilledE f h k)) ∧ Below w.heap.size w wr) (fun i _ => len - (intOf i).toNat)
 case atStart => exact ⟨0, Nat.zero_le _, rfl, ⟨_, madeEv_row w len, fun i hi => by omega⟩, (Below.refl _ _).alloc (Nat.le_refl _) _⟩
 case round =>
  obtain ⟨k, hk, rfl, ⟨f, hrow, HF⟩, hbw⟩ := hrel
  have hs := hrow.lt
  by_cases hlt : k < len
  ·obtain ⟨c0, c1, c2⟩ := HC.out.below hbw hb k hlt
   have HR : Hid (wr.rowIs w.heap.size 83 (len * 3) f) := hrow
   clear hrow
   go_wp2_with fail
   refine (toEvent_any _ _ _ _).mono ?_
   rintro e w1 ⟨rfl, hb1⟩
   have hr1 : w1.rowIs w.heap.size 83 (len * 3) f := HR.out.of_block (hb1.block _ hs)
   have f0 := hr1.frozen (k * 3)
   have f1 := hr1.frozen (k * 3 + 1)
   have f2 := hr1.frozen (k * 3 + 2)
   have g0 := hr1.cell (i := k * 3) (by omega)
   have g1 := hr1.cell (i := k * 3 + 1) (by omega)
   have g2 := hr1.cell (i := k * 3 + 2) (by omega)
   have HR1 : Hid (w1.rowIs w.heap.size 83 (len * 3) f) := hr1
   clear hr1
   go_wp2_with fail
   exact ⟨⟨k + 1, by omega, by go_num, FilledE.step HR1.out HF.out, (((hbw.trans (hb1.mono (Nat.le_of_lt hs))).setCell (Nat.le_refl _) _).setCell (Nat.le_refl _) _).setCell (Nat.le_refl _) _⟩, by simp [intOf]; omega⟩
  ·have hkl : k = len := by omega
   have HI : Hid (EvAt wr w.heap.size 0 len h) := by
    have := HF.out.at hrow hk
    rw [hkl] at this
    exact this
   have HZ : Hid (∀ j, wr.frozen? ⟨w.heap.size, j, none⟩ = false) := fun j => hrow.frozen j
   clear hkl HF hrow
   go_wp2
   go_ret
   exact ⟨rfl, HI.out, hs, hbw, HZ.out⟩
theorem toEventS_freeEmpty (a0 : Option Addr) (cap : Nat) (h : Nat → E3) (w : World) :
  Calls Tryz.prog 131 #[.slice a0 0 cap] w fun e w' => e = .returned (.slice (some ⟨w.heap.size, 0, none⟩) 0 0) ∧ EvAt w' w.heap.size 0 0 h ∧ w.heap.size < w'.heap.size ∧ Below w.heap.size w w' ∧ ∀ j, w'.frozen? ⟨w.heap.size, j, none⟩ = false := by
 have hmk : ∀ w : World, (Instr.makeSlice 84 (.int .i64 0) (.int .i64 0)).run Tryz.prog w = .ok (.slice (some ⟨w.heap.size, 0, none⟩) 0 0) (w.alloc (.cells (madeCells (evV 0 0 0).cells (0 * 3)) 83)) := fun w => run_make_ev 0 (by omega) w
 go_enter Tryz.func131, Tryz.ntmps131
 go_wp2_with fail
 clear hmk
 go_rounds 1
 go_ret
 exact ⟨rfl, fun i hi => by omega, by simp, (Below.refl _ _).alloc (Nat.le_refl _) _, fun j => new_frozen _ _ _ j rfl⟩
def CopiesE (w : World) (a0 : Option Addr) (len cap : Nat) (h : Nat → E3) : Prop := ∀ wx, Below w.heap.size w wx →
 Calls Tryz.prog 131 #[.slice a0 len cap] wx fun e w' => e = .returned (.slice (some ⟨wx.heap.size, 0, none⟩) len len) ∧ EvAt w' wx.heap.size 0 len h ∧ wx.heap.size < w'.heap.size ∧ Below wx.heap.size wx w' ∧ ∀ j, w'.frozen? ⟨wx.heap.size, j, none⟩ = false
theorem copiesE_of {W : World} {a0 : Option Addr} {len cap : Nat} (hl : len ≤ 1048576) (hr : len = 0 ∨ ∃ b off h, a0 = some ⟨b, off, none⟩ ∧ b < W.heap.size ∧ EvAt W b off len h) : ∃ h, CopiesE W a0 len cap h := by
 rcases hr with rfl | ⟨b, off, h, rfl, hb, hI⟩
 ·exact ⟨fun _ => ⟨0, 0, 0⟩, fun wx _ => toEventS_freeEmpty a0 cap _ wx⟩
 ·exact ⟨h, fun wx hB => toEventS_free b off len cap h wx hl (Nat.lt_of_lt_of_le hb hB.size) (hI.below hB hb)⟩
theorem eqEventS_same (b1 b2 len c1 c2 : Nat) (h : Nat → E3) (w : World) (hlen : len ≤ 1048576) (hb1 : b1 < w.heap.size) (hb2 : b2 < w.heap.size) (hc1 : EvAt w b1 0 len h) (hc2 : EvAt w b2 0 len h) :
  Calls Tryz.prog 135 #[.slice (some ⟨b1, 0, none⟩) len c1, .slice (some ⟨b2, 0, none⟩) len c2] w fun e w' => e = .returned (.bool true) ∧ Below w.heap.size w w' := by
 have hl' : (len : Int) ≤ 1048576 := by omega
 have HC1 : Hid (EvAt w b1 0 len h) := hc1
 have HC2 : Hid (EvAt w b2 0 len h) := hc2
 clear hc1 hc2
 go_enter Tryz.func135, Tryz.ntmps135
 go_wp2_with fail
 go_loopw [5] (fun i wr => ∃ k : Nat, k ≤ len ∧ i = .int .i64 k ∧ Below w.heap.size w wr) (fun i _ => len - (intOf i).toNat)
 case atStart => exact ⟨0, Nat.zero_le _, rfl, Below.refl _ _⟩
 case round =>
  obtain ⟨k, hk, rfl, hbw⟩ := hrel
  have hs := hbw.size
  by_cases hlt : k < len
  ·obtain ⟨c0, c1, c2⟩ := HC1.out.below hbw hb1 k hlt
   obtain ⟨d0, d1, d2⟩ := HC2.out.below hbw hb2 k hlt
   have hlt' : (k : Int) < (len : Int) := by omega
   rw [Nat.zero_add] at c0 c1 c2 d0 d1 d2
   go_wp2_with fail
   first | (go_region_with (go_at_call 192; refine (eqEvent_same _ _ _ _).mono ?_; rintro e w1 ⟨rfl, hq1⟩)) | fail
   all_goals
    go_wp2
    go_roundw
    case rel => exact ⟨k + 1, by omega, by go_num, hbw.drew.trans (hq1.mono hs)⟩
    case measure => simp [intOf]; omega
  ·go_wp2
   go_ret
   exact ⟨rfl, hbw⟩
def RoomE (w : World) (b len : Nat) : Prop := (∀ i, i < len * 3 → ∃ u, w.cell? ⟨b, i, none⟩ = some u) ∧ ∀ j, w.frozen? ⟨b, j, none⟩ = false
theorem RoomE.set {w : World} {b len : Nat} (h : RoomE w b len) (p : Addr) (v : Value) : RoomE (w.setCell p v) b len :=
 ⟨fun i hi => (h.1 i hi).elim fun _ e => cell?_setCell_some e, fun j => by rw [World.frozen?_setCell]; exact h.2 j⟩
theorem RoomE.of_ev {w : World} {b len : Nat} {h : Nat → E3} (hh : EvAt w b 0 len h) (hf : ∀ j, w.frozen? ⟨b, j, none⟩ = false) : RoomE w b len := by
 refine ⟨fun i hi => ?_, hf⟩
 obtain ⟨c0, c1, c2⟩ := hh (i / 3) (by omega)
 simp only [Nat.zero_add] at c0 c1 c2
 have he : i = i / 3 * 3 ∨ i = i / 3 * 3 + 1 ∨ i = i / 3 * 3 + 2 := by omega
 rcases he with e | e | e
 ·rw [e]; exact ⟨_, c0⟩
 ·rw [e]; exact ⟨_, c1⟩
 ·rw [e]; exact ⟨_, c2⟩
theorem markEventS_any (b len cap : Nat) (k : Int) (w : World) (hlen : len ≤ 1048576) (k0 : 0 ≤ k) (k1 : k ≤ 100000000) (h : RoomE w b len) :
  Calls Tryz.prog 139 #[.slice (some ⟨b, 0, none⟩) len cap, .int .i64 k] w fun e w' => e = .returned (.int .i64 (k + 3 * len)) ∧ w.grownBy w' (some b) := by
 have hl' : (len : Int) ≤ 1048576 := by omega
 have HO : Hid (RoomE w b len) := h
 clear h
 go_enter Tryz.func139, Tryz.ntmps139
 go_wp2_with fail
 go_loopw [1, 5] (fun q i wr => ∃ j : Nat, j ≤ len ∧ i = .int .i64 j ∧ q = .int .i64 (k + 3 * j) ∧ Hid (RoomE wr b len ∧ w.grownBy wr (some b))) (fun _ i _ => len - (intOf i).toNat)
 case atStart => exact ⟨0, Nat.zero_le _, rfl, by simp, HO.out, World.grownBy.refl _ _⟩
 case round =>
  clear HO
  obtain ⟨j, hj, rfl, rfl, HR⟩ := hrel
  by_cases hlt : j < len
  ·have hlt' : (j : Int) < (len : Int) := by omega
   obtain ⟨u0, c0⟩ := HR.out.1.1 (j * 3) (by omega)
   obtain ⟨u1, c1⟩ := HR.out.1.1 (j * 3 + 1) (by omega)
   obtain ⟨u2, c2⟩ := HR.out.1.1 (j * 3 + 2) (by omega)
   have fz := HR.out.1.2
   go_wp2
   go_roundw
   case rel =>
    refine ⟨j + 1, by omega, by go_num, by go_num, ?_⟩
    refine ⟨?_, ?_⟩
    ·repeat (refine RoomE.set ?_ _ _)
     exact HR.out.1
    ·repeat (refine grown_setCell ?_ (.inl rfl) _)
     exact HR.out.2
   case measure => simp [intOf]; omega
  ·have hlt' : ¬ (j : Int) < (len : Int) := by omega
   have HF : Hid (w.grownBy wr (some b)) := HR.out.2
   have hjl : (j : Int) = len := by omega
   have HJ : Hid ((j : Int) = len) := hjl
   clear HR hjl
   go_wp2
   go_ret
   exact ⟨ret_int (by rw [HJ.out]), HF.out⟩
theorem cellsLawEv : Tryz.prog.cellsOf 230 = 3 := by kernel_rfl
theorem open_evCells {H : Type} {enc : TypeId × Value → H} {w : World} {base fuel : Nat} {spare : Nat → Bool} {held : Bool} {c0 c1 c2 : Value} {x : DataW H × List MemPlace}
  (hf : DataW.trod enc Tryz.prog w base spare held fuel 230 [c0, c1, c2] = some x) :
  ∃ k q v : Int, c0 = .int .i64 k ∧ c1 = .int .i64 q ∧ c2 = .int .i64 v := by
 obtain ⟨xs, m, -, -, -, hl, hx⟩ := DataW.trod_struct Tryz.underlying230 hf
 have hl : xs.length = 3 := hl
 have q0 : DataW.trod enc Tryz.prog w base spare held m 3 [c0] = xs[0]? := by simpa [cellsInt] using hx 0 _ rfl
 have q1 : DataW.trod enc Tryz.prog w base spare held m 3 [c1] = xs[1]? := by simpa [cellsInt] using hx 1 _ rfl
 have q2 : DataW.trod enc Tryz.prog w base spare held m 3 [c2] = xs[2]? := by simpa [cellsInt] using hx 2 _ rfl
 rw [List.getElem?_eq_getElem (by omega)] at q0 q1 q2
 obtain ⟨z0, e0, -, -⟩ := DataW.trod_int Tryz.underlying3 q0
 obtain ⟨z1, e1, -, -⟩ := DataW.trod_int Tryz.underlying3 q1
 obtain ⟨z2, e2, -, -⟩ := DataW.trod_int Tryz.underlying3 q2
 simp only [List.cons.injEq, and_true] at e0 e1 e2
 exact ⟨z0, z1, z2, e0, e1, e2⟩
theorem open_evRow {H : Type} {enc : TypeId × Value → H} {w : World} {spare : Nat → Bool} {held : Bool} {base : Nat} {a0 : Option Addr} {len cap : Nat} {d : DataW H} {p : List MemPlace}
  (h : DataW.Trod enc Tryz.prog w base spare held 169 (.slice a0 len cap) d p) :
  len ≤ maxLen ∧ (len = 0 ∨ ∃ b off h, a0 = some ⟨b, off, none⟩ ∧ b < w.heap.size ∧ EvAt w b off len h) := by
 obtain ⟨fuel, hf⟩ := h
 rcases Go.Deep.open_slice Tryz.underlying169 hf with ⟨hcs, _⟩ | ⟨a, len', cap', m, n, D, Pl, hcs, _, hl, hm, hmm, _, hx⟩
 ·simp [Value.cells] at hcs
  obtain ⟨_, rfl, _⟩ := hcs
  exact ⟨Nat.zero_le _, .inl rfl⟩
 ·simp [Value.cells] at hcs
  obtain ⟨rfl, rfl, rfl⟩ := hcs
  refine ⟨Nat.le_trans hl hm, ?_⟩
  by_cases h0 : len = 0
  ·exact .inl h0
  right
  have hle : len ≤ m := by rw [hmm]; split <;> omega
  rw [cellsLawEv] at hx
  obtain ⟨b, off, spot⟩ := a
  have hcell : ∀ i, i < len → ∃ x : E3, w.cell? (Addr.add (Addr.add ⟨b, off, spot⟩ (i * 3)) 0) = some (.int .i64 x.k) ∧ w.cell? (Addr.add (Addr.add ⟨b, off, spot⟩ (i * 3)) 1) = some (.int .i64 x.q) ∧ w.cell? (Addr.add (Addr.add ⟨b, off, spot⟩ (i * 3)) 2) = some (.int .i64 x.v) := by
   intro i hi
   obtain ⟨cs', h1, h2⟩ := hx i (by omega)
   obtain ⟨_, hlen, hc⟩ := World.cells?_some h1
   match cs', hlen with
   | [c0, c1, c2], _ =>
    obtain ⟨k, q, v, rfl, rfl, rfl⟩ := open_evCells h2
    exact ⟨⟨k, q, v⟩, hc 0 (by omega), hc 1 (by omega), hc 2 (by omega)⟩
  have hspot : spot = none := by
   obtain ⟨x, hx0, _⟩ := hcell 0 (by omega)
   simpa [Addr.add] using World.cell?_spot hx0
  subst hspot
  have inh : Inhabited E3 := ⟨⟨0, 0, 0⟩⟩
  obtain ⟨g, hg⟩ := Go.Deep.choose_lt (α := E3) hcell
  have hI : EvAt w b off len g := by
   intro i hi
   obtain ⟨q0, q1, q2⟩ := hg i hi
   rw [addr_addO, addr_addO] at q0 q1 q2
   exact ⟨q0, q1, q2⟩
  exact ⟨b, off, g, rfl, cell_lt (hI 0 (by omega)).1, hI⟩
structure I2 where
 m : Bool
 v : Int
abbrev itV (m : Bool) (v : Int) : Value := .agg #[.bool m, .int .i64 v]
def ItAt (w : World) (b off len : Nat) (h : Nat → I2) : Prop := ∀ i, i < len →
 w.cell? ⟨b, off + i * 2, none⟩ = some (.bool (h i).m) ∧ w.cell? ⟨b, off + i * 2 + 1, none⟩ = some (.int .i64 (h i).v)
theorem ItAt.below {w w' : World} {B b off len : Nat} {h : Nat → I2} (hh : ItAt w b off len h) (hb : Below B w w') (hB : b < B) : ItAt w' b off len h := by
 intro i hi
 obtain ⟨h0, h1⟩ := hh i hi
 exact ⟨(hb.cell hB).trans h0, (hb.cell hB).trans h1⟩
theorem infoIt : (Tryz.prog.info? 95).map (fun i => (i.zero, i.size, i.bytes)) = some (some (itV false 0), 2, 16) := by kernel_rfl
theorem run_make_it (n : Nat) (hn : n ≤ 1048576) (w : World) :
  (Instr.makeSlice 46 (.int .i64 (n : Int)) (.int .i64 (n : Int))).run Tryz.prog w = .ok (.slice (some ⟨w.heap.size, 0, none⟩) n n) (w.alloc (.cells (madeCells (itV false 0).cells (n * 2)) 95)) := by
 have hinfo := infoIt
 cases hi : Tryz.prog.info? 95 with
 | none => rw [hi] at hinfo; cases hinfo
 | some i =>
  rw [hi] at hinfo
  simp only [Option.map_some, Option.some.injEq, Prod.mk.injEq] at hinfo
  obtain ⟨hz, hs, hb⟩ := hinfo
  have h := run_make (P := Tryz.prog) w 46 95 i _ Tryz.underlying46 hi hz .i64 .i64 (n : Int) (n : Int) (by omega) (Int.le_refl _) (by rw [hb]; omega) (by omega)
  rw [hs] at h
  simpa using h
theorem madeIt_row (w : World) (n : Nat) : (w.alloc (.cells (madeCells (itV false 0).cells (n * 2)) 95)).rowIs w.heap.size 95 (n * 2) (fun i => if i % 2 = 0 then .bool false else .int .i64 0) := by
 refine ⟨_, blk_alloc_new _ _, size_madeCells _ _, fun i hi => ?_⟩
 have h3 : i % 2 < 2 := Nat.mod_lt _ (by omega)
 have : ∀ j, j < 2 → (#[Value.bool false, .int .i64 0] : Array Value)[j]! = if j = 0 then .bool false else .int .i64 0 := by
  intro j hj
  match j, hj with
  | 0, _ => rfl
  | 1, _ => rfl
 simp only [madeCells, Value.cells]
 rw [Array.getElem?_map, Array.getElem?_range, if_pos hi]
 exact congrArg some (this (i % 2) h3)
def FilledT (f : Nat → Value) (h : Nat → I2) (k : Nat) : Prop := ∀ i, i < k →
 f (i * 2) = .bool (h i).m ∧ f (i * 2 + 1) = .int .i64 (h i).v
theorem FilledT.at {w : World} {b : Nat} {t : TypeId} {len k : Nat} {f : Nat → Value} {h : Nat → I2} (hh : FilledT f h k) (hr : w.rowIs b t (len * 2) f) (hk : k ≤ len) : ItAt w b 0 k h := by
 intro i hi
 obtain ⟨h0, h1⟩ := hh i hi
 refine ⟨?_, ?_⟩
 ·rw [hr.cell (by omega), Nat.zero_add, h0]
 ·rw [hr.cell (by omega), Nat.zero_add, h1]
theorem FilledT.step {w : World} {b : Nat} {t : TypeId} {len k : Nat} {f : Nat → Value} {h : Nat → I2} (hr : w.rowIs b t (len * 2) f) (hh : FilledT f h k) :
  ∃ f', ((w.setCell ⟨b, k * 2, none⟩ (.bool (h k).m)).setCell ⟨b, k * 2 + 1, none⟩ (.int .i64 (h k).v)).rowIs b t (len * 2) f' ∧ FilledT f' h (k + 1) := by
 refine ⟨_, (hr.set _ _).set _ _, fun i hi => ?_⟩
 by_cases hik : i = k
 ·subst hik
  simp
 ·have hlt : i < k := by omega
  obtain ⟨h0, h1⟩ := hh i hlt
  refine ⟨?_, ?_⟩
  ·rw [if_neg (by omega), if_neg (by omega)]; exact h0
  ·rw [if_neg (by omega), if_neg (by omega)]; exact h1
theorem toItem_any (m : Bool) (v : Int) (w : World) :
  Calls Tryz.prog 187 #[itV m v] w fun e w' => e = .returned (itV m v) ∧ Below w.heap.size w w' := by
 go_enter Tryz.func187, Tryz.ntmps187
 go_wp2
 refine bodyPost_ret (v := itV m v) (by simp [results, Tryz.results187, go_sem]) rfl ⟨rfl, ?_⟩
 go_grown
theorem eqItem_same (m : Bool) (v : Int) (w : World) :
  Calls Tryz.prog 191 #[itV m v, itV m v] w fun e w' => e = .returned (.bool true) ∧ Below w.heap.size w w' := by
 cases m
 all_goals
  go_enter Tryz.func191, Tryz.ntmps191
  go_wp2
  go_ret
  exact ⟨rfl, by go_grown⟩
theorem szItemS_small (a0 : Option Addr) (len cap : Nat) (L : Int) (w : World) (h : (len : Int) ≤ L) (hL : L ≤ 1048576) :
  Calls Tryz.prog 126 #[.slice a0 len cap, .int .i64 L] w fun e w' => e = .returned (.int .i64 (L - (len : Int))) ∧ w' = w := by
 have h1 : (len : Int) ≤ 1048576 := by omega
 have h2 : 0 ≤ L := by omega
 have h3 : ¬ (L - (len : Int) < 0) := by omega
 go_enter Tryz.func126, Tryz.ntmps126
 go_wp2
 go_ret
 exact ⟨rfl, rfl⟩
theorem szItemS_great (a0 : Option Addr) (len cap : Nat) (L : Int) (w : World) (h : L < (len : Int)) (h0 : 0 ≤ L) (hL : L ≤ 1048576) (hm : len ≤ maxLen) :
  Calls Tryz.prog 126 #[.slice a0 len cap, .int .i64 L] w fun e w' => e = .returned (.int .i64 (-1)) ∧ w' = w := by
 unfold maxLen at hm
 have h2 : (len : Int) ≤ 9223372036854775807 := by omega
 have h3 : L - (len : Int) < 0 := by omega
 go_enter Tryz.func126, Tryz.ntmps126
 go_wp2
 go_ret
 exact ⟨rfl, rfl⟩
theorem toItemS_free (b off len cap : Nat) (h : Nat → I2) (w : World) (hlen : len ≤ 1048576) (hb : b < w.heap.size) (hc : ItAt w b off len h) :
  Calls Tryz.prog 130 #[.slice (some ⟨b, off, none⟩) len cap] w fun e w' => e = .returned (.slice (some ⟨w.heap.size, 0, none⟩) len len) ∧ ItAt w' w.heap.size 0 len h ∧ w.heap.size < w'.heap.size ∧ Below w.heap.size w w' ∧ ∀ j, w'.frozen? ⟨w.heap.size, j, none⟩ = false := by
 have hl' : (len : Int) ≤ 1048576 := by omega
 have hmk := run_make_it len hlen
 have HC : Hid (ItAt w b off len h) := hc
 clear hc
 go_enter Tryz.func130, Tryz.ntmps130
 go_wp2_with fail
 clear hmk
 go_loopw [4] (fun i wr => ∃ k : Nat, k ≤ len ∧ i = .int .i64 k ∧ (∃ f, wr.rowIs w.heap.size 95 (len * 2) f ∧ Hid (FilledT f h k)) ∧ Below w.heap.size w wr) (fun i _ => len - (intOf i).toNat)
 case atStart => exact ⟨0, Nat.zero_le _, rfl, ⟨_, madeIt_row w len, fun i hi => by omega⟩, (Below.refl _ _).alloc (Nat.le_refl _) _⟩
 case round =>
  obtain ⟨k, hk, rfl, ⟨f, hrow, HF⟩, hbw⟩ := hrel
  have hs := hrow.lt
  by_cases hlt : k < len
  ·obtain ⟨c0, c1⟩ := HC.out.below hbw hb k hlt
   have HR : Hid (wr.rowIs w.heap.size 95 (len * 2) f) := hrow
   clear hrow
   go_wp2_with fail
   refine (toItem_any _ _ _).mono ?_
   rintro e w1 ⟨rfl, hb1⟩
   have hr1 : w1.rowIs w.heap.size 95 (len * 2) f := HR.out.of_block (hb1.block _ hs)
   have f0 := hr1.frozen (k * 2)
   have f1 := hr1.frozen (k * 2 + 1)
   have g0 := hr1.cell (i := k * 2) (by omega)
   have g1 := hr1.cell (i := k * 2 + 1) (by omega)
   have HR1 : Hid (w1.rowIs w.heap.size 95 (len * 2) f) := hr1
   clear hr1
   go_wp2_with fail
   exact ⟨⟨k + 1, by omega, by go_num, FilledT.step HR1.out HF.out, ((hbw.trans (hb1.mono (Nat.le_of_lt hs))).setCell (Nat.le_refl _) _).setCell (Nat.le_refl _) _⟩, by simp [intOf]; omega⟩
  ·have hkl : k = len := by omega
   have HI : Hid (ItAt wr w.heap.size 0 len h) := by
    have := HF.out.at hrow hk
    rw [hkl] at this
    exact this
   have HZ : Hid (∀ j, wr.frozen? ⟨w.heap.size, j, none⟩ = false) := fun j => hrow.frozen j
   clear hkl HF hrow
   go_wp2
   go_ret
   exact ⟨rfl, HI.out, hs, hbw, HZ.out⟩
theorem toItemS_freeEmpty (a0 : Option Addr) (cap : Nat) (h : Nat → I2) (w : World) :
  Calls Tryz.prog 130 #[.slice a0 0 cap] w fun e w' => e = .returned (.slice (some ⟨w.heap.size, 0, none⟩) 0 0) ∧ ItAt w' w.heap.size 0 0 h ∧ w.heap.size < w'.heap.size ∧ Below w.heap.size w w' ∧ ∀ j, w'.frozen? ⟨w.heap.size, j, none⟩ = false := by
 have hmk : ∀ w : World, (Instr.makeSlice 46 (.int .i64 0) (.int .i64 0)).run Tryz.prog w = .ok (.slice (some ⟨w.heap.size, 0, none⟩) 0 0) (w.alloc (.cells (madeCells (itV false 0).cells (0 * 2)) 95)) := fun w => run_make_it 0 (by omega) w
 go_enter Tryz.func130, Tryz.ntmps130
 go_wp2_with fail
 clear hmk
 go_rounds 1
 go_ret
 exact ⟨rfl, fun i hi => by omega, by simp, (Below.refl _ _).alloc (Nat.le_refl _) _, fun j => new_frozen _ _ _ j rfl⟩
def CopiesT (w : World) (a0 : Option Addr) (len cap : Nat) (h : Nat → I2) : Prop := ∀ wx, Below w.heap.size w wx →
 Calls Tryz.prog 130 #[.slice a0 len cap] wx fun e w' => e = .returned (.slice (some ⟨wx.heap.size, 0, none⟩) len len) ∧ ItAt w' wx.heap.size 0 len h ∧ wx.heap.size < w'.heap.size ∧ Below wx.heap.size wx w' ∧ ∀ j, w'.frozen? ⟨wx.heap.size, j, none⟩ = false
theorem copiesT_of {W : World} {a0 : Option Addr} {len cap : Nat} (hl : len ≤ 1048576) (hr : len = 0 ∨ ∃ b off h, a0 = some ⟨b, off, none⟩ ∧ b < W.heap.size ∧ ItAt W b off len h) : ∃ h, CopiesT W a0 len cap h := by
 rcases hr with rfl | ⟨b, off, h, rfl, hb, hI⟩
 ·exact ⟨fun _ => ⟨false, 0⟩, fun wx _ => toItemS_freeEmpty a0 cap _ wx⟩
 ·exact ⟨h, fun wx hB => toItemS_free b off len cap h wx hl (Nat.lt_of_lt_of_le hb hB.size) (hI.below hB hb)⟩
theorem eqItemS_same (b1 b2 len c1 c2 : Nat) (h : Nat → I2) (w : World) (hlen : len ≤ 1048576) (hb1 : b1 < w.heap.size) (hb2 : b2 < w.heap.size) (hc1 : ItAt w b1 0 len h) (hc2 : ItAt w b2 0 len h) :
  Calls Tryz.prog 134 #[.slice (some ⟨b1, 0, none⟩) len c1, .slice (some ⟨b2, 0, none⟩) len c2] w fun e w' => e = .returned (.bool true) ∧ Below w.heap.size w w' := by
 have hl' : (len : Int) ≤ 1048576 := by omega
 have HC1 : Hid (ItAt w b1 0 len h) := hc1
 have HC2 : Hid (ItAt w b2 0 len h) := hc2
 clear hc1 hc2
 go_enter Tryz.func134, Tryz.ntmps134
 go_wp2_with fail
 go_loopw [5] (fun i wr => ∃ k : Nat, k ≤ len ∧ i = .int .i64 k ∧ Below w.heap.size w wr) (fun i _ => len - (intOf i).toNat)
 case atStart => exact ⟨0, Nat.zero_le _, rfl, Below.refl _ _⟩
 case round =>
  obtain ⟨k, hk, rfl, hbw⟩ := hrel
  have hs := hbw.size
  by_cases hlt : k < len
  ·obtain ⟨c0, c1⟩ := HC1.out.below hbw hb1 k hlt
   obtain ⟨d0, d1⟩ := HC2.out.below hbw hb2 k hlt
   have hlt' : (k : Int) < (len : Int) := by omega
   rw [Nat.zero_add] at c0 c1 d0 d1
   go_wp2_with fail
   first | (go_region_with (go_at_call 191; refine (eqItem_same _ _ _).mono ?_; rintro e w1 ⟨rfl, hq1⟩)) | fail
   all_goals
    go_wp2
    go_roundw
    case rel => exact ⟨k + 1, by omega, by go_num, hbw.drew.trans (hq1.mono hs)⟩
    case measure => simp [intOf]; omega
  ·go_wp2
   go_ret
   exact ⟨rfl, hbw⟩
def RoomT (w : World) (b len : Nat) : Prop := (∀ i, i < len * 2 → ∃ u, w.cell? ⟨b, i, none⟩ = some u) ∧ ∀ j, w.frozen? ⟨b, j, none⟩ = false
theorem RoomT.set {w : World} {b len : Nat} (h : RoomT w b len) (p : Addr) (v : Value) : RoomT (w.setCell p v) b len :=
 ⟨fun i hi => (h.1 i hi).elim fun _ e => cell?_setCell_some e, fun j => by rw [World.frozen?_setCell]; exact h.2 j⟩
theorem RoomT.of_it {w : World} {b len : Nat} {h : Nat → I2} (hh : ItAt w b 0 len h) (hf : ∀ j, w.frozen? ⟨b, j, none⟩ = false) : RoomT w b len := by
 refine ⟨fun i hi => ?_, hf⟩
 obtain ⟨c0, c1⟩ := hh (i / 2) (by omega)
 simp only [Nat.zero_add] at c0 c1
 have he : i = i / 2 * 2 ∨ i = i / 2 * 2 + 1 := by omega
 rcases he with e | e
 ·rw [e]; exact ⟨_, c0⟩
 ·rw [e]; exact ⟨_, c1⟩
theorem markItemS_any (b len cap : Nat) (k : Int) (w : World) (hlen : len ≤ 1048576) (k0 : 0 ≤ k) (k1 : k ≤ 100000000) (h : RoomT w b len) :
  Calls Tryz.prog 138 #[.slice (some ⟨b, 0, none⟩) len cap, .int .i64 k] w fun e w' => e = .returned (.int .i64 (k + 2 * len)) ∧ w.grownBy w' (some b) := by
 have hl' : (len : Int) ≤ 1048576 := by omega
 have HO : Hid (RoomT w b len) := h
 clear h
 go_enter Tryz.func138, Tryz.ntmps138
 go_wp2_with fail
 go_loopw [1, 5] (fun q i wr => ∃ j : Nat, j ≤ len ∧ i = .int .i64 j ∧ q = .int .i64 (k + 2 * j) ∧ Hid (RoomT wr b len ∧ w.grownBy wr (some b))) (fun _ i _ => len - (intOf i).toNat)
 case atStart => exact ⟨0, Nat.zero_le _, rfl, by simp, HO.out, World.grownBy.refl _ _⟩
 case round =>
  clear HO
  obtain ⟨j, hj, rfl, rfl, HR⟩ := hrel
  by_cases hlt : j < len
  ·have hlt' : (j : Int) < (len : Int) := by omega
   obtain ⟨u0, c0⟩ := HR.out.1.1 (j * 2) (by omega)
   obtain ⟨u1, c1⟩ := HR.out.1.1 (j * 2 + 1) (by omega)
   have fz := HR.out.1.2
   go_wp2
   go_roundw
   case rel =>
    refine ⟨j + 1, by omega, by go_num, by go_num, ?_⟩
    refine ⟨?_, ?_⟩
    ·repeat (refine RoomT.set ?_ _ _)
     exact HR.out.1
    ·repeat (refine grown_setCell ?_ (.inl rfl) _)
     exact HR.out.2
   case measure => simp [intOf]; omega
  ·have hlt' : ¬ (j : Int) < (len : Int) := by omega
   have HF : Hid (w.grownBy wr (some b)) := HR.out.2
   have hjl : (j : Int) = len := by omega
   have HJ : Hid ((j : Int) = len) := hjl
   clear HR hjl
   go_wp2
   go_ret
   exact ⟨ret_int (by rw [HJ.out]), HF.out⟩
theorem cellsLawIt : Tryz.prog.cellsOf 228 = 2 := by kernel_rfl
theorem cellsBool : Tryz.prog.cellsOf 4 = 1 := by kernel_rfl
theorem open_itCells {H : Type} {enc : TypeId × Value → H} {w : World} {base fuel : Nat} {spare : Nat → Bool} {held : Bool} {c0 c1 : Value} {x : DataW H × List MemPlace}
  (hf : DataW.trod enc Tryz.prog w base spare held fuel 228 [c0, c1] = some x) :
  ∃ (m : Bool) (v : Int), c0 = .bool m ∧ c1 = .int .i64 v := by
 obtain ⟨xs, m, -, -, -, hl, hx⟩ := DataW.trod_struct Tryz.underlying228 hf
 have hl : xs.length = 2 := hl
 have q0 : DataW.trod enc Tryz.prog w base spare held m 4 [c0] = xs[0]? := by simpa [cellsBool] using hx 0 _ rfl
 have q1 : DataW.trod enc Tryz.prog w base spare held m 3 [c1] = xs[1]? := by simpa [cellsInt, cellsBool] using hx 1 _ rfl
 rw [List.getElem?_eq_getElem (by omega)] at q0 q1
 obtain ⟨z0, e0, -⟩ := DataW.trod_bool Tryz.underlying4 q0
 obtain ⟨z1, e1, -, -⟩ := DataW.trod_int Tryz.underlying3 q1
 simp only [List.cons.injEq, and_true] at e0 e1
 exact ⟨z0, z1, e0, e1⟩
theorem open_itRow {H : Type} {enc : TypeId × Value → H} {w : World} {spare : Nat → Bool} {held : Bool} {base : Nat} {a0 : Option Addr} {len cap : Nat} {d : DataW H} {p : List MemPlace}
  (h : DataW.Trod enc Tryz.prog w base spare held 167 (.slice a0 len cap) d p) :
  len ≤ maxLen ∧ (len = 0 ∨ ∃ b off h, a0 = some ⟨b, off, none⟩ ∧ b < w.heap.size ∧ ItAt w b off len h) := by
 obtain ⟨fuel, hf⟩ := h
 rcases Go.Deep.open_slice Tryz.underlying167 hf with ⟨hcs, _⟩ | ⟨a, len', cap', m, n, D, Pl, hcs, _, hl, hm, hmm, _, hx⟩
 ·simp [Value.cells] at hcs
  obtain ⟨_, rfl, _⟩ := hcs
  exact ⟨Nat.zero_le _, .inl rfl⟩
 ·simp [Value.cells] at hcs
  obtain ⟨rfl, rfl, rfl⟩ := hcs
  refine ⟨Nat.le_trans hl hm, ?_⟩
  by_cases h0 : len = 0
  ·exact .inl h0
  right
  have hle : len ≤ m := by rw [hmm]; split <;> omega
  rw [cellsLawIt] at hx
  obtain ⟨b, off, spot⟩ := a
  have hcell : ∀ i, i < len → ∃ x : I2, w.cell? (Addr.add (Addr.add ⟨b, off, spot⟩ (i * 2)) 0) = some (.bool x.m) ∧ w.cell? (Addr.add (Addr.add ⟨b, off, spot⟩ (i * 2)) 1) = some (.int .i64 x.v) := by
   intro i hi
   obtain ⟨cs', h1, h2⟩ := hx i (by omega)
   obtain ⟨_, hlen, hc⟩ := World.cells?_some h1
   match cs', hlen with
   | [c0, c1], _ =>
    obtain ⟨k, v, rfl, rfl⟩ := open_itCells h2
    exact ⟨⟨k, v⟩, hc 0 (by omega), hc 1 (by omega)⟩
  have hspot : spot = none := by
   obtain ⟨x, hx0, _⟩ := hcell 0 (by omega)
   simpa [Addr.add] using World.cell?_spot hx0
  subst hspot
  have inh : Inhabited I2 := ⟨⟨false, 0⟩⟩
  obtain ⟨g, hg⟩ := Go.Deep.choose_lt (α := I2) hcell
  have hI : ItAt w b off len g := by
   intro i hi
   obtain ⟨q0, q1⟩ := hg i hi
   rw [addr_addO, addr_addO] at q0 q1
   exact ⟨q0, q1⟩
  exact ⟨b, off, g, rfl, cell_lt (hI 0 (by omega)).1, hI⟩
def hitB (eh : Nat → E3) (kd pr : Int) (i : Nat) : Bool := ((eh i).k == kd) && ((eh i).q == pr)
def plN (eh : Nat → E3) (kd pr : Int) : Nat → List Nat
 | 0 => []
 | n + 1 => if hitB eh kd pr n = true then plN eh kd pr n ++ [n] else plN eh kd pr n
def valL (eh : Nat → E3) (kd pr : Int) (n : Nat) : List Int := (plN eh kd pr n).map fun i => (eh i).v
def plI (eh : Nat → E3) (kd pr : Int) (n : Nat) : List Int := (plN eh kd pr n).map fun i : Nat => (i : Int)
theorem plN_le (eh : Nat → E3) (kd pr : Int) : ∀ n, (plN eh kd pr n).length ≤ n
 | 0 => Nat.le_refl _
 | n + 1 => by
  unfold plN
  have := plN_le eh kd pr n
  split
  ·simp; omega
  ·omega
theorem valL_le (eh : Nat → E3) (kd pr : Int) (n : Nat) : (valL eh kd pr n).length ≤ n := by
 unfold valL
 rw [List.length_map]
 exact plN_le eh kd pr n
theorem plI_le (eh : Nat → E3) (kd pr : Int) (n : Nat) : (plI eh kd pr n).length ≤ n := by
 unfold plI
 rw [List.length_map]
 exact plN_le eh kd pr n
theorem valL_hit {eh : Nat → E3} {kd pr : Int} {n : Nat} (hh : hitB eh kd pr n = true) : valL eh kd pr (n + 1) = valL eh kd pr n ++ [(eh n).v] := by
 unfold valL
 rw [plN, if_pos hh, List.map_append]
 rfl
theorem valL_not {eh : Nat → E3} {kd pr : Int} {n : Nat} (hh : hitB eh kd pr n = false) : valL eh kd pr (n + 1) = valL eh kd pr n := by
 unfold valL
 rw [plN, if_neg (by rw [hh]; decide)]
theorem plI_hit {eh : Nat → E3} {kd pr : Int} {n : Nat} (hh : hitB eh kd pr n = true) : plI eh kd pr (n + 1) = plI eh kd pr n ++ [(n : Int)] := by
 unfold plI
 rw [plN, if_pos hh, List.map_append]
 rfl
theorem plI_not {eh : Nat → E3} {kd pr : Int} {n : Nat} (hh : hitB eh kd pr n = false) : plI eh kd pr (n + 1) = plI eh kd pr n := by
 unfold plI
 rw [plN, if_neg (by rw [hh]; decide)]
def ItL (w : World) (a : Option Addr) (len : Nat) (h : Nat → I2) : Prop := len = 0 ∨ ∃ b off, a = some ⟨b, off, none⟩ ∧ b < w.heap.size ∧ ItAt w b off len h
theorem ItL.below {w w' : World} {a : Option Addr} {len : Nat} {h : Nat → I2} (hh : ItL w a len h) (hb : Below w.heap.size w w') : ItL w' a len h := by
 rcases hh with e | ⟨b, off, e, hlt, hc⟩
 ·exact .inl e
 ·exact .inr ⟨b, off, e, Nat.lt_of_lt_of_le hlt hb.size, hc.below hb hlt⟩
theorem ItL.at {w : World} {a : Option Addr} {len : Nat} {h : Nat → I2} (hh : ItL w a len h) {k : Nat} (hk : k < len) : ∃ b off, a = some ⟨b, off, none⟩ ∧ b < w.heap.size ∧ w.cell? ⟨b, off + k * 2, none⟩ = some (.bool (h k).m) ∧ w.cell? ⟨b, off + k * 2 + 1, none⟩ = some (.int .i64 (h k).v) := by
 rcases hh with rfl | ⟨b, off, e, hlt, hc⟩
 ·omega
 ·exact ⟨b, off, e, hlt, hc k hk⟩
def SlB (w : World) (a0 : Option Addr) (xs : List Int) : Prop :=
 xs = [] ∨ ∃ b off, a0 = some ⟨b, off, none⟩ ∧ b < w.heap.size ∧ ∀ i, i < xs.length → w.cell? ⟨b, off + i, none⟩ = some (.int .u8 (zi xs i))
theorem SlB.below {w w' : World} {a0 : Option Addr} {xs : List Int} (h : SlB w a0 xs) (hb : Below w.heap.size w w') : SlB w' a0 xs := by
 rcases h with h | ⟨b, off, e, hlt, hc⟩
 ·exact .inl h
 ·exact .inr ⟨b, off, e, Nat.lt_of_lt_of_le hlt hb.size, fun i hi => (hb.cell (p := ⟨b, off + i, none⟩) hlt).trans (hc i hi)⟩
theorem SlB.at {w : World} {a0 : Option Addr} {xs : List Int} (h : SlB w a0 xs) {k : Nat} (hk : k < xs.length) : ∃ b off, a0 = some ⟨b, off, none⟩ ∧ b < w.heap.size ∧ w.cell? ⟨b, off + k, none⟩ = some (.int .u8 (zi xs k)) := by
 rcases h with rfl | ⟨b, off, e, hlt, hc⟩
 ·simp at hk
 ·exact ⟨b, off, e, hlt, hc k hk⟩
def OwnB (w : World) (B : Nat) (v : Value) (xs : List Int) : Prop := w.ownsRow B 5 1 v xs.length (xs.map (Value.int .u8))
theorem OwnB.mono {w : World} {B B' : Nat} {v : Value} {xs : List Int} (h : OwnB w B v xs) (hb : B' ≤ B) : OwnB w B' v xs := World.ownsRow.mono h hb
theorem OwnB.kept {w w' : World} {B : Nat} {v : Value} {xs : List Int} {row : Option Nat} (h : OwnB w B v xs) (hg : w.grownBy w' row) (hne : v.ownBlock = none ∨ v.ownBlock ≠ row) : OwnB w' B v xs := World.ownsRow.kept h hg hne
theorem OwnB.lt {w : World} {B : Nat} {v : Value} {xs : List Int} (h : OwnB w B v xs) : ∀ k, v.ownBlock = some k → B ≤ k ∧ k < w.heap.size := World.ownsRow.lt h
theorem OwnB.below {w w' : World} {B : Nat} {v : Value} {xs : List Int} (h : OwnB w B v xs) (hb : Below w.heap.size w w') : OwnB w' B v xs := by
 refine h.kept (grown_of_below hb) ?_
 cases hv : v.ownBlock with
 | none => exact .inl rfl
 | some k => exact .inr (by simp)
theorem getD_map_byte (xs : List Int) (j : Nat) (hj : j < xs.length) : (xs.map (Value.int .u8))[j]? = some (.int .u8 (zi xs j)) := by
 unfold zi
 rw [List.getElem?_map, List.getElem?_eq_getElem hj, List.getD_eq_getElem?_getD, List.getElem?_eq_getElem hj]; rfl
theorem OwnB.form {w : World} {B : Nat} {v : Value} {xs : List Int} (h : OwnB w B v xs) : ∃ a0 cap, v = .slice a0 xs.length cap ∧ SlB w a0 xs := by
 rcases h.2 with ⟨rfl, h0⟩ | ⟨g, cap, cur, rfl, hb, _⟩
 ·exact ⟨none, 0, by rw [h0], .inl (List.eq_nil_of_length_eq_zero h0)⟩
 ·refine ⟨_, cap, rfl, .inr ⟨g, 0, rfl, (h.lt g rfl).2, fun i hi => ?_⟩⟩
  rw [Nat.zero_add, World.ownsRow.cellAt h i (by omega)]
  exact getD_map_byte xs i hi
theorem OwnB.block {w : World} {B : Nat} {v : Value} {xs : List Int} (h : OwnB w B v xs) (hn : 0 < xs.length) : ∃ g cap, v = .slice (some ⟨g, 0, none⟩) xs.length cap ∧ B ≤ g ∧ g < w.heap.size := by
 rcases h.2 with ⟨_, h0⟩ | ⟨g, cap, cur, rfl, hb, _⟩
 ·omega
 ·exact ⟨g, cap, rfl, hb, (h.lt g rfl).2⟩
theorem OwnB.cell {w : World} {B g cap : Nat} {xs : List Int} (h : OwnB w B (.slice (some ⟨g, 0, none⟩) xs.length cap) xs) {j : Nat} (hj : j < xs.length) : w.cell? ⟨g, j, none⟩ = some (.int .u8 (zi xs j)) := by
 rw [World.ownsRow.cellAt h j (by omega)]
 exact getD_map_byte xs j hj
theorem OwnB.frozen {w : World} {B g cap : Nat} {xs : List Int} (h : OwnB w B (.slice (some ⟨g, 0, none⟩) xs.length cap) xs) (j : Nat) : w.frozen? ⟨g, j, none⟩ = false := World.ownsRow.frozenAt h j
theorem OwnB.set {w : World} {B g cap n : Nat} {xs : List Int} (h : OwnB w B (.slice (some ⟨g, 0, none⟩) n cap) xs) (hn : n = xs.length) (j : Nat) (x : Int) : OwnB (w.setCell ⟨g, j, none⟩ (.int .u8 x)) B (.slice (some ⟨g, 0, none⟩) n cap) (xs.set j x) ∧ w.grownBy (w.setCell ⟨g, j, none⟩ (.int .u8 x)) (some g) := by
 subst hn
 have := World.ownsRow.stored h j (.int .u8 x)
 unfold OwnB
 rw [List.length_set, List.map_set]
 exact this
theorem infoByte : (Tryz.prog.info? 5).map (fun i => (i.zero, i.size, i.bytes)) = some (some (.int .u8 0), 1, 1) := by kernel_rfl
theorem src_of_slB {w w' : World} {b off : Nat} {xs : List Int} (h : SlB w (some ⟨b, off, none⟩) xs) (hb : Below w.heap.size w w') : ∀ j v, (xs.map (Value.int .u8))[j]? = some v → w'.cell? (Addr.add ⟨b, off, none⟩ j) = some v := by
 intro j v hj
 have hl : j < xs.length := by
  apply Classical.byContradiction
  intro hn
  rw [List.getElem?_eq_none (by simp; omega)] at hj
  cases hj
 rw [getD_map_byte xs j hl] at hj
 rw [addr_add, ← hj]
 obtain ⟨b', off', e, hlt, hc⟩ := (h.below hb).at hl
 simp only [Option.some.injEq, Addr.mk.injEq, and_true] at e
 obtain ⟨rfl, rfl⟩ := e
 exact hc
theorem one_bytes (xs : List Int) : ∀ v ∈ xs.map (Value.int .u8), v.oneCell' = true := by
 intro v hv
 obtain ⟨x, _, rfl⟩ := List.mem_map.1 hv
 rfl
theorem info_byte : ∃ i, Tryz.prog.info? 5 = some i ∧ i.zero = some (.int .u8 0) ∧ i.size = 1 ∧ i.bytes = 1 := by
 have hinfo := infoByte
 cases hi : Tryz.prog.info? 5 with
 | none => rw [hi] at hinfo; cases hinfo
 | some i =>
  rw [hi] at hinfo
  simp only [Option.map_some, Option.some.injEq, Prod.mk.injEq] at hinfo
  exact ⟨i, rfl, hinfo⟩
theorem runB_append_none (w : World) (ty : TypeId) (B c : Nat) (v : Value) (xs : List Int) (h : OwnB w B v xs) :
  (Builtin.append_ #[22, 22] ty #[v, .slice none 0 c]).run Tryz.prog w = .ok v w := by
 obtain ⟨i, hi, _⟩ := info_byte
 rcases h.2 with ⟨rfl, _⟩ | ⟨g, cap, cur, rfl, _, _, hnc, _⟩
 ·simp [Builtin.append_, run_underlying Tryz.underlying22, sizeOf, typeInfo, hi, Builtin.lenOf, Builtin.firstCells]
 ·simp [Builtin.append_, run_underlying Tryz.underlying22, sizeOf, typeInfo, hi, Builtin.lenOf, Builtin.firstCells, hnc, storeCells]
theorem run_append_bytes (w : World) (ty : TypeId) (B c : Nat) (v : Value) (a0 : Option Addr) (xs ys : List Int) (h : OwnB w B v xs) (hy : SlB w a0 ys) (hn : xs.length + ys.length ≤ 4000000) (hB : B ≤ w.heap.size) :
  ∃ v' w', (Builtin.append_ #[22, 22] ty #[v, .slice a0 ys.length c]).run Tryz.prog w = .ok v' w' ∧ OwnB w' B v' (xs ++ ys) ∧ w.grownBy w' v.ownBlock ∧ (v'.ownBlock = v.ownBlock ∨ v'.ownBlock = some w.heap.size) := by
 obtain ⟨i, hi, hz, hs, hb⟩ := info_byte
 cases a0 with
 | none =>
  have hy0 : ys = [] := by
   rcases hy with h0 | ⟨b, off, e, _⟩
   ·exact h0
   ·cases e
  subst hy0
  exact ⟨v, w, runB_append_none w ty B c v xs h, by simpa using h, World.grownBy.refl _ _, .inl rfl⟩
 | some a =>
  have hnews : ∀ j u, (ys.map (Value.int .u8))[j]? = some u → w.cell? (a.add j) = some u := by
   rcases hy with h0 | ⟨b, off, e, hlt, hc⟩
   ·subst h0; intro j u hj; simp at hj
   ·cases e
    exact src_of_slB (.inr ⟨b, off, rfl, hlt, hc⟩) (Below.refl _ _)
  obtain ⟨v', w', h1, h2, h3, _, h5⟩ := run_append_own_at (P := Tryz.prog) w B 22 ty 5 i (.int .u8 0) 1 1 Tryz.underlying22 hi hz hs hb rfl (by decide) v xs.length (xs.map (Value.int .u8)) h a ys.length c (ys.map (Value.int .u8)) (by simp) hnews (one_bytes ys) (by unfold maxLen; omega) (by omega) hB
  refine ⟨v', w', h1, ?_, h3, h5⟩
  unfold OwnB
  rw [List.length_append, List.map_append]
  exact h2
theorem wpList_append_bytes {ops : Array Oper} {rest : List Oper} {op : Oper} {act : Act} {Q : Exit → Act → World → Prop} (w : World) (hgd : op.guard = none) (s x : Operand)
  (ho : op.op = .call { callee := .builtin .append, args := #[s, x], argTypes := #[22, 22] })
  (B c : Nat) (v : Value) (a0 : Option Addr) (xs ys : List Int) (hs : act.eval s = v) (hx : act.eval x = .slice a0 ys.length c) (hv : OwnB w B v xs) (hy : SlB w a0 ys) (hn : xs.length + ys.length ≤ 4000000) (hB : B ≤ w.heap.size)
  (h : ∀ v' w', OwnB w' B v' (xs ++ ys) → w.grownBy w' v.ownBlock → (v'.ownBlock = v.ownBlock ∨ v'.ownBlock = some w.heap.size) → wpList Tryz.prog ops Q rest (act.put op.dst v') w') :
  wpList Tryz.prog ops Q (op :: rest) act w := by
 obtain ⟨v', w', h1, h2, h3, h4⟩ := run_append_bytes w op.type B c v a0 xs ys hv hy hn hB
 refine wpList_plain hgd fun K hK => ?_
 unfold Oper.wp execOp
 simp only [ho, resolve, invoke, builtin, Sem.run_bind, Sem.run_pure, Result.andThen_ok, List.map_toArray, List.map_cons, List.map_nil, hs, hx, h1]
 exact hK _ _ (h v' w' h2 h3 h4)
theorem ownB_empty (w : World) : OwnB (w.alloc (.cells #[] 5)) w.heap.size (.slice (some ⟨w.heap.size, 0, none⟩) 0 0) [] :=
 World.ownsRow_made (base := w.heap.size) (e := 5) (size := 1) w #[] 0 (Nat.le_refl _) (by unfold maxLen; omega) rfl
theorem ownB_emptyN (w : World) {N : Nat} (h : N = w.heap.size) : OwnB (w.alloc (.cells #[] 5)) N (.slice (some ⟨N, 0, none⟩) 0 0) [] := by
 subst h
 exact ownB_empty w
theorem eqByteS_same (a0 a1 : Option Addr) (c0 c1 : Nat) (xs : List Int) (w : World) (hlen : xs.length ≤ 1048576) (h0 : SlB w a0 xs) (h1 : SlB w a1 xs) :
  Calls Tryz.prog 32 #[.slice a0 xs.length c0, .slice a1 xs.length c1] w fun e w' => e = .returned (.bool true) ∧ Below w.heap.size w w' := by
 have hl' : (xs.length : Int) ≤ 1048576 := by omega
 have H0 : Hid (SlB w a0 xs) := h0
 have H1 : Hid (SlB w a1 xs) := h1
 clear h0 h1
 go_enter Tryz.func32, Tryz.ntmps32
 go_wp2_with fail
 go_loopw [5] (fun i wr => ∃ k : Nat, k ≤ xs.length ∧ i = .int .i64 k ∧ Below w.heap.size w wr) (fun i _ => xs.length - (intOf i).toNat)
 case atStart => exact ⟨0, Nat.zero_le _, rfl, Below.refl _ _⟩
 case round =>
  obtain ⟨k, hk, rfl, hbw⟩ := hrel
  by_cases hlt : k < xs.length
  ·obtain ⟨b, off, rfl, hbl, ck⟩ := (H0.out.below hbw).at hlt
   obtain ⟨b', off', rfl, hbl', ck'⟩ := (H1.out.below hbw).at hlt
   have hlt' : (k : Int) < (xs.length : Int) := by omega
   go_wp2_with fail
   go_quiet (fail)
   go_wp2
   go_roundw
   case rel => exact ⟨k + 1, by omega, by go_num, below_drewN hbw _⟩
   case measure => simp [intOf]; omega
  ·go_wp2
   go_ret
   exact ⟨rfl, hbw⟩
theorem own_someB {w : World} {B n cap : Nat} {a0 : Option Addr} {ys : List Int} (h : OwnB w B (.slice a0 n cap) ys) (hn : 0 < ys.length) : ∃ g, a0 = some ⟨g, 0, none⟩ ∧ n = ys.length ∧ B ≤ g ∧ g < w.heap.size := by
 obtain ⟨g, c, hv, hb, hl⟩ := h.block hn
 simp only [Value.slice.injEq] at hv
 exact ⟨g, hv.1, hv.2.1, hb, hl⟩
def marksB (k : Int) (n : Nat) : List Int := (List.range n).map (fun i : Nat => IntKind.u8.wrap (k + (i : Int)))
theorem marksB_length (k : Int) (n : Nat) : (marksB k n).length = n := by simp [marksB]
theorem marksB_at (k : Int) (n j : Nat) (h : j < n) : zi (marksB k n) j = IntKind.u8.wrap (k + j) := by
 unfold zi marksB
 rw [List.getD_eq_getElem?_getD, List.getElem?_map, List.getElem?_range h]; rfl
theorem markByteS_any (a0 : Option Addr) (cap B : Nat) (xs : List Int) (k : Int) (w : World) (hlen : xs.length ≤ 1048576) (k0 : 0 ≤ k) (k1 : k ≤ 100000000) (h : OwnB w B (.slice a0 xs.length cap) xs) :
  Calls Tryz.prog 33 #[.slice a0 xs.length cap, .int .i64 k] w fun e w' => e = .returned (.int .i64 (k + xs.length)) ∧ OwnB w' B (.slice a0 xs.length cap) (marksB k xs.length) ∧ w.grownBy w' (Value.slice a0 xs.length cap).ownBlock := by
 have hl' : (xs.length : Int) ≤ 1048576 := by omega
 have HO : Hid (OwnB w B (.slice a0 xs.length cap) xs) := h
 clear h
 go_enter Tryz.func33, Tryz.ntmps33
 go_wp2_with fail
 go_loopw [1, 5] (fun q i wr => ∃ j : Nat, j ≤ xs.length ∧ i = .int .i64 j ∧ q = .int .i64 (k + j) ∧ Hid ((∃ ys, ys.length = xs.length ∧ OwnB wr B (.slice a0 xs.length cap) ys ∧ ∀ t, t < j → zi ys t = IntKind.u8.wrap (k + t)) ∧ w.grownBy wr (Value.slice a0 xs.length cap).ownBlock)) (fun _ i _ => xs.length - (intOf i).toNat)
 case atStart => exact ⟨0, Nat.zero_le _, rfl, by simp, ⟨xs, rfl, HO.out, fun t ht => by omega⟩, World.grownBy.refl _ _⟩
 case round =>
  clear HO
  obtain ⟨j, hj, rfl, rfl, HR⟩ := hrel
  by_cases hlt : j < xs.length
  ·have hlt' : (j : Int) < (xs.length : Int) := by omega
   have hg : ∃ g, a0 = some ⟨g, 0, none⟩ ∧ g < wr.heap.size := by
    obtain ⟨⟨ys, he, ho, _⟩, _⟩ := HR.out
    obtain ⟨g, hg, _, _, hl⟩ := own_someB ho (by omega)
    exact ⟨g, hg, hl⟩
   obtain ⟨g, rfl, hgl⟩ := hg
   have fz : wr.frozen? ⟨g, j, none⟩ = false := by obtain ⟨⟨ys, he, ho, _⟩, _⟩ := HR.out; rw [← he] at ho; exact ho.frozen j
   have cz : ∃ z : Int, wr.cell? ⟨g, j, none⟩ = some (.int .u8 z) := by obtain ⟨⟨ys, he, ho, _⟩, _⟩ := HR.out; rw [← he] at ho hlt; exact ⟨_, ho.cell hlt⟩
   obtain ⟨z, cz⟩ := cz
   go_wp2
   go_roundw
   case rel =>
    refine ⟨j + 1, by omega, by go_num, by go_num, ?_⟩
    obtain ⟨⟨ys, he, ho, hy⟩, hgr⟩ := HR.out
    obtain ⟨ho', hg'⟩ := ho.set he.symm j (IntKind.u8.wrap (k + j))
    refine ⟨⟨ys.set j (IntKind.u8.wrap (k + j)), by simpa using he, ho', fun t ht => ?_⟩, hgr.trans hg'⟩
    by_cases htj : t = j
    ·subst htj; exact getD_set_self ys t _ (by omega)
    ·rw [getD_set_ne ys t j _ htj]; exact hy t (by omega)
   case measure => simp [intOf]; omega
  ·have hlt' : ¬ (j : Int) < (xs.length : Int) := by omega
   have HF : Hid (OwnB wr B (.slice a0 xs.length cap) (marksB k xs.length) ∧ w.grownBy wr (Value.slice a0 xs.length cap).ownBlock) := by
    obtain ⟨⟨ys, he, ho, hy⟩, hgr⟩ := HR.out
    have : ys = marksB k xs.length := ext_getD (by rw [he, marksB_length]) fun i hi => by rw [hy i (by omega), marksB_at _ _ _ (by omega)]
    rw [this] at ho
    exact ⟨ho, hgr⟩
   have hjl : (j : Int) = xs.length := by omega
   have HJ : Hid ((j : Int) = xs.length) := hjl
   clear HR hjl
   go_wp2
   go_ret
   exact ⟨ret_int (by rw [HJ.out]), HF.out⟩
theorem heldByteS_marks (a0 : Option Addr) (cap n : Nat) (k : Int) (w : World) (hlen : n ≤ 1048576) (k0 : 0 ≤ k) (k1 : k ≤ 100000000) (h : SlB w a0 (marksB k n)) :
  Calls Tryz.prog 34 #[.slice a0 n cap, .int .i64 k] w fun e w' => e = .returned (.int .i64 (k + n)) ∧ w' = w := by
 have hl' : (n : Int) ≤ 1048576 := by omega
 have HS : Hid (SlB w a0 (marksB k n)) := h
 clear h
 go_enter Tryz.func34, Tryz.ntmps34
 go_wp2_with fail
 go_loop [1, 5] (fun q i => ∃ j : Nat, j ≤ n ∧ i = .int .i64 j ∧ q = .int .i64 (k + j)) (fun _ i => n - (intOf i).toNat)
 case atStart => exact ⟨0, Nat.zero_le _, rfl, by simp⟩
 case round =>
  obtain ⟨j, hj, rfl, rfl⟩ := hrel
  by_cases hlt : j < n
  ·have hlt' : (j : Int) < (n : Int) := by omega
   obtain ⟨b, off, rfl, hbl, ck⟩ := HS.out.at (k := j) (by rw [marksB_length]; exact hlt)
   rw [marksB_at _ _ _ hlt] at ck
   go_wp2
   go_round
   case rel => exact ⟨j + 1, by omega, by go_num, by go_num⟩
   case measure => simp [intOf]; omega
  ·have hlt' : ¬ (j : Int) < (n : Int) := by omega
   have HJ : Hid ((j : Int) = n) := by show (j : Int) = n; omega
   go_wp2
   go_ret
   exact ⟨ret_int (by rw [HJ.out]), rfl⟩
theorem append_byte {ops : Array Oper} {rest : List Oper} {op : Oper} {act : Act} {Q : Exit → Act → World → Prop} (w : World) (hgd : op.guard = none) (s x : Operand)
  (ho : op.op = .call { callee := .builtin .append, args := #[s, x], argTypes := #[22, 22] })
  (B : Nat) (v : Value) (xs : List Int) (hs : act.eval s = v) (hv : OwnB w B v xs) (y : Int) (hx : act.eval x = .slice (some ⟨w.heap.size, 0, none⟩) 1 1) (hn : xs.length ≤ 1048576) (hB : B ≤ w.heap.size)
  (h : ∀ v' w', OwnB w' B v' (xs ++ [y]) → Below B w w' → wpList Tryz.prog ops Q rest (act.put op.dst v') w') :
  wpList Tryz.prog ops Q (op :: rest) act (w.alloc (.cells #[.int .u8 y] 5)) := by
 have hb : Below w.heap.size w (w.alloc (.cells #[.int .u8 y] 5)) := (Below.refl _ _).alloc (Nat.le_refl _) _
 refine wpList_append_bytes _ hgd s x ho B 1 v (some ⟨w.heap.size, 0, none⟩) xs [y] hs hx (hv.below hb) (.inr ⟨w.heap.size, 0, rfl, by simp, fun i hi => ?_⟩) (by simp; omega) (by simp; omega) ?_
 ·have : i = 0 := by simp at hi; omega
  subst this
  exact new_cell _ _ _ 0 rfl
 ·intro v' w' o g _
  refine h v' w' o (Below.grown (hb.mono hB) g (by simp; omega) (fun k hk => (hv.lt k hk).1))
theorem OwnB.to {w : World} {B : Nat} {v : Value} {xs ys : List Int} (h : OwnB w B v xs) (e : ys = xs) : OwnB w B v ys := e ▸ h
end Go.Proofs.YtnfdnnmddadmkaaGreatDoor
