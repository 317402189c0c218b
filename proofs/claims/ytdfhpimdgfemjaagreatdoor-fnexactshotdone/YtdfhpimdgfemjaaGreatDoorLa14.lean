/- The events of one kind with one peer: the walks of the model's Values, Count and Nth, and of the program's. -/
import Derived.Test.YtdfhpimdgfemjaaGreatDoorLa11
import Derived.Test.YtdfhpimdgfemjaaGreatDoorLa13
import Derived.Test.YtdfhpimdgfemjaaGreatDoorLa8
namespace Go.Proofs.YtdfhpimdgfemjaaGreatDoor
open Go.RowKit Go.Deep

set_option maxRecDepth 100000 in
set_option maxHeartbeats 1000000 in
theorem toInsS_free (b off len cap : Nat) (g : Nat → I5) (w : World) (hlen : len ≤ 1048576) (hb : b < w.heap.size) (hc : InsAt w b off len g) :
    Calls Tryz.prog 95 #[.slice (some ⟨b, off, none⟩) len cap] w fun e w' => e = .returned (.slice (some ⟨w.heap.size, 0, none⟩) len len) ∧ InsAt w' w.heap.size 0 len g ∧ w.heap.size < w'.heap.size ∧ Below w.heap.size w w' ∧ ∀ j, w'.frozen? ⟨w.heap.size, j, none⟩ = false := by
  have hl' : (len : Int) ≤ 1048576 := by omega
  have hmk := run_make_ins len hlen
  have HC : Hid (InsAt w b off len g) := hc
  clear hc
  go_enter Tryz.func95, Tryz.ntmps95
  go_wp2_with fail
  clear hmk
  go_loopw [4] (fun i wr => ∃ k : Nat, k ≤ len ∧ i = .int .i64 k ∧ (∃ f, wr.rowIs w.heap.size 153 (len * 5) f ∧ Hid (Filled f g k)) ∧ Below w.heap.size w wr) (fun i _ => len - (intOf i).toNat)
  case atStart => exact ⟨0, Nat.zero_le _, rfl, ⟨_, madeIns_row w len, fun i hi => by omega⟩, (Below.refl _ _).alloc (Nat.le_refl _) _⟩
  case round =>
    obtain ⟨k, hk, rfl, ⟨f, hrow, HF⟩, hbw⟩ := hrel
    have hs := hrow.lt
    by_cases hlt : k < len
    · obtain ⟨c0, c1, c2, c3, c4⟩ := HC.out.below hbw hb k hlt
      have HR : Hid (wr.rowIs w.heap.size 153 (len * 5) f) := hrow
      clear hrow
      go_wp2_with fail
      refine (toIns_any _ _ _ _ _ _).mono ?_
      rintro e w1 ⟨rfl, hb1⟩
      have hr1 : w1.rowIs w.heap.size 153 (len * 5) f := HR.out.of_block (hb1.block _ hs)
      have f0 := hr1.frozen (k * 5)
      have f1 := hr1.frozen (k * 5 + 1)
      have f2 := hr1.frozen (k * 5 + 2)
      have f3 := hr1.frozen (k * 5 + 3)
      have f4 := hr1.frozen (k * 5 + 4)
      have g0 := hr1.cell (i := k * 5) (by omega)
      have g1 := hr1.cell (i := k * 5 + 1) (by omega)
      have g2 := hr1.cell (i := k * 5 + 2) (by omega)
      have g3 := hr1.cell (i := k * 5 + 3) (by omega)
      have g4 := hr1.cell (i := k * 5 + 4) (by omega)
      have HR1 : Hid (w1.rowIs w.heap.size 153 (len * 5) f) := hr1
      clear hr1
      go_wp2_with fail
      exact ⟨⟨k + 1, by omega, by go_num, Filled.step HR1.out HF.out, (((((hbw.trans (hb1.mono (Nat.le_of_lt hs))).setCell (Nat.le_refl _) _).setCell (Nat.le_refl _) _).setCell (Nat.le_refl _) _).setCell (Nat.le_refl _) _).setCell (Nat.le_refl _) _⟩, by simp [intOf]; omega⟩
    · have hkl : k = len := by omega
      have HI : Hid (InsAt wr w.heap.size 0 len g) := by
        have := HF.out.at hrow hk
        rw [hkl] at this
        exact this
      have HZ : Hid (∀ j, wr.frozen? ⟨w.heap.size, j, none⟩ = false) := fun j => hrow.frozen j
      clear hkl HF hrow
      go_wp2
      go_ret
      exact ⟨rfl, HI.out, hs, hbw, HZ.out⟩

set_option maxRecDepth 100000 in

set_option maxRecDepth 100000 in
set_option maxHeartbeats 1000000 in
theorem toInsS_freeEmpty (a0 : Option Addr) (cap : Nat) (g : Nat → I5) (w : World) :
    Calls Tryz.prog 95 #[.slice a0 0 cap] w fun e w' => e = .returned (.slice (some ⟨w.heap.size, 0, none⟩) 0 0) ∧ InsAt w' w.heap.size 0 0 g ∧ w.heap.size < w'.heap.size ∧ Below w.heap.size w w' ∧ ∀ j, w'.frozen? ⟨w.heap.size, j, none⟩ = false := by
  have hmk : ∀ w : World, (Instr.makeSlice 127 (.int .i64 0) (.int .i64 0)).run Tryz.prog w = .ok (.slice (some ⟨w.heap.size, 0, none⟩) 0 0) (w.alloc (.cells (madeCells (insV 0 0 0 0 0).cells (0 * 5)) 153)) := fun w => run_make_ins 0 (by omega) w
  go_enter Tryz.func95, Tryz.ntmps95
  go_wp2_with fail
  clear hmk
  go_rounds 1
  go_ret
  exact ⟨rfl, fun i hi => by omega, by simp, (Below.refl _ _).alloc (Nat.le_refl _) _, fun j => new_frozen _ _ _ j rfl⟩

/-- Wherever nothing old has turned, a copy of the program can be made, and written into. -/
def CopiesF (w : World) (a0 : Option Addr) (len cap : Nat) (g : Nat → I5) : Prop := ∀ wx, Below w.heap.size w wx →
  Calls Tryz.prog 95 #[.slice a0 len cap] wx fun e w' => e = .returned (.slice (some ⟨wx.heap.size, 0, none⟩) len len) ∧ InsAt w' wx.heap.size 0 len g ∧ wx.heap.size < w'.heap.size ∧ Below wx.heap.size wx w' ∧ ∀ j, w'.frozen? ⟨wx.heap.size, j, none⟩ = false

theorem copiesF_of {W : World} {a0 : Option Addr} {len cap : Nat} (hl : len ≤ 1048576) (hr : len = 0 ∨ ∃ b off g, a0 = some ⟨b, off, none⟩ ∧ b < W.heap.size ∧ InsAt W b off len g) : ∃ g, CopiesF W a0 len cap g := by
  rcases hr with rfl | ⟨b, off, g, rfl, hb, hI⟩
  · exact ⟨fun _ => ⟨0, 0, 0, 0, 0⟩, fun wx _ => toInsS_freeEmpty a0 cap _ wx⟩
  · exact ⟨g, fun wx hB => toInsS_free b off len cap g wx hl (Nat.lt_of_lt_of_le hb hB.size) (hI.below hB hb)⟩

/-- The cells of len places stand in a block, and may be written. -/
def Room (w : World) (b len : Nat) : Prop := (∀ i, i < len * 5 → ∃ u, w.cell? ⟨b, i, none⟩ = some u) ∧ ∀ j, w.frozen? ⟨b, j, none⟩ = false
theorem Room.set {w : World} {b len : Nat} (h : Room w b len) (p : Addr) (v : Value) : Room (w.setCell p v) b len :=
  ⟨fun i hi => (h.1 i hi).elim fun _ e => cell?_setCell_some e, fun j => by rw [World.frozen?_setCell]; exact h.2 j⟩
theorem Room.of_ins {w : World} {b len : Nat} {g : Nat → I5} (h : InsAt w b 0 len g) (hf : ∀ j, w.frozen? ⟨b, j, none⟩ = false) : Room w b len := by
  refine ⟨fun i hi => ?_, hf⟩
  obtain ⟨c0, c1, c2, c3, c4⟩ := h (i / 5) (by omega)
  simp only [Nat.zero_add] at c0 c1 c2 c3 c4
  have hh : i = i / 5 * 5 ∨ i = i / 5 * 5 + 1 ∨ i = i / 5 * 5 + 2 ∨ i = i / 5 * 5 + 3 ∨ i = i / 5 * 5 + 4 := by omega
  rcases hh with e | e | e | e | e
  · rw [e]; exact ⟨_, c0⟩
  · rw [e]; exact ⟨_, c1⟩
  · rw [e]; exact ⟨_, c2⟩
  · rw [e]; exact ⟨_, c3⟩
  · rw [e]; exact ⟨_, c4⟩

set_option maxRecDepth 100000 in
set_option maxHeartbeats 1000000 in
theorem markInsS_any (b len cap : Nat) (k : Int) (w : World) (hlen : len ≤ 1048576) (k0 : 0 ≤ k) (k1 : k ≤ 100000000) (h : Room w b len) :
    Calls Tryz.prog 117 #[.slice (some ⟨b, 0, none⟩) len cap, .int .i64 k] w fun e w' => e = .returned (.int .i64 (k + 5 * len)) ∧ w.grownBy w' (some b) := by
  have hl' : (len : Int) ≤ 1048576 := by omega
  have HO : Hid (Room w b len) := h
  clear h
  go_enter Tryz.func117, Tryz.ntmps117
  go_wp2_with fail
  go_loopw [1, 5] (fun q i wr => ∃ j : Nat, j ≤ len ∧ i = .int .i64 j ∧ q = .int .i64 (k + 5 * j) ∧ Hid (Room wr b len ∧ w.grownBy wr (some b))) (fun _ i _ => len - (intOf i).toNat)
  case atStart => exact ⟨0, Nat.zero_le _, rfl, by simp, HO.out, World.grownBy.refl _ _⟩
  case round =>
    clear HO
    obtain ⟨j, hj, rfl, rfl, HR⟩ := hrel
    by_cases hlt : j < len
    · have hlt' : (j : Int) < (len : Int) := by omega
      obtain ⟨u0, c0⟩ := HR.out.1.1 (j * 5) (by omega)
      obtain ⟨u1, c1⟩ := HR.out.1.1 (j * 5 + 1) (by omega)
      obtain ⟨u2, c2⟩ := HR.out.1.1 (j * 5 + 2) (by omega)
      obtain ⟨u3, c3⟩ := HR.out.1.1 (j * 5 + 3) (by omega)
      obtain ⟨u4, c4⟩ := HR.out.1.1 (j * 5 + 4) (by omega)
      have fz := HR.out.1.2
      go_wp2
      go_roundw
      case rel =>
        refine ⟨j + 1, by omega, by go_num, by go_num, ?_⟩
        refine ⟨?_, ?_⟩
        · repeat (refine Room.set ?_ _ _)
          exact HR.out.1
        · repeat (refine grown_setCell ?_ (.inl rfl) _)
          exact HR.out.2
      case measure => simp [intOf]; omega
    · have hlt' : ¬ (j : Int) < (len : Int) := by omega
      have HF : Hid (w.grownBy wr (some b)) := HR.out.2
      have hjl : (j : Int) = len := by omega
      have HJ : Hid ((j : Int) = len) := hjl
      clear HR hjl
      go_wp2
      go_ret
      exact ⟨ret_int (by rw [HJ.out]), HF.out⟩

end Go.Proofs.YtdfhpimdgfemjaaGreatDoor

namespace Go.Proofs.YtdfhpimdgfemjaaGreatDoor
open Go.ChangeShapes Go.WideShapes Go.ChangeAt Go.RowKit Go.Deep

structure E3 where
  k : Int
  q : Int
  v : Int

/-- From cell off of block b on there lie len events, the i-th being h i. -/
def EvAt (w : World) (b off len : Nat) (h : Nat → E3) : Prop := ∀ i, i < len →
  w.cell? ⟨b, off + i * 3, none⟩ = some (.int .i64 (h i).k) ∧ w.cell? ⟨b, off + i * 3 + 1, none⟩ = some (.int .i64 (h i).q) ∧ w.cell? ⟨b, off + i * 3 + 2, none⟩ = some (.int .i64 (h i).v)

theorem EvAt.below {w w' : World} {B b off len : Nat} {h : Nat → E3} (hh : EvAt w b off len h) (hb : Below B w w') (hB : b < B) : EvAt w' b off len h := by
  intro i hi
  obtain ⟨h0, h1, h2⟩ := hh i hi
  exact ⟨(hb.cell hB).trans h0, (hb.cell hB).trans h1, (hb.cell hB).trans h2⟩

theorem infoEv : (Tryz.prog.info? 112).map (fun i => (i.zero, i.size, i.bytes)) = some (some (evV 0 0 0), 3, 24) := by kernel_rfl

theorem run_make_ev (n : Nat) (hn : n ≤ 1048576) (w : World) :
    (Instr.makeSlice 84 (.int .i64 (n : Int)) (.int .i64 (n : Int))).run Tryz.prog w = .ok (.slice (some ⟨w.heap.size, 0, none⟩) n n) (w.alloc (.cells (madeCells (evV 0 0 0).cells (n * 3)) 112)) := by
  have hinfo := infoEv
  cases hi : Tryz.prog.info? 112 with
  | none => rw [hi] at hinfo; cases hinfo
  | some i =>
    rw [hi] at hinfo
    simp only [Option.map_some, Option.some.injEq, Prod.mk.injEq] at hinfo
    obtain ⟨hz, hs, hb⟩ := hinfo
    have h := run_make (P := Tryz.prog) w 84 112 i _ Tryz.underlying84 hi hz .i64 .i64 (n : Int) (n : Int) (by omega) (Int.le_refl _) (by rw [hb]; omega) (by omega)
    rw [hs] at h
    simpa using h

theorem madeEv_row (w : World) (n : Nat) : (w.alloc (.cells (madeCells (evV 0 0 0).cells (n * 3)) 112)).rowIs w.heap.size 112 (n * 3) (fun _ => .int .i64 0) := by
  refine ⟨_, blk_alloc_new _ _, size_madeCells _ _, fun i hi => ?_⟩
  have h3 : i % 3 < 3 := Nat.mod_lt _ (by omega)
  have : ∀ j, j < 3 → (#[Value.int .i64 0, .int .i64 0, .int .i64 0] : Array Value)[j]! = .int .i64 0 := by
    intro j hj
    match j, hj with
    | 0, _ => rfl
    | 1, _ => rfl
    | 2, _ => rfl
  simp only [madeCells, Value.cells]
  rw [Array.getElem?_map, Array.getElem?_range, if_pos hi]
  exact congrArg some (this (i % 3) h3)

/-- The first k events of a row that is being filled. -/
def FilledE (f : Nat → Value) (h : Nat → E3) (k : Nat) : Prop := ∀ i, i < k →
  f (i * 3) = .int .i64 (h i).k ∧ f (i * 3 + 1) = .int .i64 (h i).q ∧ f (i * 3 + 2) = .int .i64 (h i).v

theorem FilledE.at {w : World} {b : Nat} {t : TypeId} {len k : Nat} {f : Nat → Value} {h : Nat → E3} (hh : FilledE f h k) (hr : w.rowIs b t (len * 3) f) (hk : k ≤ len) : EvAt w b 0 k h := by
  intro i hi
  obtain ⟨h0, h1, h2⟩ := hh i hi
  refine ⟨?_, ?_, ?_⟩
  · rw [hr.cell (by omega), Nat.zero_add, h0]
  · rw [hr.cell (by omega), Nat.zero_add, h1]
  · rw [hr.cell (by omega), Nat.zero_add, h2]

theorem FilledE.step {w : World} {b : Nat} {t : TypeId} {len k : Nat} {f : Nat → Value} {h : Nat → E3} (hr : w.rowIs b t (len * 3) f) (hh : FilledE f h k) :
    ∃ f', (((w.setCell ⟨b, k * 3, none⟩ (.int .i64 (h k).k)).setCell ⟨b, k * 3 + 1, none⟩ (.int .i64 (h k).q)).setCell ⟨b, k * 3 + 2, none⟩ (.int .i64 (h k).v)).rowIs b t (len * 3) f' ∧ FilledE f' h (k + 1) := by
  refine ⟨_, ((hr.set _ _).set _ _).set _ _, fun i hi => ?_⟩
  by_cases hik : i = k
  · subst hik
    simp
  · have hlt : i < k := by omega
    obtain ⟨h0, h1, h2⟩ := hh i hlt
    refine ⟨?_, ?_, ?_⟩
    · rw [if_neg (by omega), if_neg (by omega), if_neg (by omega)]; exact h0
    · rw [if_neg (by omega), if_neg (by omega), if_neg (by omega)]; exact h1
    · rw [if_neg (by omega), if_neg (by omega), if_neg (by omega)]; exact h2

set_option maxHeartbeats 400000 in
theorem szEventS_small (a0 : Option Addr) (len cap : Nat) (L : Int) (w : World) (h : (len : Int) ≤ L) (hL : L ≤ 1048576) :
    Calls Tryz.prog 85 #[.slice a0 len cap, .int .i64 L] w fun e w' => e = .returned (.int .i64 (L - (len : Int))) ∧ w' = w := by
  have h1 : (len : Int) ≤ 1048576 := by omega
  have h2 : 0 ≤ L := by omega
  have h3 : ¬ (L - (len : Int) < 0) := by omega
  go_enter Tryz.func85, Tryz.ntmps85
  go_wp2
  go_ret
  exact ⟨rfl, rfl⟩

set_option maxHeartbeats 400000 in
theorem szEventS_great (a0 : Option Addr) (len cap : Nat) (L : Int) (w : World) (h : L < (len : Int)) (h0 : 0 ≤ L) (hL : L ≤ 1048576) (hm : len ≤ maxLen) :
    Calls Tryz.prog 85 #[.slice a0 len cap, .int .i64 L] w fun e w' => e = .returned (.int .i64 (-1)) ∧ w' = w := by
  unfold maxLen at hm
  have h2 : (len : Int) ≤ 9223372036854775807 := by omega
  have h3 : L - (len : Int) < 0 := by omega
  go_enter Tryz.func85, Tryz.ntmps85
  go_wp2
  go_ret
  exact ⟨rfl, rfl⟩

set_option maxRecDepth 100000 in
set_option maxHeartbeats 1000000 in
theorem toEventS_free (b off len cap : Nat) (h : Nat → E3) (w : World) (hlen : len ≤ 1048576) (hb : b < w.heap.size) (hc : EvAt w b off len h) :
    Calls Tryz.prog 98 #[.slice (some ⟨b, off, none⟩) len cap] w fun e w' => e = .returned (.slice (some ⟨w.heap.size, 0, none⟩) len len) ∧ EvAt w' w.heap.size 0 len h ∧ w.heap.size < w'.heap.size ∧ Below w.heap.size w w' ∧ ∀ j, w'.frozen? ⟨w.heap.size, j, none⟩ = false := by
  have hl' : (len : Int) ≤ 1048576 := by omega
  have hmk := run_make_ev len hlen
  have HC : Hid (EvAt w b off len h) := hc
  clear hc
  go_enter Tryz.func98, Tryz.ntmps98
  go_wp2_with fail
  clear hmk
  go_loopw [4] (fun i wr => ∃ k : Nat, k ≤ len ∧ i = .int .i64 k ∧ (∃ f, wr.rowIs w.heap.size 112 (len * 3) f ∧ Hid (FilledE f h k)) ∧ Below w.heap.size w wr) (fun i _ => len - (intOf i).toNat)
  case atStart => exact ⟨0, Nat.zero_le _, rfl, ⟨_, madeEv_row w len, fun i hi => by omega⟩, (Below.refl _ _).alloc (Nat.le_refl _) _⟩
  case round =>
    obtain ⟨k, hk, rfl, ⟨f, hrow, HF⟩, hbw⟩ := hrel
    have hs := hrow.lt
    by_cases hlt : k < len
    · obtain ⟨c0, c1, c2⟩ := HC.out.below hbw hb k hlt
      have HR : Hid (wr.rowIs w.heap.size 112 (len * 3) f) := hrow
      clear hrow
      go_wp2_with fail
      refine (toEvent_any _ _ _ _).mono ?_
      rintro e w1 ⟨rfl, hb1⟩
      have hr1 : w1.rowIs w.heap.size 112 (len * 3) f := HR.out.of_block (hb1.block _ hs)
      have f0 := hr1.frozen (k * 3)
      have f1 := hr1.frozen (k * 3 + 1)
      have f2 := hr1.frozen (k * 3 + 2)
      have g0 := hr1.cell (i := k * 3) (by omega)
      have g1 := hr1.cell (i := k * 3 + 1) (by omega)
      have g2 := hr1.cell (i := k * 3 + 2) (by omega)
      have HR1 : Hid (w1.rowIs w.heap.size 112 (len * 3) f) := hr1
      clear hr1
      go_wp2_with fail
      exact ⟨⟨k + 1, by omega, by go_num, FilledE.step HR1.out HF.out, (((hbw.trans (hb1.mono (Nat.le_of_lt hs))).setCell (Nat.le_refl _) _).setCell (Nat.le_refl _) _).setCell (Nat.le_refl _) _⟩, by simp [intOf]; omega⟩
    · have hkl : k = len := by omega
      have HI : Hid (EvAt wr w.heap.size 0 len h) := by
        have := HF.out.at hrow hk
        rw [hkl] at this
        exact this
      have HZ : Hid (∀ j, wr.frozen? ⟨w.heap.size, j, none⟩ = false) := fun j => hrow.frozen j
      clear hkl HF hrow
      go_wp2
      go_ret
      exact ⟨rfl, HI.out, hs, hbw, HZ.out⟩

set_option maxRecDepth 100000 in
set_option maxHeartbeats 1000000 in
theorem toEventS_freeEmpty (a0 : Option Addr) (cap : Nat) (h : Nat → E3) (w : World) :
    Calls Tryz.prog 98 #[.slice a0 0 cap] w fun e w' => e = .returned (.slice (some ⟨w.heap.size, 0, none⟩) 0 0) ∧ EvAt w' w.heap.size 0 0 h ∧ w.heap.size < w'.heap.size ∧ Below w.heap.size w w' ∧ ∀ j, w'.frozen? ⟨w.heap.size, j, none⟩ = false := by
  have hmk : ∀ w : World, (Instr.makeSlice 84 (.int .i64 0) (.int .i64 0)).run Tryz.prog w = .ok (.slice (some ⟨w.heap.size, 0, none⟩) 0 0) (w.alloc (.cells (madeCells (evV 0 0 0).cells (0 * 3)) 112)) := fun w => run_make_ev 0 (by omega) w
  go_enter Tryz.func98, Tryz.ntmps98
  go_wp2_with fail
  clear hmk
  go_rounds 1
  go_ret
  exact ⟨rfl, fun i hi => by omega, by simp, (Below.refl _ _).alloc (Nat.le_refl _) _, fun j => new_frozen _ _ _ j rfl⟩

/-- Wherever nothing old has turned, a copy of the events can be made, and written into. -/
def CopiesE (w : World) (a0 : Option Addr) (len cap : Nat) (h : Nat → E3) : Prop := ∀ wx, Below w.heap.size w wx →
  Calls Tryz.prog 98 #[.slice a0 len cap] wx fun e w' => e = .returned (.slice (some ⟨wx.heap.size, 0, none⟩) len len) ∧ EvAt w' wx.heap.size 0 len h ∧ wx.heap.size < w'.heap.size ∧ Below wx.heap.size wx w' ∧ ∀ j, w'.frozen? ⟨wx.heap.size, j, none⟩ = false

theorem copiesE_of {W : World} {a0 : Option Addr} {len cap : Nat} (hl : len ≤ 1048576) (hr : len = 0 ∨ ∃ b off h, a0 = some ⟨b, off, none⟩ ∧ b < W.heap.size ∧ EvAt W b off len h) : ∃ h, CopiesE W a0 len cap h := by
  rcases hr with rfl | ⟨b, off, h, rfl, hb, hI⟩
  · exact ⟨fun _ => ⟨0, 0, 0⟩, fun wx _ => toEventS_freeEmpty a0 cap _ wx⟩
  · exact ⟨h, fun wx hB => toEventS_free b off len cap h wx hl (Nat.lt_of_lt_of_le hb hB.size) (hI.below hB hb)⟩

set_option maxRecDepth 100000 in
set_option maxHeartbeats 1000000 in
theorem eqEventS_same (b1 b2 len c1 c2 : Nat) (h : Nat → E3) (w : World) (hlen : len ≤ 1048576) (hb1 : b1 < w.heap.size) (hb2 : b2 < w.heap.size) (hc1 : EvAt w b1 0 len h) (hc2 : EvAt w b2 0 len h) :
    Calls Tryz.prog 116 #[.slice (some ⟨b1, 0, none⟩) len c1, .slice (some ⟨b2, 0, none⟩) len c2] w fun e w' => e = .returned (.bool true) ∧ Below w.heap.size w w' := by
  have hl' : (len : Int) ≤ 1048576 := by omega
  have HC1 : Hid (EvAt w b1 0 len h) := hc1
  have HC2 : Hid (EvAt w b2 0 len h) := hc2
  clear hc1 hc2
  go_enter Tryz.func116, Tryz.ntmps116
  go_wp2_with fail
  go_loopw [5] (fun i wr => ∃ k : Nat, k ≤ len ∧ i = .int .i64 k ∧ Below w.heap.size w wr) (fun i _ => len - (intOf i).toNat)
  case atStart => exact ⟨0, Nat.zero_le _, rfl, Below.refl _ _⟩
  case round =>
    obtain ⟨k, hk, rfl, hbw⟩ := hrel
    have hs := hbw.size
    by_cases hlt : k < len
    · obtain ⟨c0, c1, c2⟩ := HC1.out.below hbw hb1 k hlt
      obtain ⟨d0, d1, d2⟩ := HC2.out.below hbw hb2 k hlt
      have hlt' : (k : Int) < (len : Int) := by omega
      rw [Nat.zero_add] at c0 c1 c2 d0 d1 d2
      go_wp2_with fail
      first | (go_region_with (go_at_call 187; refine (eqEvent_same _ _ _ _).mono ?_; rintro e w1 ⟨rfl, hq1⟩)) | fail
      all_goals
        go_wp2
        go_roundw
        case rel => exact ⟨k + 1, by omega, by go_num, hbw.drew.trans (hq1.mono hs)⟩
        case measure => simp [intOf]; omega
    · go_wp2
      go_ret
      exact ⟨rfl, hbw⟩

/-- The cells of len events stand in a block, and may be written. -/
def RoomE (w : World) (b len : Nat) : Prop := (∀ i, i < len * 3 → ∃ u, w.cell? ⟨b, i, none⟩ = some u) ∧ ∀ j, w.frozen? ⟨b, j, none⟩ = false
theorem RoomE.set {w : World} {b len : Nat} (h : RoomE w b len) (p : Addr) (v : Value) : RoomE (w.setCell p v) b len :=
  ⟨fun i hi => (h.1 i hi).elim fun _ e => cell?_setCell_some e, fun j => by rw [World.frozen?_setCell]; exact h.2 j⟩
theorem RoomE.of_ev {w : World} {b len : Nat} {h : Nat → E3} (hh : EvAt w b 0 len h) (hf : ∀ j, w.frozen? ⟨b, j, none⟩ = false) : RoomE w b len := by
  refine ⟨fun i hi => ?_, hf⟩
  obtain ⟨c0, c1, c2⟩ := hh (i / 3) (by omega)
  simp only [Nat.zero_add] at c0 c1 c2
  have he : i = i / 3 * 3 ∨ i = i / 3 * 3 + 1 ∨ i = i / 3 * 3 + 2 := by omega
  rcases he with e | e | e
  · rw [e]; exact ⟨_, c0⟩
  · rw [e]; exact ⟨_, c1⟩
  · rw [e]; exact ⟨_, c2⟩

set_option maxRecDepth 100000 in
set_option maxHeartbeats 1000000 in
theorem markEventS_any (b len cap : Nat) (k : Int) (w : World) (hlen : len ≤ 1048576) (k0 : 0 ≤ k) (k1 : k ≤ 100000000) (h : RoomE w b len) :
    Calls Tryz.prog 120 #[.slice (some ⟨b, 0, none⟩) len cap, .int .i64 k] w fun e w' => e = .returned (.int .i64 (k + 3 * len)) ∧ w.grownBy w' (some b) := by
  have hl' : (len : Int) ≤ 1048576 := by omega
  have HO : Hid (RoomE w b len) := h
  clear h
  go_enter Tryz.func120, Tryz.ntmps120
  go_wp2_with fail
  go_loopw [1, 5] (fun q i wr => ∃ j : Nat, j ≤ len ∧ i = .int .i64 j ∧ q = .int .i64 (k + 3 * j) ∧ Hid (RoomE wr b len ∧ w.grownBy wr (some b))) (fun _ i _ => len - (intOf i).toNat)
  case atStart => exact ⟨0, Nat.zero_le _, rfl, by simp, HO.out, World.grownBy.refl _ _⟩
  case round =>
    clear HO
    obtain ⟨j, hj, rfl, rfl, HR⟩ := hrel
    by_cases hlt : j < len
    · have hlt' : (j : Int) < (len : Int) := by omega
      obtain ⟨u0, c0⟩ := HR.out.1.1 (j * 3) (by omega)
      obtain ⟨u1, c1⟩ := HR.out.1.1 (j * 3 + 1) (by omega)
      obtain ⟨u2, c2⟩ := HR.out.1.1 (j * 3 + 2) (by omega)
      have fz := HR.out.1.2
      go_wp2
      go_roundw
      case rel =>
        refine ⟨j + 1, by omega, by go_num, by go_num, ?_⟩
        refine ⟨?_, ?_⟩
        · repeat (refine RoomE.set ?_ _ _)
          exact HR.out.1
        · repeat (refine grown_setCell ?_ (.inl rfl) _)
          exact HR.out.2
      case measure => simp [intOf]; omega
    · have hlt' : ¬ (j : Int) < (len : Int) := by omega
      have HF : Hid (w.grownBy wr (some b)) := HR.out.2
      have hjl : (j : Int) = len := by omega
      have HJ : Hid ((j : Int) = len) := hjl
      clear HR hjl
      go_wp2
      go_ret
      exact ⟨ret_int (by rw [HJ.out]), HF.out⟩

theorem cellsLawEv : Tryz.prog.cellsOf 209 = 3 := by kernel_rfl

/-- Three cells that read as a struct of three ints are three numbers. -/
theorem open_evCells {H : Type} {enc : TypeId × Value → H} {w : World} {base fuel : Nat} {spare : Nat → Bool} {held : Bool} {c0 c1 c2 : Value} {x : DataW H × List MemPlace}
    (hf : DataW.trod enc Tryz.prog w base spare held fuel 209 [c0, c1, c2] = some x) :
    ∃ k q v : Int, c0 = .int .i64 k ∧ c1 = .int .i64 q ∧ c2 = .int .i64 v := by
  obtain ⟨xs, m, -, -, -, hl, hx⟩ := DataW.trod_struct Tryz.underlying209 hf
  have hl : xs.length = 3 := hl
  have q0 : DataW.trod enc Tryz.prog w base spare held m 3 [c0] = xs[0]? := by simpa [cellsInt] using hx 0 _ rfl
  have q1 : DataW.trod enc Tryz.prog w base spare held m 3 [c1] = xs[1]? := by simpa [cellsInt] using hx 1 _ rfl
  have q2 : DataW.trod enc Tryz.prog w base spare held m 3 [c2] = xs[2]? := by simpa [cellsInt] using hx 2 _ rfl
  rw [List.getElem?_eq_getElem (by omega)] at q0 q1 q2
  obtain ⟨z0, e0, -, -⟩ := DataW.trod_int Tryz.underlying3 q0
  obtain ⟨z1, e1, -, -⟩ := DataW.trod_int Tryz.underlying3 q1
  obtain ⟨z2, e2, -, -⟩ := DataW.trod_int Tryz.underlying3 q2
  simp only [List.cons.injEq, and_true] at e0 e1 e2
  exact ⟨z0, z1, z2, e0, e1, e2⟩

/-- A list of events that came in: empty, or a row in memory. -/
theorem open_evRow {H : Type} {enc : TypeId × Value → H} {w : World} {spare : Nat → Bool} {held : Bool} {base : Nat} {a0 : Option Addr} {len cap : Nat} {d : DataW H} {p : List MemPlace}
    (h : DataW.Trod enc Tryz.prog w base spare held 125 (.slice a0 len cap) d p) :
    len ≤ maxLen ∧ (len = 0 ∨ ∃ b off h, a0 = some ⟨b, off, none⟩ ∧ b < w.heap.size ∧ EvAt w b off len h) := by
  obtain ⟨fuel, hf⟩ := h
  rcases Go.Deep.open_slice Tryz.underlying125 hf with ⟨hcs, _⟩ | ⟨a, len', cap', m, n, D, Pl, hcs, _, hl, hm, hmm, _, hx⟩
  · simp [Value.cells] at hcs
    obtain ⟨_, rfl, _⟩ := hcs
    exact ⟨Nat.zero_le _, .inl rfl⟩
  · simp [Value.cells] at hcs
    obtain ⟨rfl, rfl, rfl⟩ := hcs
    refine ⟨Nat.le_trans hl hm, ?_⟩
    by_cases h0 : len = 0
    · exact .inl h0
    right
    have hle : len ≤ m := by rw [hmm]; split <;> omega
    rw [cellsLawEv] at hx
    obtain ⟨b, off, spot⟩ := a
    have hcell : ∀ i, i < len → ∃ x : E3, w.cell? (Addr.add (Addr.add ⟨b, off, spot⟩ (i * 3)) 0) = some (.int .i64 x.k) ∧ w.cell? (Addr.add (Addr.add ⟨b, off, spot⟩ (i * 3)) 1) = some (.int .i64 x.q) ∧ w.cell? (Addr.add (Addr.add ⟨b, off, spot⟩ (i * 3)) 2) = some (.int .i64 x.v) := by
      intro i hi
      obtain ⟨cs', h1, h2⟩ := hx i (by omega)
      obtain ⟨_, hlen, hc⟩ := World.cells?_some h1
      match cs', hlen with
      | [c0, c1, c2], _ =>
        obtain ⟨k, q, v, rfl, rfl, rfl⟩ := open_evCells h2
        exact ⟨⟨k, q, v⟩, hc 0 (by omega), hc 1 (by omega), hc 2 (by omega)⟩
    have hspot : spot = none := by
      obtain ⟨x, hx0, _⟩ := hcell 0 (by omega)
      simpa [Addr.add] using World.cell?_spot hx0
    subst hspot
    have inh : Inhabited E3 := ⟨⟨0, 0, 0⟩⟩
    obtain ⟨g, hg⟩ := Go.Deep.choose_lt (α := E3) hcell
    have hI : EvAt w b off len g := by
      intro i hi
      obtain ⟨q0, q1, q2⟩ := hg i hi
      rw [addr_addO, addr_addO] at q0 q1 q2
      exact ⟨q0, q1, q2⟩
    exact ⟨b, off, g, rfl, cell_lt (hI 0 (by omega)).1, hI⟩

set_option maxRecDepth 100000 in
/-- An event that came in. -/
theorem open_event {H : Type} {enc : TypeId × Value → H} {w : World} {base b0 : Nat} {held : Bool} {rc : Reach} {v : Value} {d : DataW H} {p : List MemPlace}
    (hv : Value.okWide Tryz.prog w rc b0 209 v) (h : DataW.Trod enc Tryz.prog w base (fun _ => true) held 209 v d p) :
    ∃ k q x : Int, v = evV k q x := by
  obtain ⟨cs, rfl, hsz⟩ := okWide_struct Tryz.underlying209 hv
  obtain ⟨c0, c1, c2, rfl⟩ := array3 (hsz.trans cellsLawEv)
  obtain ⟨fuel, hf⟩ := h
  have hf' : DataW.trod enc Tryz.prog w base (fun _ => true) held fuel 209 [c0, c1, c2] = some (d, p) := by simpa [Value.cells] using hf
  obtain ⟨k, q, x, rfl, rfl, rfl⟩ := open_evCells hf'
  exact ⟨k, q, x, rfl⟩

end Go.Proofs.YtdfhpimdgfemjaaGreatDoor

namespace Go.Proofs.YtdfhpimdgfemjaaGreatDoor
open Go.ChangeShapes Go.WideShapes Go.ChangeAt Go.RowKit Go.Deep

structure I2 where
  m : Bool
  v : Int
abbrev itV (m : Bool) (v : Int) : Value := .agg #[.bool m, .int .i64 v]

/-- From cell off of block b on there lie len items, the i-th being h i. -/
def ItAt (w : World) (b off len : Nat) (h : Nat → I2) : Prop := ∀ i, i < len →
  w.cell? ⟨b, off + i * 2, none⟩ = some (.bool (h i).m) ∧ w.cell? ⟨b, off + i * 2 + 1, none⟩ = some (.int .i64 (h i).v)

theorem ItAt.below {w w' : World} {B b off len : Nat} {h : Nat → I2} (hh : ItAt w b off len h) (hb : Below B w w') (hB : b < B) : ItAt w' b off len h := by
  intro i hi
  obtain ⟨h0, h1⟩ := hh i hi
  exact ⟨(hb.cell hB).trans h0, (hb.cell hB).trans h1⟩

theorem infoIt : (Tryz.prog.info? 101).map (fun i => (i.zero, i.size, i.bytes)) = some (some (itV false 0), 2, 16) := by kernel_rfl

theorem run_make_it (n : Nat) (hn : n ≤ 1048576) (w : World) :
    (Instr.makeSlice 99 (.int .i64 (n : Int)) (.int .i64 (n : Int))).run Tryz.prog w = .ok (.slice (some ⟨w.heap.size, 0, none⟩) n n) (w.alloc (.cells (madeCells (itV false 0).cells (n * 2)) 101)) := by
  have hinfo := infoIt
  cases hi : Tryz.prog.info? 101 with
  | none => rw [hi] at hinfo; cases hinfo
  | some i =>
    rw [hi] at hinfo
    simp only [Option.map_some, Option.some.injEq, Prod.mk.injEq] at hinfo
    obtain ⟨hz, hs, hb⟩ := hinfo
    have h := run_make (P := Tryz.prog) w 99 101 i _ Tryz.underlying99 hi hz .i64 .i64 (n : Int) (n : Int) (by omega) (Int.le_refl _) (by rw [hb]; omega) (by omega)
    rw [hs] at h
    simpa using h

theorem madeIt_row (w : World) (n : Nat) : (w.alloc (.cells (madeCells (itV false 0).cells (n * 2)) 101)).rowIs w.heap.size 101 (n * 2) (fun i => if i % 2 = 0 then .bool false else .int .i64 0) := by
  refine ⟨_, blk_alloc_new _ _, size_madeCells _ _, fun i hi => ?_⟩
  have h3 : i % 2 < 2 := Nat.mod_lt _ (by omega)
  have : ∀ j, j < 2 → (#[Value.bool false, .int .i64 0] : Array Value)[j]! = if j = 0 then .bool false else .int .i64 0 := by
    intro j hj
    match j, hj with
    | 0, _ => rfl
    | 1, _ => rfl
  simp only [madeCells, Value.cells]
  rw [Array.getElem?_map, Array.getElem?_range, if_pos hi]
  exact congrArg some (this (i % 2) h3)

/-- The first k items of a row that is being filled. -/
def FilledT (f : Nat → Value) (h : Nat → I2) (k : Nat) : Prop := ∀ i, i < k →
  f (i * 2) = .bool (h i).m ∧ f (i * 2 + 1) = .int .i64 (h i).v

theorem FilledT.at {w : World} {b : Nat} {t : TypeId} {len k : Nat} {f : Nat → Value} {h : Nat → I2} (hh : FilledT f h k) (hr : w.rowIs b t (len * 2) f) (hk : k ≤ len) : ItAt w b 0 k h := by
  intro i hi
  obtain ⟨h0, h1⟩ := hh i hi
  refine ⟨?_, ?_⟩
  · rw [hr.cell (by omega), Nat.zero_add, h0]
  · rw [hr.cell (by omega), Nat.zero_add, h1]

theorem FilledT.step {w : World} {b : Nat} {t : TypeId} {len k : Nat} {f : Nat → Value} {h : Nat → I2} (hr : w.rowIs b t (len * 2) f) (hh : FilledT f h k) :
    ∃ f', ((w.setCell ⟨b, k * 2, none⟩ (.bool (h k).m)).setCell ⟨b, k * 2 + 1, none⟩ (.int .i64 (h k).v)).rowIs b t (len * 2) f' ∧ FilledT f' h (k + 1) := by
  refine ⟨_, (hr.set _ _).set _ _, fun i hi => ?_⟩
  by_cases hik : i = k
  · subst hik
    simp
  · have hlt : i < k := by omega
    obtain ⟨h0, h1⟩ := hh i hlt
    refine ⟨?_, ?_⟩
    · rw [if_neg (by omega), if_neg (by omega)]; exact h0
    · rw [if_neg (by omega), if_neg (by omega)]; exact h1

set_option maxHeartbeats 400000 in
theorem toItem_any (m : Bool) (v : Int) (w : World) :
    Calls Tryz.prog 166 #[itV m v] w fun e w' => e = .returned (itV m v) ∧ Below w.heap.size w w' := by
  go_enter Tryz.func166, Tryz.ntmps166
  go_wp2
  refine bodyPost_ret (v := itV m v) (by simp [results, Tryz.results166, go_sem]) rfl ⟨rfl, ?_⟩
  go_grown

set_option maxHeartbeats 400000 in
theorem eqItem_same (m : Bool) (v : Int) (w : World) :
    Calls Tryz.prog 186 #[itV m v, itV m v] w fun e w' => e = .returned (.bool true) ∧ Below w.heap.size w w' := by
  cases m
  all_goals
    go_enter Tryz.func186, Tryz.ntmps186
    go_wp2
    go_ret
    exact ⟨rfl, by go_grown⟩

set_option maxHeartbeats 400000 in
theorem szItemS_small (a0 : Option Addr) (len cap : Nat) (L : Int) (w : World) (h : (len : Int) ≤ L) (hL : L ≤ 1048576) :
    Calls Tryz.prog 84 #[.slice a0 len cap, .int .i64 L] w fun e w' => e = .returned (.int .i64 (L - (len : Int))) ∧ w' = w := by
  have h1 : (len : Int) ≤ 1048576 := by omega
  have h2 : 0 ≤ L := by omega
  have h3 : ¬ (L - (len : Int) < 0) := by omega
  go_enter Tryz.func84, Tryz.ntmps84
  go_wp2
  go_ret
  exact ⟨rfl, rfl⟩

set_option maxHeartbeats 400000 in
theorem szItemS_great (a0 : Option Addr) (len cap : Nat) (L : Int) (w : World) (h : L < (len : Int)) (h0 : 0 ≤ L) (hL : L ≤ 1048576) (hm : len ≤ maxLen) :
    Calls Tryz.prog 84 #[.slice a0 len cap, .int .i64 L] w fun e w' => e = .returned (.int .i64 (-1)) ∧ w' = w := by
  unfold maxLen at hm
  have h2 : (len : Int) ≤ 9223372036854775807 := by omega
  have h3 : L - (len : Int) < 0 := by omega
  go_enter Tryz.func84, Tryz.ntmps84
  go_wp2
  go_ret
  exact ⟨rfl, rfl⟩

set_option maxRecDepth 100000 in
set_option maxHeartbeats 1000000 in
theorem toItemS_free (b off len cap : Nat) (h : Nat → I2) (w : World) (hlen : len ≤ 1048576) (hb : b < w.heap.size) (hc : ItAt w b off len h) :
    Calls Tryz.prog 97 #[.slice (some ⟨b, off, none⟩) len cap] w fun e w' => e = .returned (.slice (some ⟨w.heap.size, 0, none⟩) len len) ∧ ItAt w' w.heap.size 0 len h ∧ w.heap.size < w'.heap.size ∧ Below w.heap.size w w' ∧ ∀ j, w'.frozen? ⟨w.heap.size, j, none⟩ = false := by
  have hl' : (len : Int) ≤ 1048576 := by omega
  have hmk := run_make_it len hlen
  have HC : Hid (ItAt w b off len h) := hc
  clear hc
  go_enter Tryz.func97, Tryz.ntmps97
  go_wp2_with fail
  clear hmk
  go_loopw [4] (fun i wr => ∃ k : Nat, k ≤ len ∧ i = .int .i64 k ∧ (∃ f, wr.rowIs w.heap.size 101 (len * 2) f ∧ Hid (FilledT f h k)) ∧ Below w.heap.size w wr) (fun i _ => len - (intOf i).toNat)
  case atStart => exact ⟨0, Nat.zero_le _, rfl, ⟨_, madeIt_row w len, fun i hi => by omega⟩, (Below.refl _ _).alloc (Nat.le_refl _) _⟩
  case round =>
    obtain ⟨k, hk, rfl, ⟨f, hrow, HF⟩, hbw⟩ := hrel
    have hs := hrow.lt
    by_cases hlt : k < len
    · obtain ⟨c0, c1⟩ := HC.out.below hbw hb k hlt
      have HR : Hid (wr.rowIs w.heap.size 101 (len * 2) f) := hrow
      clear hrow
      go_wp2_with fail
      refine (toItem_any _ _ _).mono ?_
      rintro e w1 ⟨rfl, hb1⟩
      have hr1 : w1.rowIs w.heap.size 101 (len * 2) f := HR.out.of_block (hb1.block _ hs)
      have f0 := hr1.frozen (k * 2)
      have f1 := hr1.frozen (k * 2 + 1)
      have g0 := hr1.cell (i := k * 2) (by omega)
      have g1 := hr1.cell (i := k * 2 + 1) (by omega)
      have HR1 : Hid (w1.rowIs w.heap.size 101 (len * 2) f) := hr1
      clear hr1
      go_wp2_with fail
      exact ⟨⟨k + 1, by omega, by go_num, FilledT.step HR1.out HF.out, ((hbw.trans (hb1.mono (Nat.le_of_lt hs))).setCell (Nat.le_refl _) _).setCell (Nat.le_refl _) _⟩, by simp [intOf]; omega⟩
    · have hkl : k = len := by omega
      have HI : Hid (ItAt wr w.heap.size 0 len h) := by
        have := HF.out.at hrow hk
        rw [hkl] at this
        exact this
      have HZ : Hid (∀ j, wr.frozen? ⟨w.heap.size, j, none⟩ = false) := fun j => hrow.frozen j
      clear hkl HF hrow
      go_wp2
      go_ret
      exact ⟨rfl, HI.out, hs, hbw, HZ.out⟩

set_option maxRecDepth 100000 in
set_option maxHeartbeats 1000000 in
theorem toItemS_freeEmpty (a0 : Option Addr) (cap : Nat) (h : Nat → I2) (w : World) :
    Calls Tryz.prog 97 #[.slice a0 0 cap] w fun e w' => e = .returned (.slice (some ⟨w.heap.size, 0, none⟩) 0 0) ∧ ItAt w' w.heap.size 0 0 h ∧ w.heap.size < w'.heap.size ∧ Below w.heap.size w w' ∧ ∀ j, w'.frozen? ⟨w.heap.size, j, none⟩ = false := by
  have hmk : ∀ w : World, (Instr.makeSlice 99 (.int .i64 0) (.int .i64 0)).run Tryz.prog w = .ok (.slice (some ⟨w.heap.size, 0, none⟩) 0 0) (w.alloc (.cells (madeCells (itV false 0).cells (0 * 2)) 101)) := fun w => run_make_it 0 (by omega) w
  go_enter Tryz.func97, Tryz.ntmps97
  go_wp2_with fail
  clear hmk
  go_rounds 1
  go_ret
  exact ⟨rfl, fun i hi => by omega, by simp, (Below.refl _ _).alloc (Nat.le_refl _) _, fun j => new_frozen _ _ _ j rfl⟩

/-- Wherever nothing old has turned, a copy of the items can be made, and written into. -/
def CopiesT (w : World) (a0 : Option Addr) (len cap : Nat) (h : Nat → I2) : Prop := ∀ wx, Below w.heap.size w wx →
  Calls Tryz.prog 97 #[.slice a0 len cap] wx fun e w' => e = .returned (.slice (some ⟨wx.heap.size, 0, none⟩) len len) ∧ ItAt w' wx.heap.size 0 len h ∧ wx.heap.size < w'.heap.size ∧ Below wx.heap.size wx w' ∧ ∀ j, w'.frozen? ⟨wx.heap.size, j, none⟩ = false

theorem copiesT_of {W : World} {a0 : Option Addr} {len cap : Nat} (hl : len ≤ 1048576) (hr : len = 0 ∨ ∃ b off h, a0 = some ⟨b, off, none⟩ ∧ b < W.heap.size ∧ ItAt W b off len h) : ∃ h, CopiesT W a0 len cap h := by
  rcases hr with rfl | ⟨b, off, h, rfl, hb, hI⟩
  · exact ⟨fun _ => ⟨false, 0⟩, fun wx _ => toItemS_freeEmpty a0 cap _ wx⟩
  · exact ⟨h, fun wx hB => toItemS_free b off len cap h wx hl (Nat.lt_of_lt_of_le hb hB.size) (hI.below hB hb)⟩

set_option maxRecDepth 100000 in
set_option maxHeartbeats 1000000 in
theorem eqItemS_same (b1 b2 len c1 c2 : Nat) (h : Nat → I2) (w : World) (hlen : len ≤ 1048576) (hb1 : b1 < w.heap.size) (hb2 : b2 < w.heap.size) (hc1 : ItAt w b1 0 len h) (hc2 : ItAt w b2 0 len h) :
    Calls Tryz.prog 115 #[.slice (some ⟨b1, 0, none⟩) len c1, .slice (some ⟨b2, 0, none⟩) len c2] w fun e w' => e = .returned (.bool true) ∧ Below w.heap.size w w' := by
  have hl' : (len : Int) ≤ 1048576 := by omega
  have HC1 : Hid (ItAt w b1 0 len h) := hc1
  have HC2 : Hid (ItAt w b2 0 len h) := hc2
  clear hc1 hc2
  go_enter Tryz.func115, Tryz.ntmps115
  go_wp2_with fail
  go_loopw [5] (fun i wr => ∃ k : Nat, k ≤ len ∧ i = .int .i64 k ∧ Below w.heap.size w wr) (fun i _ => len - (intOf i).toNat)
  case atStart => exact ⟨0, Nat.zero_le _, rfl, Below.refl _ _⟩
  case round =>
    obtain ⟨k, hk, rfl, hbw⟩ := hrel
    have hs := hbw.size
    by_cases hlt : k < len
    · obtain ⟨c0, c1⟩ := HC1.out.below hbw hb1 k hlt
      obtain ⟨d0, d1⟩ := HC2.out.below hbw hb2 k hlt
      have hlt' : (k : Int) < (len : Int) := by omega
      rw [Nat.zero_add] at c0 c1 d0 d1
      go_wp2_with fail
      first | (go_region_with (go_at_call 186; refine (eqItem_same _ _ _).mono ?_; rintro e w1 ⟨rfl, hq1⟩)) | fail
      all_goals
        go_wp2
        go_roundw
        case rel => exact ⟨k + 1, by omega, by go_num, hbw.drew.trans (hq1.mono hs)⟩
        case measure => simp [intOf]; omega
    · go_wp2
      go_ret
      exact ⟨rfl, hbw⟩

/-- The cells of len items stand in a block, and may be written. -/
def RoomT (w : World) (b len : Nat) : Prop := (∀ i, i < len * 2 → ∃ u, w.cell? ⟨b, i, none⟩ = some u) ∧ ∀ j, w.frozen? ⟨b, j, none⟩ = false
theorem RoomT.set {w : World} {b len : Nat} (h : RoomT w b len) (p : Addr) (v : Value) : RoomT (w.setCell p v) b len :=
  ⟨fun i hi => (h.1 i hi).elim fun _ e => cell?_setCell_some e, fun j => by rw [World.frozen?_setCell]; exact h.2 j⟩
theorem RoomT.of_it {w : World} {b len : Nat} {h : Nat → I2} (hh : ItAt w b 0 len h) (hf : ∀ j, w.frozen? ⟨b, j, none⟩ = false) : RoomT w b len := by
  refine ⟨fun i hi => ?_, hf⟩
  obtain ⟨c0, c1⟩ := hh (i / 2) (by omega)
  simp only [Nat.zero_add] at c0 c1
  have he : i = i / 2 * 2 ∨ i = i / 2 * 2 + 1 := by omega
  rcases he with e | e
  · rw [e]; exact ⟨_, c0⟩
  · rw [e]; exact ⟨_, c1⟩

set_option maxRecDepth 100000 in
set_option maxHeartbeats 1000000 in
theorem markItemS_any (b len cap : Nat) (k : Int) (w : World) (hlen : len ≤ 1048576) (k0 : 0 ≤ k) (k1 : k ≤ 100000000) (h : RoomT w b len) :
    Calls Tryz.prog 119 #[.slice (some ⟨b, 0, none⟩) len cap, .int .i64 k] w fun e w' => e = .returned (.int .i64 (k + 2 * len)) ∧ w.grownBy w' (some b) := by
  have hl' : (len : Int) ≤ 1048576 := by omega
  have HO : Hid (RoomT w b len) := h
  clear h
  go_enter Tryz.func119, Tryz.ntmps119
  go_wp2_with fail
  go_loopw [1, 5] (fun q i wr => ∃ j : Nat, j ≤ len ∧ i = .int .i64 j ∧ q = .int .i64 (k + 2 * j) ∧ Hid (RoomT wr b len ∧ w.grownBy wr (some b))) (fun _ i _ => len - (intOf i).toNat)
  case atStart => exact ⟨0, Nat.zero_le _, rfl, by simp, HO.out, World.grownBy.refl _ _⟩
  case round =>
    clear HO
    obtain ⟨j, hj, rfl, rfl, HR⟩ := hrel
    by_cases hlt : j < len
    · have hlt' : (j : Int) < (len : Int) := by omega
      obtain ⟨u0, c0⟩ := HR.out.1.1 (j * 2) (by omega)
      obtain ⟨u1, c1⟩ := HR.out.1.1 (j * 2 + 1) (by omega)
      have fz := HR.out.1.2
      go_wp2
      go_roundw
      case rel =>
        refine ⟨j + 1, by omega, by go_num, by go_num, ?_⟩
        refine ⟨?_, ?_⟩
        · repeat (refine RoomT.set ?_ _ _)
          exact HR.out.1
        · repeat (refine grown_setCell ?_ (.inl rfl) _)
          exact HR.out.2
      case measure => simp [intOf]; omega
    · have hlt' : ¬ (j : Int) < (len : Int) := by omega
      have HF : Hid (w.grownBy wr (some b)) := HR.out.2
      have hjl : (j : Int) = len := by omega
      have HJ : Hid ((j : Int) = len) := hjl
      clear HR hjl
      go_wp2
      go_ret
      exact ⟨ret_int (by rw [HJ.out]), HF.out⟩

theorem cellsLawIt : Tryz.prog.cellsOf 207 = 2 := by kernel_rfl
theorem cellsBool : Tryz.prog.cellsOf 4 = 1 := by kernel_rfl

/-- Two cells that read as a struct of a bool and an int are these. -/
theorem open_itCells {H : Type} {enc : TypeId × Value → H} {w : World} {base fuel : Nat} {spare : Nat → Bool} {held : Bool} {c0 c1 : Value} {x : DataW H × List MemPlace}
    (hf : DataW.trod enc Tryz.prog w base spare held fuel 207 [c0, c1] = some x) :
    ∃ (m : Bool) (v : Int), c0 = .bool m ∧ c1 = .int .i64 v := by
  obtain ⟨xs, m, -, -, -, hl, hx⟩ := DataW.trod_struct Tryz.underlying207 hf
  have hl : xs.length = 2 := hl
  have q0 : DataW.trod enc Tryz.prog w base spare held m 4 [c0] = xs[0]? := by simpa [cellsBool] using hx 0 _ rfl
  have q1 : DataW.trod enc Tryz.prog w base spare held m 3 [c1] = xs[1]? := by simpa [cellsInt, cellsBool] using hx 1 _ rfl
  rw [List.getElem?_eq_getElem (by omega)] at q0 q1
  obtain ⟨z0, e0, -⟩ := DataW.trod_bool Tryz.underlying4 q0
  obtain ⟨z1, e1, -, -⟩ := DataW.trod_int Tryz.underlying3 q1
  simp only [List.cons.injEq, and_true] at e0 e1
  exact ⟨z0, z1, e0, e1⟩

/-- A list of items that came in: empty, or a row in memory. -/
theorem open_itRow {H : Type} {enc : TypeId × Value → H} {w : World} {spare : Nat → Bool} {held : Bool} {base : Nat} {a0 : Option Addr} {len cap : Nat} {d : DataW H} {p : List MemPlace}
    (h : DataW.Trod enc Tryz.prog w base spare held 123 (.slice a0 len cap) d p) :
    len ≤ maxLen ∧ (len = 0 ∨ ∃ b off h, a0 = some ⟨b, off, none⟩ ∧ b < w.heap.size ∧ ItAt w b off len h) := by
  obtain ⟨fuel, hf⟩ := h
  rcases Go.Deep.open_slice Tryz.underlying123 hf with ⟨hcs, _⟩ | ⟨a, len', cap', m, n, D, Pl, hcs, _, hl, hm, hmm, _, hx⟩
  · simp [Value.cells] at hcs
    obtain ⟨_, rfl, _⟩ := hcs
    exact ⟨Nat.zero_le _, .inl rfl⟩
  · simp [Value.cells] at hcs
    obtain ⟨rfl, rfl, rfl⟩ := hcs
    refine ⟨Nat.le_trans hl hm, ?_⟩
    by_cases h0 : len = 0
    · exact .inl h0
    right
    have hle : len ≤ m := by rw [hmm]; split <;> omega
    rw [cellsLawIt] at hx
    obtain ⟨b, off, spot⟩ := a
    have hcell : ∀ i, i < len → ∃ x : I2, w.cell? (Addr.add (Addr.add ⟨b, off, spot⟩ (i * 2)) 0) = some (.bool x.m) ∧ w.cell? (Addr.add (Addr.add ⟨b, off, spot⟩ (i * 2)) 1) = some (.int .i64 x.v) := by
      intro i hi
      obtain ⟨cs', h1, h2⟩ := hx i (by omega)
      obtain ⟨_, hlen, hc⟩ := World.cells?_some h1
      match cs', hlen with
      | [c0, c1], _ =>
        obtain ⟨k, v, rfl, rfl⟩ := open_itCells h2
        exact ⟨⟨k, v⟩, hc 0 (by omega), hc 1 (by omega)⟩
    have hspot : spot = none := by
      obtain ⟨x, hx0, _⟩ := hcell 0 (by omega)
      simpa [Addr.add] using World.cell?_spot hx0
    subst hspot
    have inh : Inhabited I2 := ⟨⟨false, 0⟩⟩
    obtain ⟨g, hg⟩ := Go.Deep.choose_lt (α := I2) hcell
    have hI : ItAt w b off len g := by
      intro i hi
      obtain ⟨q0, q1⟩ := hg i hi
      rw [addr_addO, addr_addO] at q0 q1
      exact ⟨q0, q1⟩
    exact ⟨b, off, g, rfl, cell_lt (hI 0 (by omega)).1, hI⟩

end Go.Proofs.YtdfhpimdgfemjaaGreatDoor

namespace Go.Proofs.YtdfhpimdgfemjaaGreatDoor
open Go.RowKit Go.Deep

def hitB (eh : Nat → E3) (kd pr : Int) (i : Nat) : Bool := ((eh i).k == kd) && ((eh i).q == pr)
/-- The places of the events of this kind with this peer, among the first n. -/
def plN (eh : Nat → E3) (kd pr : Int) : Nat → List Nat
  | 0 => []
  | n + 1 => if hitB eh kd pr n = true then plN eh kd pr n ++ [n] else plN eh kd pr n
def valL (eh : Nat → E3) (kd pr : Int) (n : Nat) : List Int := (plN eh kd pr n).map fun i => (eh i).v
def plI (eh : Nat → E3) (kd pr : Int) (n : Nat) : List Int := (plN eh kd pr n).map fun i : Nat => (i : Int)
theorem plN_le (eh : Nat → E3) (kd pr : Int) : ∀ n, (plN eh kd pr n).length ≤ n
  | 0 => Nat.le_refl _
  | n + 1 => by
    unfold plN
    have := plN_le eh kd pr n
    split
    · simp; omega
    · omega
theorem valL_le (eh : Nat → E3) (kd pr : Int) (n : Nat) : (valL eh kd pr n).length ≤ n := by
  unfold valL
  rw [List.length_map]
  exact plN_le eh kd pr n
theorem plI_le (eh : Nat → E3) (kd pr : Int) (n : Nat) : (plI eh kd pr n).length ≤ n := by
  unfold plI
  rw [List.length_map]
  exact plN_le eh kd pr n
theorem valL_hit {eh : Nat → E3} {kd pr : Int} {n : Nat} (hh : hitB eh kd pr n = true) : valL eh kd pr (n + 1) = valL eh kd pr n ++ [(eh n).v] := by
  unfold valL
  rw [plN, if_pos hh, List.map_append]
  rfl
theorem valL_not {eh : Nat → E3} {kd pr : Int} {n : Nat} (hh : hitB eh kd pr n = false) : valL eh kd pr (n + 1) = valL eh kd pr n := by
  unfold valL
  rw [plN, if_neg (by rw [hh]; decide)]
theorem plI_hit {eh : Nat → E3} {kd pr : Int} {n : Nat} (hh : hitB eh kd pr n = true) : plI eh kd pr (n + 1) = plI eh kd pr n ++ [(n : Int)] := by
  unfold plI
  rw [plN, if_pos hh, List.map_append]
  rfl
theorem plI_not {eh : Nat → E3} {kd pr : Int} {n : Nat} (hh : hitB eh kd pr n = false) : plI eh kd pr (n + 1) = plI eh kd pr n := by
  unfold plI
  rw [plN, if_neg (by rw [hh]; decide)]

set_option maxRecDepth 100000 in
set_option maxHeartbeats 1000000 in
theorem specValues_any (b off len cap : Nat) (eh : Nat → E3) (kd pr : Int) (w : World) (hlen : len ≤ 1048576) (hb : b < w.heap.size) (hc : EvAt w b off len eh) :
    Calls Tryz.prog 89 #[.slice (some ⟨b, off, none⟩) len cap, .int .i64 kd, .int .i64 pr] w fun e w' => ∃ v, e = .returned v ∧ OwnI w' w.heap.size v (valL eh kd pr len) ∧ Below w.heap.size w w' := by
  have hl' : (len : Int) ≤ 1048576 := by omega
  have HC : Hid (EvAt w b off len eh) := hc
  clear hc
  go_enter Tryz.func89, Tryz.ntmps89
  go_wp2_with fail
  go_loopw [7, 8] (fun o i wr => ∃ k : Nat, k ≤ len ∧ i = .int .i64 k ∧ Hid (OwnI wr w.heap.size o (valL eh kd pr k)) ∧ Below w.heap.size w wr) (fun _ i _ => len - (intOf i).toNat)
  case atStart => exact ⟨0, Nat.zero_le _, rfl, own_empty w, (Below.refl _ _).alloc (Nat.le_refl _) _⟩
  case round =>
    obtain ⟨k, hk, rfl, HO, hbw⟩ := hrel
    have hs := hbw.size
    by_cases hlt : k < len
    · have hlt' : (k : Int) < (len : Int) := by omega
      have hvl := valL_le eh kd pr k
      obtain ⟨c0, c1, c2⟩ := HC.out.below hbw hb k hlt
      rcases Bool.eq_false_or_eq_true ((eh k).k == kd) with t1 | t1
      · rcases Bool.eq_false_or_eq_true ((eh k).q == pr) with t2 | t2
        · have HH : Hid (valL eh kd pr (k + 1) = valL eh kd pr k ++ [(eh k).v]) := valL_hit (by
            unfold hitB
            rw [t1, t2]
            rfl)
          go_wp2_with (at_builtin; refine append_one wr rfl _ _ rfl w.heap.size u7 (valL eh kd pr k) rfl HO.out (eh k).v rfl (by omega) hs ?_; intro v' w4 o4 b4; have H4 : Hid (OwnI w4 w.heap.size v' (valL eh kd pr (k + 1))) := o4.to HH.out; clear o4)
          go_roundw
          case rel => exact ⟨k + 1, by omega, by go_num, H4.out, hbw.trans b4⟩
          case measure => simp [intOf]; omega
        · have HH : Hid (valL eh kd pr (k + 1) = valL eh kd pr k) := valL_not (by
            unfold hitB
            rw [t1, t2]
            rfl)
          go_wp2
          go_roundw
          case rel => exact ⟨k + 1, by omega, by go_num, HO.out.to HH.out, hbw⟩
          case measure => simp [intOf]; omega
      · have HH : Hid (valL eh kd pr (k + 1) = valL eh kd pr k) := valL_not (by
          unfold hitB
          rw [t1]
          rfl)
        go_wp2
        go_roundw
        case rel => exact ⟨k + 1, by omega, by go_num, HO.out.to HH.out, hbw⟩
        case measure => simp [intOf]; omega
    · have hkl : k = len := by omega
      have H4 : Hid (OwnI wr w.heap.size u7 (valL eh kd pr len)) := by
        have := HO.out
        rw [hkl] at this
        exact this
      clear HO hkl
      go_wp2
      go_ret
      exact ⟨_, rfl, H4.out, hbw⟩

set_option maxRecDepth 100000 in
set_option maxHeartbeats 1000000 in
theorem placesOf_any (b off len cap : Nat) (eh : Nat → E3) (kd pr : Int) (w : World) (hlen : len ≤ 1048576) (hb : b < w.heap.size) (hc : EvAt w b off len eh) :
    Calls Tryz.prog 252 #[.slice (some ⟨b, off, none⟩) len cap, .int .i64 kd, .int .i64 pr] w fun e w' => ∃ v, e = .returned v ∧ OwnI w' w.heap.size v (plI eh kd pr len) ∧ Below w.heap.size w w' := by
  have hl' : (len : Int) ≤ 1048576 := by omega
  have HC : Hid (EvAt w b off len eh) := hc
  clear hc
  go_enter Tryz.func252, Tryz.ntmps252
  go_wp2_with fail
  go_loopw [7, 13] (fun o i wr => ∃ k : Nat, k ≤ len ∧ i = .int .i64 k ∧ Hid (OwnI wr w.heap.size o (plI eh kd pr k)) ∧ Below w.heap.size w wr) (fun _ i _ => len - (intOf i).toNat)
  case atStart => exact ⟨0, Nat.zero_le _, rfl, own_empty w, (Below.refl _ _).alloc (Nat.le_refl _) _⟩
  case round =>
    obtain ⟨k, hk, rfl, HO, hbw⟩ := hrel
    have hs := hbw.size
    by_cases hlt : k < len
    · have hlt' : (k : Int) < (len : Int) := by omega
      have hvl := plI_le eh kd pr k
      obtain ⟨c0, c1, c2⟩ := HC.out.below hbw hb k hlt
      rcases Bool.eq_false_or_eq_true ((eh k).k == kd) with t1 | t1
      · rcases Bool.eq_false_or_eq_true ((eh k).q == pr) with t2 | t2
        · have HH : Hid (plI eh kd pr (k + 1) = plI eh kd pr k ++ [(k : Int)]) := plI_hit (by
            unfold hitB
            rw [t1, t2]
            rfl)
          go_wp2_with (at_builtin; refine append_oneN _ (N := wr.heap.size + 1) (by simp) rfl _ _ rfl w.heap.size u7 (plI eh kd pr k) rfl (HO.out.below (by go_grown)) k rfl (by omega) (by simp; omega) ?_; intro v' w4 o4 b4; have H4 : Hid (OwnI w4 w.heap.size v' (plI eh kd pr (k + 1))) := o4.to HH.out; clear o4)
          go_roundw
          case rel => exact ⟨k + 1, by omega, by go_num, H4.out, Below.trans (by go_grown) b4⟩
          case measure => simp [intOf]; omega
        · have HH : Hid (plI eh kd pr (k + 1) = plI eh kd pr k) := plI_not (by
            unfold hitB
            rw [t1, t2]
            rfl)
          go_wp2
          go_roundw
          case rel => exact ⟨k + 1, by omega, by go_num, (HO.out.below (by go_grown)).to HH.out, by go_grown⟩
          case measure => simp [intOf]; omega
      · have HH : Hid (plI eh kd pr (k + 1) = plI eh kd pr k) := plI_not (by
          unfold hitB
          rw [t1]
          rfl)
        go_wp2
        go_roundw
        case rel => exact ⟨k + 1, by omega, by go_num, (HO.out.below (by go_grown)).to HH.out, by go_grown⟩
        case measure => simp [intOf]; omega
    · have hkl : k = len := by omega
      have H4 : Hid (OwnI wr w.heap.size u7 (plI eh kd pr len)) := by
        have := HO.out
        rw [hkl] at this
        exact this
      clear HO hkl
      go_wp2
      go_ret
      exact ⟨_, rfl, H4.out, hbw⟩

end Go.Proofs.YtdfhpimdgfemjaaGreatDoor
