/- Rows of items in memory; the walks of the laws' own helpers on them. -/
import Derived.Test.YtcmmlklanjhfoaaGreatDoorGa15
import Derived.Test.YtcmmlklanjhfoaaGreatDoorGa16
namespace Go.Proofs.YtcmmlklanjhfoaaGreatDoor
open Go.ChangeShapes Go.WideShapes Go.ChangeAt Go.RowKit Go.Deep

structure E3 where
  k : Int
  q : Int
  v : Int

/-- From cell off of block b on there lie len events, the i-th being h i. -/
def EvAt (w : World) (b off len : Nat) (h : Nat → E3) : Prop := ∀ i, i < len →
  w.cell? ⟨b, off + i * 3, none⟩ = some (.int .i64 (h i).k) ∧ w.cell? ⟨b, off + i * 3 + 1, none⟩ = some (.int .i64 (h i).q) ∧ w.cell? ⟨b, off + i * 3 + 2, none⟩ = some (.int .i64 (h i).v)

theorem EvAt.below {w w' : World} {B b off len : Nat} {h : Nat → E3} (hh : EvAt w b off len h) (hb : Below B w w') (hB : b < B) : EvAt w' b off len h := by
  intro i hi
  obtain ⟨h0, h1, h2⟩ := hh i hi
  exact ⟨(hb.cell hB).trans h0, (hb.cell hB).trans h1, (hb.cell hB).trans h2⟩

theorem infoEv : (Tryz.prog.info? 62).map (fun i => (i.zero, i.size, i.bytes)) = some (some (evV 0 0 0), 3, 24) := by kernel_rfl

theorem run_make_ev (n : Nat) (hn : n ≤ 1048576) (w : World) :
    (Instr.makeSlice 25 (.int .i64 (n : Int)) (.int .i64 (n : Int))).run Tryz.prog w = .ok (.slice (some ⟨w.heap.size, 0, none⟩) n n) (w.alloc (.cells (madeCells (evV 0 0 0).cells (n * 3)) 62)) := by
  have hinfo := infoEv
  cases hi : Tryz.prog.info? 62 with
  | none => rw [hi] at hinfo; cases hinfo
  | some i =>
    rw [hi] at hinfo
    simp only [Option.map_some, Option.some.injEq, Prod.mk.injEq] at hinfo
    obtain ⟨hz, hs, hb⟩ := hinfo
    have h := run_make (P := Tryz.prog) w 25 62 i _ Tryz.underlying25 hi hz .i64 .i64 (n : Int) (n : Int) (by omega) (Int.le_refl _) (by rw [hb]; omega) (by omega)
    rw [hs] at h
    simpa using h

theorem madeEv_row (w : World) (n : Nat) : (w.alloc (.cells (madeCells (evV 0 0 0).cells (n * 3)) 62)).rowIs w.heap.size 62 (n * 3) (fun _ => .int .i64 0) := by
  refine ⟨_, blk_alloc_new _ _, size_madeCells _ _, fun i hi => ?_⟩
  have h3 : i % 3 < 3 := Nat.mod_lt _ (by omega)
  have : ∀ j, j < 3 → (#[Value.int .i64 0, .int .i64 0, .int .i64 0] : Array Value)[j]! = .int .i64 0 := by
    intro j hj
    match j, hj with
    | 0, _ => rfl
    | 1, _ => rfl
    | 2, _ => rfl
  simp only [madeCells, Value.cells]
  rw [Array.getElem?_map, Array.getElem?_range, if_pos hi]
  exact congrArg some (this (i % 3) h3)

/-- The first k events of a row that is being filled. -/
def FilledE (f : Nat → Value) (h : Nat → E3) (k : Nat) : Prop := ∀ i, i < k →
  f (i * 3) = .int .i64 (h i).k ∧ f (i * 3 + 1) = .int .i64 (h i).q ∧ f (i * 3 + 2) = .int .i64 (h i).v

theorem FilledE.at {w : World} {b : Nat} {t : TypeId} {len k : Nat} {f : Nat → Value} {h : Nat → E3} (hh : FilledE f h k) (hr : w.rowIs b t (len * 3) f) (hk : k ≤ len) : EvAt w b 0 k h := by
  intro i hi
  obtain ⟨h0, h1, h2⟩ := hh i hi
  refine ⟨?_, ?_, ?_⟩
  · rw [hr.cell (by omega), Nat.zero_add, h0]
  · rw [hr.cell (by omega), Nat.zero_add, h1]
  · rw [hr.cell (by omega), Nat.zero_add, h2]

theorem FilledE.step {w : World} {b : Nat} {t : TypeId} {len k : Nat} {f : Nat → Value} {h : Nat → E3} (hr : w.rowIs b t (len * 3) f) (hh : FilledE f h k) :
    ∃ f', (((w.setCell ⟨b, k * 3, none⟩ (.int .i64 (h k).k)).setCell ⟨b, k * 3 + 1, none⟩ (.int .i64 (h k).q)).setCell ⟨b, k * 3 + 2, none⟩ (.int .i64 (h k).v)).rowIs b t (len * 3) f' ∧ FilledE f' h (k + 1) := by
  refine ⟨_, ((hr.set _ _).set _ _).set _ _, fun i hi => ?_⟩
  by_cases hik : i = k
  · subst hik
    simp
  · have hlt : i < k := by omega
    obtain ⟨h0, h1, h2⟩ := hh i hlt
    refine ⟨?_, ?_, ?_⟩
    · rw [if_neg (by omega), if_neg (by omega), if_neg (by omega)]; exact h0
    · rw [if_neg (by omega), if_neg (by omega), if_neg (by omega)]; exact h1
    · rw [if_neg (by omega), if_neg (by omega), if_neg (by omega)]; exact h2

end Go.Proofs.YtcmmlklanjhfoaaGreatDoor

namespace Go.Proofs.YtcmmlklanjhfoaaGreatDoor
open Go.ChangeShapes Go.WideShapes Go.ChangeAt Go.RowKit Go.Deep

structure I2 where
  m : Bool
  v : Int
abbrev itV (m : Bool) (v : Int) : Value := .agg #[.bool m, .int .i64 v]

/-- From cell off of block b on there lie len items, the i-th being h i. -/
def ItAt (w : World) (b off len : Nat) (h : Nat → I2) : Prop := ∀ i, i < len →
  w.cell? ⟨b, off + i * 2, none⟩ = some (.bool (h i).m) ∧ w.cell? ⟨b, off + i * 2 + 1, none⟩ = some (.int .i64 (h i).v)

theorem ItAt.below {w w' : World} {B b off len : Nat} {h : Nat → I2} (hh : ItAt w b off len h) (hb : Below B w w') (hB : b < B) : ItAt w' b off len h := by
  intro i hi
  obtain ⟨h0, h1⟩ := hh i hi
  exact ⟨(hb.cell hB).trans h0, (hb.cell hB).trans h1⟩

/-- The first k items of a row that is being filled. -/
def FilledT (f : Nat → Value) (h : Nat → I2) (k : Nat) : Prop := ∀ i, i < k →
  f (i * 2) = .bool (h i).m ∧ f (i * 2 + 1) = .int .i64 (h i).v

theorem FilledT.at {w : World} {b : Nat} {t : TypeId} {len k : Nat} {f : Nat → Value} {h : Nat → I2} (hh : FilledT f h k) (hr : w.rowIs b t (len * 2) f) (hk : k ≤ len) : ItAt w b 0 k h := by
  intro i hi
  obtain ⟨h0, h1⟩ := hh i hi
  refine ⟨?_, ?_⟩
  · rw [hr.cell (by omega), Nat.zero_add, h0]
  · rw [hr.cell (by omega), Nat.zero_add, h1]

theorem FilledT.step {w : World} {b : Nat} {t : TypeId} {len k : Nat} {f : Nat → Value} {h : Nat → I2} (hr : w.rowIs b t (len * 2) f) (hh : FilledT f h k) :
    ∃ f', ((w.setCell ⟨b, k * 2, none⟩ (.bool (h k).m)).setCell ⟨b, k * 2 + 1, none⟩ (.int .i64 (h k).v)).rowIs b t (len * 2) f' ∧ FilledT f' h (k + 1) := by
  refine ⟨_, (hr.set _ _).set _ _, fun i hi => ?_⟩
  by_cases hik : i = k
  · subst hik
    simp
  · have hlt : i < k := by omega
    obtain ⟨h0, h1⟩ := hh i hlt
    refine ⟨?_, ?_⟩
    · rw [if_neg (by omega), if_neg (by omega)]; exact h0
    · rw [if_neg (by omega), if_neg (by omega)]; exact h1

/-- The cells of len items stand in a block, and may be written. -/
def RoomT (w : World) (b len : Nat) : Prop := (∀ i, i < len * 2 → ∃ u, w.cell? ⟨b, i, none⟩ = some u) ∧ ∀ j, w.frozen? ⟨b, j, none⟩ = false
theorem RoomT.set {w : World} {b len : Nat} (h : RoomT w b len) (p : Addr) (v : Value) : RoomT (w.setCell p v) b len :=
  ⟨fun i hi => (h.1 i hi).elim fun _ e => cell?_setCell_some e, fun j => by rw [World.frozen?_setCell]; exact h.2 j⟩
theorem RoomT.of_it {w : World} {b len : Nat} {h : Nat → I2} (hh : ItAt w b 0 len h) (hf : ∀ j, w.frozen? ⟨b, j, none⟩ = false) : RoomT w b len := by
  refine ⟨fun i hi => ?_, hf⟩
  obtain ⟨c0, c1⟩ := hh (i / 2) (by omega)
  simp only [Nat.zero_add] at c0 c1
  have he : i = i / 2 * 2 ∨ i = i / 2 * 2 + 1 := by omega
  rcases he with e | e
  · rw [e]; exact ⟨_, c0⟩
  · rw [e]; exact ⟨_, c1⟩

theorem cellsBool : Tryz.prog.cellsOf 4 = 1 := by kernel_rfl

end Go.Proofs.YtcmmlklanjhfoaaGreatDoor
