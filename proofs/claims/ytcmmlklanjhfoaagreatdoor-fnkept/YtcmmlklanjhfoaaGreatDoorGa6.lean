/- The walks of the laws' own helpers over states and events. -/
import Derived.Test.YtcmmlklanjhfoaaGreatDoorGa1
import Derived.Maps.AppendAt
import Derived.Maps.Range
import Derived.Deep.Onto
import Derived.Deep.Slices
import Derived.Deep.RegionWith
import Derived.Deep.QuietTactic
import Derived.BigQuiet
namespace Go.Proofs.YtcmmlklanjhfoaaGreatDoor
open Go.RowKit

def zi (xs : List Int) (i : Nat) : Int := xs.getD i 0

/-- The ints xs lie where a0 points. -/
def Sl (w : World) (a0 : Option Addr) (xs : List Int) : Prop :=
  xs = [] ∨ ∃ b off, a0 = some ⟨b, off, none⟩ ∧ b < w.heap.size ∧ ∀ i, i < xs.length → w.cell? ⟨b, off + i, none⟩ = some (.int .i64 (zi xs i))

theorem Sl.below {w w' : World} {a0 : Option Addr} {xs : List Int} (h : Sl w a0 xs) (hb : Below w.heap.size w w') : Sl w' a0 xs := by
  rcases h with h | ⟨b, off, e, hlt, hc⟩
  · exact .inl h
  · exact .inr ⟨b, off, e, Nat.lt_of_lt_of_le hlt hb.size, fun i hi => (hb.cell (p := ⟨b, off + i, none⟩) hlt).trans (hc i hi)⟩

/-- Where there is an int there is a place. -/
theorem Sl.at {w : World} {a0 : Option Addr} {xs : List Int} (h : Sl w a0 xs) {k : Nat} (hk : k < xs.length) : ∃ b off, a0 = some ⟨b, off, none⟩ ∧ b < w.heap.size ∧ w.cell? ⟨b, off + k, none⟩ = some (.int .i64 (zi xs k)) := by
  rcases h with rfl | ⟨b, off, e, hlt, hc⟩
  · simp at hk
  · exact ⟨b, off, e, hlt, hc k hk⟩

/-- The slice v is the ints xs, in a block of its own from B on. -/
def OwnI (w : World) (B : Nat) (v : Value) (xs : List Int) : Prop := w.ownsRow B 3 1 v xs.length (xs.map (Value.int .i64))

theorem OwnI.mono {w : World} {B B' : Nat} {v : Value} {xs : List Int} (h : OwnI w B v xs) (hb : B' ≤ B) : OwnI w B' v xs := World.ownsRow.mono h hb
theorem OwnI.kept {w w' : World} {B : Nat} {v : Value} {xs : List Int} {row : Option Nat} (h : OwnI w B v xs) (hg : w.grownBy w' row) (hne : v.ownBlock = none ∨ v.ownBlock ≠ row) : OwnI w' B v xs := World.ownsRow.kept h hg hne
theorem OwnI.lt {w : World} {B : Nat} {v : Value} {xs : List Int} (h : OwnI w B v xs) : ∀ k, v.ownBlock = some k → B ≤ k ∧ k < w.heap.size := World.ownsRow.lt h
theorem grown_of_below {w w' : World} (h : Below w.heap.size w w') : w.grownBy w' none := ⟨h.os, h.tape, h.output, h.size, fun k hk _ => h.block k hk⟩
theorem below_of_grown {w w' : World} (h : w.grownBy w' none) : Below w.heap.size w w' := ⟨h.os, h.tape, h.output, h.size, fun k hk => h.block k hk (by simp)⟩
theorem OwnI.below {w w' : World} {B : Nat} {v : Value} {xs : List Int} (h : OwnI w B v xs) (hb : Below w.heap.size w w') : OwnI w' B v xs := by
  refine h.kept (grown_of_below hb) ?_
  cases hv : v.ownBlock with
  | none => exact .inl rfl
  | some k => exact .inr (by simp)

theorem below_drewN {B : Nat} {w w' : World} (h : Below B w w') (n : Nat) : Below B w (w'.drewN n) := ⟨h.os, h.tape, h.output, h.size, h.block⟩

theorem getD_map_int (xs : List Int) (j : Nat) (hj : j < xs.length) : (xs.map (Value.int .i64))[j]? = some (.int .i64 (zi xs j)) := by
  unfold zi
  rw [List.getElem?_map, List.getElem?_eq_getElem hj, List.getD_eq_getElem?_getD, List.getElem?_eq_getElem hj]; rfl

/-- What is owned is a slice of that length, and can be read. -/
theorem OwnI.form {w : World} {B : Nat} {v : Value} {xs : List Int} (h : OwnI w B v xs) : ∃ a0 cap, v = .slice a0 xs.length cap ∧ Sl w a0 xs := by
  rcases h.2 with ⟨rfl, h0⟩ | ⟨g, cap, cur, rfl, hb, _⟩
  · exact ⟨none, 0, by rw [h0], .inl (List.eq_nil_of_length_eq_zero h0)⟩
  · refine ⟨_, cap, rfl, .inr ⟨g, 0, rfl, (h.lt g rfl).2, fun i hi => ?_⟩⟩
    rw [Nat.zero_add, World.ownsRow.cellAt h i (by omega)]
    exact getD_map_int xs i hi

/-- Where there is an int it lies in a block of its own. -/
theorem OwnI.block {w : World} {B : Nat} {v : Value} {xs : List Int} (h : OwnI w B v xs) (hn : 0 < xs.length) : ∃ g cap, v = .slice (some ⟨g, 0, none⟩) xs.length cap ∧ B ≤ g ∧ g < w.heap.size := by
  rcases h.2 with ⟨_, h0⟩ | ⟨g, cap, cur, rfl, hb, _⟩
  · omega
  · exact ⟨g, cap, rfl, hb, (h.lt g rfl).2⟩
theorem OwnI.cell {w : World} {B g cap : Nat} {xs : List Int} (h : OwnI w B (.slice (some ⟨g, 0, none⟩) xs.length cap) xs) {j : Nat} (hj : j < xs.length) : w.cell? ⟨g, j, none⟩ = some (.int .i64 (zi xs j)) := by
  rw [World.ownsRow.cellAt h j (by omega)]
  exact getD_map_int xs j hj
theorem OwnI.frozen {w : World} {B g cap : Nat} {xs : List Int} (h : OwnI w B (.slice (some ⟨g, 0, none⟩) xs.length cap) xs) (j : Nat) : w.frozen? ⟨g, j, none⟩ = false := World.ownsRow.frozenAt h j
theorem OwnI.set {w : World} {B g cap n : Nat} {xs : List Int} (h : OwnI w B (.slice (some ⟨g, 0, none⟩) n cap) xs) (hn : n = xs.length) (j : Nat) (x : Int) : OwnI (w.setCell ⟨g, j, none⟩ (.int .i64 x)) B (.slice (some ⟨g, 0, none⟩) n cap) (xs.set j x) ∧ w.grownBy (w.setCell ⟨g, j, none⟩ (.int .i64 x)) (some g) := by
  subst hn
  have := World.ownsRow.stored h j (.int .i64 x)
  unfold OwnI
  rw [List.length_set, List.map_set]
  exact this

theorem ext_getD {xs ys : List Int} (hl : xs.length = ys.length) (h : ∀ i, i < xs.length → zi xs i = zi ys i) : xs = ys := by
  apply List.ext_getElem hl
  intro i h1 h2
  have := h i h1
  unfold zi at this
  rwa [List.getD_eq_getElem?_getD, List.getD_eq_getElem?_getD, List.getElem?_eq_getElem h1, List.getElem?_eq_getElem h2, Option.getD_some, Option.getD_some] at this

theorem getD_set_self (xs : List Int) (j : Nat) (x : Int) (hj : j < xs.length) : zi (xs.set j x) j = x := by
  unfold zi
  rw [List.getD_eq_getElem?_getD, List.getElem?_set, if_pos rfl, if_pos hj]; rfl
theorem getD_set_ne (xs : List Int) (i j : Nat) (x : Int) (h : i ≠ j) : zi (xs.set j x) i = zi xs i := by
  unfold zi
  rw [List.getD_eq_getElem?_getD, List.getElem?_set, if_neg (fun e => h e.symm), List.getD_eq_getElem?_getD]

theorem infoInt : (Tryz.prog.info? 3).map (fun i => (i.zero, i.size, i.bytes)) = some (some (.int .i64 0), 1, 8) := by kernel_rfl

theorem run_make_int (n : Nat) (hn : n ≤ 1048576) (w : World) :
    (Instr.makeSlice 30 (.int .i64 (n : Int)) (.int .i64 (n : Int))).run Tryz.prog w = .ok (.slice (some ⟨w.heap.size, 0, none⟩) n n) (w.alloc (.cells (madeCells #[.int .i64 0] n) 3)) := by
  have hinfo := infoInt
  cases hi : Tryz.prog.info? 3 with
  | none => rw [hi] at hinfo; cases hinfo
  | some i =>
    rw [hi] at hinfo
    simp only [Option.map_some, Option.some.injEq, Prod.mk.injEq] at hinfo
    obtain ⟨hz, hs, hb⟩ := hinfo
    have h := run_make (P := Tryz.prog) w 30 3 i _ Tryz.underlying30 hi hz .i64 .i64 (n : Int) (n : Int) (by omega) (Int.le_refl _) (by rw [hb]; omega) (by omega)
    rw [hs] at h
    simpa [Value.cells] using h

theorem made_own (w : World) (n : Nat) (hn : n ≤ 1048576) : OwnI (w.alloc (.cells (madeCells #[.int .i64 0] n) 3)) w.heap.size (.slice (some ⟨w.heap.size, 0, none⟩) n n) (List.replicate n 0) := by
  have := World.ownsRow_lit (base := w.heap.size) (e := 3) (size := 1) w (madeCells #[.int .i64 0] n) n (Nat.le_refl _) (by unfold maxLen; omega) (by simp [size_madeCells])
  rw [toList_madeCells_one] at this
  unfold OwnI
  rw [List.length_replicate, List.map_replicate]
  exact this



abbrev stV (p : Int) (ra : Option Addr) (rn rc : Nat) (oa : Option Addr) (on oc : Nat) (code : Int) : Value := .agg #[.int .i64 p, .slice ra rn rc, .slice oa on oc, .int .i64 code]


end Go.Proofs.YtcmmlklanjhfoaaGreatDoor

namespace Go.Proofs.YtcmmlklanjhfoaaGreatDoor
open Go.RowKit

abbrev evV (k p v : Int) : Value := .agg #[.int .i64 k, .int .i64 p, .int .i64 v]

theorem bcell {W w1 : World} (hb : Below W.heap.size W w1) : (∀ b o, b < W.heap.size → w1.cell? ⟨b, o, none⟩ = W.cell? ⟨b, o, none⟩) ∧ (∀ b o, b < W.heap.size → w1.frozen? ⟨b, o, none⟩ = W.frozen? ⟨b, o, none⟩) :=
  ⟨fun b o h => hb.cell (p := ⟨b, o, none⟩) h, fun b o h => hb.frozen (p := ⟨b, o, none⟩) h⟩

theorem OwnI.setBelow {w : World} {B : Nat} {v : Value} {xs : List Int} (h : OwnI w B v xs) {a : Addr} (ha : a.block < B) (u : Value) : OwnI (w.setCell a u) B v xs := ownsRow_setCell_below h ha u

/-- The value v is a state of its own, its two lists apart. -/
def StOwn (w : World) (B : Nat) (v : Value) (p : Int) (rs os : List Int) (code : Int) : Prop :=
  ∃ vr vo, v = .agg #[.int .i64 p, vr, vo, .int .i64 code] ∧ OwnI w B vr rs ∧ OwnI w B vo os ∧ ∀ k, vr.ownBlock = some k → vo.ownBlock ≠ some k

theorem StOwn.below {w w' : World} {B : Nat} {v : Value} {p code : Int} {rs os : List Int} (h : StOwn w B v p rs os code) (hb : Below w.heap.size w w') : StOwn w' B v p rs os code := by
  obtain ⟨vr, vo, e, h1, h2, h3⟩ := h
  exact ⟨vr, vo, e, h1.below hb, h2.below hb, h3⟩
theorem StOwn.mono {w : World} {B B' : Nat} {v : Value} {p code : Int} {rs os : List Int} (h : StOwn w B v p rs os code) (hb : B' ≤ B) : StOwn w B' v p rs os code := by
  obtain ⟨vr, vo, e, h1, h2, h3⟩ := h
  exact ⟨vr, vo, e, h1.mono hb, h2.mono hb, h3⟩
theorem StOwn.read {w : World} {B : Nat} {v : Value} {p code : Int} {rs os : List Int} (h : StOwn w B v p rs os code) : ∃ ra rc oa oc, v = stV p ra rs.length rc oa os.length oc code ∧ Sl w ra rs ∧ Sl w oa os := by
  obtain ⟨vr, vo, rfl, h1, h2, _⟩ := h
  obtain ⟨ra, rc, rfl, s1⟩ := h1.form
  obtain ⟨oa, oc, rfl, s2⟩ := h2.form
  exact ⟨ra, rc, oa, oc, rfl, s1, s2⟩

theorem below_up {w w0 w1 : World} {B : Nat} (h : Below B w w0) (h1 : Below w0.heap.size w0 w1) (hB : B ≤ w0.heap.size) : Below B w w1 := h.trans (h1.mono hB)




end Go.Proofs.YtcmmlklanjhfoaaGreatDoor
