/- Lists of states: the walks of the laws' own helpers on them. -/
import Derived.Test.YtcmmlklanjhfoaaGreatDoorGa17
import Derived.Test.YtcmmlklanjhfoaaGreatDoorGa12
namespace Go.Proofs.YtcmmlklanjhfoaaGreatDoor
open Go.ChangeShapes Go.WideShapes Go.ChangeAt Go.RowKit Go.Deep

/-- How many there are in the first n lists. -/
def sumL (ls : Nat → Nat) : Nat → Nat
  | 0 => 0
  | n + 1 => sumL ls n + ls n
theorem sumL_mono (ls : Nat → Nat) {k n : Nat} (h : k ≤ n) : sumL ls k ≤ sumL ls n := by
  induction n with
  | zero =>
    have : k = 0 := by omega
    subst this
    exact Nat.le_refl _
  | succ n ih =>
    by_cases hk : k = n + 1
    · subst hk
      exact Nat.le_refl _
    · have := ih (by omega)
      show sumL ls k ≤ sumL ls n + ls n
      omega
theorem sumL_at (ls : Nat → Nat) {k n : Nat} (h : k < n) : sumL ls k + ls k ≤ sumL ls n := sumL_mono ls (k := k + 1) h

/-- The values f lie in a row where a0 points, unless there are none. -/
def RowS (w : World) (a0 : Option Addr) (n : Nat) (f : Nat → Value) : Prop :=
  n = 0 ∨ ∃ b off, a0 = some ⟨b, off, none⟩ ∧ b < w.heap.size ∧ ∀ i, i < n → w.cell? ⟨b, off + i, none⟩ = some (f i)
theorem RowS.below {w w' : World} {a0 : Option Addr} {n : Nat} {f : Nat → Value} (h : RowS w a0 n f) (hb : Below w.heap.size w w') : RowS w' a0 n f := by
  rcases h with h | ⟨b, off, e, hlt, hc⟩
  · exact .inl h
  · exact .inr ⟨b, off, e, Nat.lt_of_lt_of_le hlt hb.size, fun i hi => (hb.cell (p := ⟨b, off + i, none⟩) hlt).trans (hc i hi)⟩
theorem RowS.at {w : World} {a0 : Option Addr} {n : Nat} {f : Nat → Value} (h : RowS w a0 n f) {k : Nat} (hk : k < n) : ∃ b off, a0 = some ⟨b, off, none⟩ ∧ w.cell? ⟨b, off + k, none⟩ = some (f k) := by
  rcases h with rfl | ⟨b, off, e, -, hc⟩
  · omega
  · exact ⟨b, off, e, hc k hk⟩

/-- Of the blocks that there were just those of P may have turned. -/
structure Touch (P : Nat → Prop) (w w' : World) : Prop where
  os : w'.os = w.os
  tape : w'.tape = w.tape
  output : w'.output = w.output
  size : w.heap.size ≤ w'.heap.size
  block : ∀ k, k < w.heap.size → ¬ P k → w'.heap[k]? = w.heap[k]?
theorem Touch.refl (P : Nat → Prop) (w : World) : Touch P w w := ⟨rfl, rfl, rfl, Nat.le_refl _, fun _ _ _ => rfl⟩
theorem Touch.trans {P : Nat → Prop} {a b c : World} (h : Touch P a b) (k : Touch P b c) : Touch P a c :=
  ⟨k.os.trans h.os, k.tape.trans h.tape, k.output.trans h.output, Nat.le_trans h.size k.size, fun i hi hn => (k.block i (Nat.lt_of_lt_of_le hi h.size) hn).trans (h.block i hi hn)⟩
theorem Touch.mono {P Q : Nat → Prop} {w w' : World} (h : Touch P w w') (hq : ∀ k, P k → Q k) : Touch Q w w' :=
  ⟨h.os, h.tape, h.output, h.size, fun k hk hn => h.block k hk fun hp => hn (hq k hp)⟩
theorem Touch.of_grown {P : Nat → Prop} {w w' : World} {row : Option Nat} (h : w.grownBy w' row) (hp : ∀ k, row = some k → P k) : Touch P w w' :=
  ⟨h.os, h.tape, h.output, h.size, fun k hk hn => h.block k hk fun e => hn (hp k e.symm)⟩
theorem Touch.of_below {P : Nat → Prop} {w w' : World} (h : Below w.heap.size w w') : Touch P w w' :=
  ⟨h.os, h.tape, h.output, h.size, fun k hk _ => h.block k hk⟩
theorem Touch.of_set {P : Nat → Prop} (w : World) {a : Addr} (ha : P a.block) (u : Value) : Touch P w (w.setCell a u) :=
  ⟨rfl, rfl, rfl, by simp [World.setCell], fun k _ hn => Below.heap_setCell _ _ _ _ fun e => hn (e ▸ ha)⟩
theorem Touch.below {P : Nat → Prop} {w w' : World} {B : Nat} (h : Touch P w w') (hB : B ≤ w.heap.size) (hp : ∀ k, P k → B ≤ k) : Below B w w' :=
  ⟨h.os, h.tape, h.output, h.size, fun k hk => h.block k (by omega) fun e => by have := hp k e; omega⟩
theorem Touch.cell {P : Nat → Prop} {w w' : World} (h : Touch P w w') {b : Nat} (hb : b < w.heap.size) (hp : ¬ P b) (j : Nat) : w'.cell? ⟨b, j, none⟩ = w.cell? ⟨b, j, none⟩ := World.cell?_of_block (h.block b hb hp)
theorem Touch.frozen {P : Nat → Prop} {w w' : World} (h : Touch P w w') {b : Nat} (hb : b < w.heap.size) (hp : ¬ P b) (j : Nat) : w'.frozen? ⟨b, j, none⟩ = w.frozen? ⟨b, j, none⟩ := World.frozen?_of_block (h.block b hb hp)

/-- A row of slices that came in: each of its parts as its type says. -/
theorem open_rows {H : Type} {enc : TypeId × Value → H} {w : World} {spare : Nat → Bool} {held : Bool} {base : Nat} {a0 : Option Addr} {len cap : Nat} {d : DataW H} {p : List MemPlace} {t el : TypeId} (hu : Tryz.prog.underlying t = some (.slice el)) (h1 : Tryz.prog.cellsOf el = 1)
    (h : DataW.Trod enc Tryz.prog w base spare held t (.slice a0 len cap) d p) :
    len ≤ maxLen ∧ ∃ f : Nat → Value, RowS w a0 len f ∧ ∀ i, i < len → ∃ m x, DataW.trod enc Tryz.prog w base spare held m el [f i] = some x := by
  obtain ⟨fuel, hf⟩ := h
  rcases Go.Deep.open_slice hu hf with ⟨hcs, _⟩ | ⟨a, len', cap', m, n, D, Pl, hcs, _, hl, hm, hmm, _, hx⟩
  · simp [Value.cells] at hcs
    obtain ⟨_, rfl, _⟩ := hcs
    exact ⟨Nat.zero_le _, fun _ => .int .i64 0, .inl rfl, fun i hi => by omega⟩
  · simp [Value.cells] at hcs
    obtain ⟨rfl, rfl, rfl⟩ := hcs
    refine ⟨Nat.le_trans hl hm, ?_⟩
    have hle : len ≤ m := by rw [hmm]; split <;> omega
    rw [h1] at hx
    obtain ⟨b, off, spot⟩ := a
    have hcell : ∀ i, i < len → ∃ c : Value, w.cell? (Addr.add (Addr.add ⟨b, off, spot⟩ (i * 1)) 0) = some c ∧ ∃ m x, DataW.trod enc Tryz.prog w base spare held m el [c] = some x := by
      intro i hi
      obtain ⟨cs', h1, h2⟩ := hx i (by omega)
      obtain ⟨_, hlen, hc⟩ := World.cells?_some h1
      match cs', hlen with
      | [c0], _ => exact ⟨c0, hc 0 (by omega), _, _, h2⟩
    have inh : Inhabited Value := ⟨.int .i64 0⟩
    obtain ⟨g, hg⟩ := Go.Deep.choose_lt (α := Value) hcell
    refine ⟨g, ?_, fun i hi => (hg i hi).2⟩
    by_cases h0 : len = 0
    · exact .inl h0
    have hspot : spot = none := by
      have hx0 := (hg 0 (by omega)).1
      simpa [Addr.add] using World.cell?_spot hx0
    subst hspot
    have hI : ∀ i, i < len → w.cell? ⟨b, off + i, none⟩ = some (g i) := by
      intro i hi
      have q0 := (hg i hi).1
      rw [addr_addO, addr_addO, Nat.mul_one] at q0
      exact q0
    exact .inr ⟨b, off, rfl, cell_lt (hI 0 (by omega)), hI⟩

end Go.Proofs.YtcmmlklanjhfoaaGreatDoor

namespace Go.Proofs.YtcmmlklanjhfoaaGreatDoor
open Go.ChangeShapes Go.WideShapes Go.ChangeAt Go.RowKit Go.Deep

/-- A state that came in, with where its lists lie. -/
structure St8 where
  p : Int
  ra : Option Addr
  rc : Nat
  rs : List Int
  oa : Option Addr
  oc : Nat
  os : List Int
  c : Int
def St8.s (x : St8) : S4 := ⟨x.p, x.rs, x.os, x.c⟩
def lenS (S : Nat → S4) (i : Nat) : Nat := (S i).rs.length + (S i).os.length

/-- States that came in. -/
structure AllState (W : World) (a0 : Option Addr) (n : Nat) (q : Nat → St8) : Prop where
  row : n = 0 ∨ ∃ b off, a0 = some ⟨b, off, none⟩ ∧ b < W.heap.size ∧ ∀ i, i < n → W.cell? ⟨b, off + i * 4, none⟩ = some (.int .i64 (q i).p) ∧ W.cell? ⟨b, off + i * 4 + 1, none⟩ = some (.slice (q i).ra (q i).rs.length (q i).rc) ∧ W.cell? ⟨b, off + i * 4 + 2, none⟩ = some (.slice (q i).oa (q i).os.length (q i).oc) ∧ W.cell? ⟨b, off + i * 4 + 3, none⟩ = some (.int .i64 (q i).c)
  lst : ∀ i, i < n → Sl W (q i).ra (q i).rs ∧ Sl W (q i).oa (q i).os
theorem AllState.below {w w' : World} {a0 : Option Addr} {n : Nat} {q : Nat → St8} (h : AllState w a0 n q) (hb : Below w.heap.size w w') : AllState w' a0 n q := by
  refine ⟨?_, fun i hi => ⟨(h.lst i hi).1.below hb, (h.lst i hi).2.below hb⟩⟩
  rcases h.row with h | ⟨b, off, e, hlt, hc⟩
  · exact .inl h
  · exact .inr ⟨b, off, e, Nat.lt_of_lt_of_le hlt hb.size, fun i hi => by
      obtain ⟨h0, h1, h2, h3⟩ := hc i hi
      exact ⟨(hb.cell hlt).trans h0, (hb.cell hlt).trans h1, (hb.cell hlt).trans h2, (hb.cell hlt).trans h3⟩⟩
theorem AllState.at {w : World} {a0 : Option Addr} {n : Nat} {q : Nat → St8} (h : AllState w a0 n q) {k : Nat} (hk : k < n) : ∃ b off, a0 = some ⟨b, off, none⟩ ∧ w.cell? ⟨b, off + k * 4, none⟩ = some (.int .i64 (q k).p) ∧ w.cell? ⟨b, off + k * 4 + 1, none⟩ = some (.slice (q k).ra (q k).rs.length (q k).rc) ∧ w.cell? ⟨b, off + k * 4 + 2, none⟩ = some (.slice (q k).oa (q k).os.length (q k).oc) ∧ w.cell? ⟨b, off + k * 4 + 3, none⟩ = some (.int .i64 (q k).c) := by
  rcases h.row with rfl | ⟨b, off, e, -, hc⟩
  · omega
  · exact ⟨b, off, e, hc k hk⟩

end Go.Proofs.YtcmmlklanjhfoaaGreatDoor
