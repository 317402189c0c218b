/- Lists of events that may be nil. -/
import Derived.Test.YtkoghgnbolaooaaGreatRa19
import Derived.Test.YtkoghgnbolaooaaGreatRa10
import Derived.Test.YtkoghgnbolaooaaGreatRa1
import Derived.Maps.Range
import Derived.Deep.Onto
import Derived.Deep.Slices
import Derived.Deep.RegionWith
import Derived.Test.YtkoghgnbolaooaaGreatRa26
namespace Go.Proofs.YtkoghgnbolaooaaGreat
open Go.ChangeShapes Go.WideShapes Go.ChangeAt Go.RowKit Go.Deep

structure I2 where
  m : Bool
  v : Int
abbrev itV (m : Bool) (v : Int) : Value := .agg #[.bool m, .int .i64 v]

/-- From cell off of block b on there lie len items, the i-th being h i. -/
def ItAt (w : World) (b off len : Nat) (h : Nat → I2) : Prop := ∀ i, i < len →
  w.cell? ⟨b, off + i * 2, none⟩ = some (.bool (h i).m) ∧ w.cell? ⟨b, off + i * 2 + 1, none⟩ = some (.int .i64 (h i).v)

theorem ItAt.below {w w' : World} {B b off len : Nat} {h : Nat → I2} (hh : ItAt w b off len h) (hb : Below B w w') (hB : b < B) : ItAt w' b off len h := by
  intro i hi
  obtain ⟨h0, h1⟩ := hh i hi
  exact ⟨(hb.cell hB).trans h0, (hb.cell hB).trans h1⟩

/-- The first k items of a row that is being filled. -/
def FilledT (f : Nat → Value) (h : Nat → I2) (k : Nat) : Prop := ∀ i, i < k →
  f (i * 2) = .bool (h i).m ∧ f (i * 2 + 1) = .int .i64 (h i).v

theorem FilledT.at {w : World} {b : Nat} {t : TypeId} {len k : Nat} {f : Nat → Value} {h : Nat → I2} (hh : FilledT f h k) (hr : w.rowIs b t (len * 2) f) (hk : k ≤ len) : ItAt w b 0 k h := by
  intro i hi
  obtain ⟨h0, h1⟩ := hh i hi
  refine ⟨?_, ?_⟩
  · rw [hr.cell (by omega), Nat.zero_add, h0]
  · rw [hr.cell (by omega), Nat.zero_add, h1]

theorem FilledT.step {w : World} {b : Nat} {t : TypeId} {len k : Nat} {f : Nat → Value} {h : Nat → I2} (hr : w.rowIs b t (len * 2) f) (hh : FilledT f h k) :
    ∃ f', ((w.setCell ⟨b, k * 2, none⟩ (.bool (h k).m)).setCell ⟨b, k * 2 + 1, none⟩ (.int .i64 (h k).v)).rowIs b t (len * 2) f' ∧ FilledT f' h (k + 1) := by
  refine ⟨_, (hr.set _ _).set _ _, fun i hi => ?_⟩
  by_cases hik : i = k
  · subst hik
    simp
  · have hlt : i < k := by omega
    obtain ⟨h0, h1⟩ := hh i hlt
    refine ⟨?_, ?_⟩
    · rw [if_neg (by omega), if_neg (by omega)]; exact h0
    · rw [if_neg (by omega), if_neg (by omega)]; exact h1

/-- The cells of len items stand in a block, and may be written. -/
def RoomT (w : World) (b len : Nat) : Prop := (∀ i, i < len * 2 → ∃ u, w.cell? ⟨b, i, none⟩ = some u) ∧ ∀ j, w.frozen? ⟨b, j, none⟩ = false
theorem RoomT.set {w : World} {b len : Nat} (h : RoomT w b len) (p : Addr) (v : Value) : RoomT (w.setCell p v) b len :=
  ⟨fun i hi => (h.1 i hi).elim fun _ e => cell?_setCell_some e, fun j => by rw [World.frozen?_setCell]; exact h.2 j⟩
theorem RoomT.of_it {w : World} {b len : Nat} {h : Nat → I2} (hh : ItAt w b 0 len h) (hf : ∀ j, w.frozen? ⟨b, j, none⟩ = false) : RoomT w b len := by
  refine ⟨fun i hi => ?_, hf⟩
  obtain ⟨c0, c1⟩ := hh (i / 2) (by omega)
  simp only [Nat.zero_add] at c0 c1
  have he : i = i / 2 * 2 ∨ i = i / 2 * 2 + 1 := by omega
  rcases he with e | e
  · rw [e]; exact ⟨_, c0⟩
  · rw [e]; exact ⟨_, c1⟩

theorem cellsBool : Tryz.prog.cellsOf 4 = 1 := by kernel_rfl

end Go.Proofs.YtkoghgnbolaooaaGreat

namespace Go.Proofs.YtkoghgnbolaooaaGreat
open Go.ChangeShapes Go.WideShapes Go.ChangeAt Go.RowKit Go.Deep

/-- How many there are in the first n lists. -/
def sumL (ls : Nat → Nat) : Nat → Nat
  | 0 => 0
  | n + 1 => sumL ls n + ls n
theorem sumL_mono (ls : Nat → Nat) {k n : Nat} (h : k ≤ n) : sumL ls k ≤ sumL ls n := by
  induction n with
  | zero =>
    have : k = 0 := by omega
    subst this
    exact Nat.le_refl _
  | succ n ih =>
    by_cases hk : k = n + 1
    · subst hk
      exact Nat.le_refl _
    · have := ih (by omega)
      show sumL ls k ≤ sumL ls n + ls n
      omega
theorem sumL_at (ls : Nat → Nat) {k n : Nat} (h : k < n) : sumL ls k + ls k ≤ sumL ls n := sumL_mono ls (k := k + 1) h

/-- The values f lie in a row where a0 points, unless there are none. -/
def RowS (w : World) (a0 : Option Addr) (n : Nat) (f : Nat → Value) : Prop :=
  n = 0 ∨ ∃ b off, a0 = some ⟨b, off, none⟩ ∧ b < w.heap.size ∧ ∀ i, i < n → w.cell? ⟨b, off + i, none⟩ = some (f i)
theorem RowS.below {w w' : World} {a0 : Option Addr} {n : Nat} {f : Nat → Value} (h : RowS w a0 n f) (hb : Below w.heap.size w w') : RowS w' a0 n f := by
  rcases h with h | ⟨b, off, e, hlt, hc⟩
  · exact .inl h
  · exact .inr ⟨b, off, e, Nat.lt_of_lt_of_le hlt hb.size, fun i hi => (hb.cell (p := ⟨b, off + i, none⟩) hlt).trans (hc i hi)⟩
theorem RowS.at {w : World} {a0 : Option Addr} {n : Nat} {f : Nat → Value} (h : RowS w a0 n f) {k : Nat} (hk : k < n) : ∃ b off, a0 = some ⟨b, off, none⟩ ∧ w.cell? ⟨b, off + k, none⟩ = some (f k) := by
  rcases h with rfl | ⟨b, off, e, -, hc⟩
  · omega
  · exact ⟨b, off, e, hc k hk⟩

/-- Of the blocks that there were just those of P may have turned. -/
structure Touch (P : Nat → Prop) (w w' : World) : Prop where
  os : w'.os = w.os
  tape : w'.tape = w.tape
  output : w'.output = w.output
  size : w.heap.size ≤ w'.heap.size
  block : ∀ k, k < w.heap.size → ¬ P k → w'.heap[k]? = w.heap[k]?
theorem Touch.refl (P : Nat → Prop) (w : World) : Touch P w w := ⟨rfl, rfl, rfl, Nat.le_refl _, fun _ _ _ => rfl⟩
theorem Touch.trans {P : Nat → Prop} {a b c : World} (h : Touch P a b) (k : Touch P b c) : Touch P a c :=
  ⟨k.os.trans h.os, k.tape.trans h.tape, k.output.trans h.output, Nat.le_trans h.size k.size, fun i hi hn => (k.block i (Nat.lt_of_lt_of_le hi h.size) hn).trans (h.block i hi hn)⟩
theorem Touch.mono {P Q : Nat → Prop} {w w' : World} (h : Touch P w w') (hq : ∀ k, P k → Q k) : Touch Q w w' :=
  ⟨h.os, h.tape, h.output, h.size, fun k hk hn => h.block k hk fun hp => hn (hq k hp)⟩
theorem Touch.of_grown {P : Nat → Prop} {w w' : World} {row : Option Nat} (h : w.grownBy w' row) (hp : ∀ k, row = some k → P k) : Touch P w w' :=
  ⟨h.os, h.tape, h.output, h.size, fun k hk hn => h.block k hk fun e => hn (hp k e.symm)⟩
theorem Touch.of_below {P : Nat → Prop} {w w' : World} (h : Below w.heap.size w w') : Touch P w w' :=
  ⟨h.os, h.tape, h.output, h.size, fun k hk _ => h.block k hk⟩
theorem Touch.of_set {P : Nat → Prop} (w : World) {a : Addr} (ha : P a.block) (u : Value) : Touch P w (w.setCell a u) :=
  ⟨rfl, rfl, rfl, by simp [World.setCell], fun k _ hn => Below.heap_setCell _ _ _ _ fun e => hn (e ▸ ha)⟩
theorem Touch.below {P : Nat → Prop} {w w' : World} {B : Nat} (h : Touch P w w') (hB : B ≤ w.heap.size) (hp : ∀ k, P k → B ≤ k) : Below B w w' :=
  ⟨h.os, h.tape, h.output, h.size, fun k hk => h.block k (by omega) fun e => by have := hp k e; omega⟩
theorem Touch.cell {P : Nat → Prop} {w w' : World} (h : Touch P w w') {b : Nat} (hb : b < w.heap.size) (hp : ¬ P b) (j : Nat) : w'.cell? ⟨b, j, none⟩ = w.cell? ⟨b, j, none⟩ := World.cell?_of_block (h.block b hb hp)
theorem Touch.frozen {P : Nat → Prop} {w w' : World} (h : Touch P w w') {b : Nat} (hb : b < w.heap.size) (hp : ¬ P b) (j : Nat) : w'.frozen? ⟨b, j, none⟩ = w.frozen? ⟨b, j, none⟩ := World.frozen?_of_block (h.block b hb hp)

/-- A row of slices that came in: each of its parts as its type says. -/
theorem open_rows {H : Type} {enc : TypeId × Value → H} {w : World} {spare : Nat → Bool} {held : Bool} {base : Nat} {a0 : Option Addr} {len cap : Nat} {d : DataW H} {p : List MemPlace} {t el : TypeId} (hu : Tryz.prog.underlying t = some (.slice el)) (h1 : Tryz.prog.cellsOf el = 1)
    (h : DataW.Trod enc Tryz.prog w base spare held t (.slice a0 len cap) d p) :
    len ≤ maxLen ∧ ∃ f : Nat → Value, RowS w a0 len f ∧ ∀ i, i < len → ∃ m x, DataW.trod enc Tryz.prog w base spare held m el [f i] = some x := by
  obtain ⟨fuel, hf⟩ := h
  rcases Go.Deep.open_slice hu hf with ⟨hcs, _⟩ | ⟨a, len', cap', m, n, D, Pl, hcs, _, hl, hm, hmm, _, hx⟩
  · simp [Value.cells] at hcs
    obtain ⟨_, rfl, _⟩ := hcs
    exact ⟨Nat.zero_le _, fun _ => .int .i64 0, .inl rfl, fun i hi => by omega⟩
  · simp [Value.cells] at hcs
    obtain ⟨rfl, rfl, rfl⟩ := hcs
    refine ⟨Nat.le_trans hl hm, ?_⟩
    have hle : len ≤ m := by rw [hmm]; split <;> omega
    rw [h1] at hx
    obtain ⟨b, off, spot⟩ := a
    have hcell : ∀ i, i < len → ∃ c : Value, w.cell? (Addr.add (Addr.add ⟨b, off, spot⟩ (i * 1)) 0) = some c ∧ ∃ m x, DataW.trod enc Tryz.prog w base spare held m el [c] = some x := by
      intro i hi
      obtain ⟨cs', h1, h2⟩ := hx i (by omega)
      obtain ⟨_, hlen, hc⟩ := World.cells?_some h1
      match cs', hlen with
      | [c0], _ => exact ⟨c0, hc 0 (by omega), _, _, h2⟩
    have inh : Inhabited Value := ⟨.int .i64 0⟩
    obtain ⟨g, hg⟩ := Go.Deep.choose_lt (α := Value) hcell
    refine ⟨g, ?_, fun i hi => (hg i hi).2⟩
    by_cases h0 : len = 0
    · exact .inl h0
    have hspot : spot = none := by
      have hx0 := (hg 0 (by omega)).1
      simpa [Addr.add] using World.cell?_spot hx0
    subst hspot
    have hI : ∀ i, i < len → w.cell? ⟨b, off + i, none⟩ = some (g i) := by
      intro i hi
      have q0 := (hg i hi).1
      rw [addr_addO, addr_addO, Nat.mul_one] at q0
      exact q0
    exact .inr ⟨b, off, rfl, cell_lt (hI 0 (by omega)), hI⟩

end Go.Proofs.YtkoghgnbolaooaaGreat

namespace Go.Proofs.YtkoghgnbolaooaaGreat
open Go.RowKit

theorem Cur.setOther {w : World} {W0 c len cap : Nat} {a0 : Option Addr} (h : Cur w W0 c a0 len cap) {p : Addr} (hp : p.block ≠ c) (hW : W0 ≤ p.block) (v : Value) : Cur (w.setCell p v) W0 c a0 len cap :=
  h.kept (row := some p.block) (grown_setCell (World.grownBy.refl w _) (.inl rfl) v) (fun e => hp (Option.some.inj e).symm) (fun k hk => by rw [← Option.some.inj hk]; exact hW)

/-- Five cells of an own block are written. -/
abbrev put5 (w : World) (N : Nat) (o r a b n : Int) : World :=
  ((((w.setCell ⟨N, 0, none⟩ (.int .i64 o)).setCell ⟨N, 1, none⟩ (.int .i64 r)).setCell ⟨N, 2, none⟩ (.int .i64 a)).setCell ⟨N, 3, none⟩ (.int .i64 b)).setCell ⟨N, 4, none⟩ (.int .i64 n)
theorem put5_cur {w : World} {W0 c len cap N : Nat} {a0 : Option Addr} (h : Cur w W0 c a0 len cap) (hp : N ≠ c) (hW : W0 ≤ N) (o r a b n : Int) : Cur (put5 w N o r a b n) W0 c a0 len cap :=
  ((((h.setOther (p := ⟨N, 0, none⟩) hp hW _).setOther (p := ⟨N, 1, none⟩) hp hW _).setOther (p := ⟨N, 2, none⟩) hp hW _).setOther (p := ⟨N, 3, none⟩) hp hW _).setOther (p := ⟨N, 4, none⟩) hp hW _
theorem put5_grown {w w1 : World} {row : Option Nat} {N : Nat} (h : w.grownBy w1 row) (hN : w.heap.size ≤ N) (o r a b n : Int) : w.grownBy (put5 w1 N o r a b n) row :=
  grown_setCell (grown_setCell (grown_setCell (grown_setCell (grown_setCell h (.inr hN) _) (.inr hN) _) (.inr hN) _) (.inr hN) _) (.inr hN) _

/-- Block N is five cells that hold these numbers. -/
def Five (w : World) (N : Nat) (o r a b n : Int) : Prop := w.heap[N]? = some (.cells #[.int .i64 o, .int .i64 r, .int .i64 a, .int .i64 b, .int .i64 n] 55 (0, 0))
theorem Five.cells {w : World} {N : Nat} {o r a b n : Int} (h : Five w N o r a b n) : (w.cell? ⟨N, 0, none⟩ = some (.int .i64 o) ∧ w.cell? ⟨N, 1, none⟩ = some (.int .i64 r) ∧ w.cell? ⟨N, 2, none⟩ = some (.int .i64 a) ∧ w.cell? ⟨N, 3, none⟩ = some (.int .i64 b) ∧ w.cell? ⟨N, 4, none⟩ = some (.int .i64 n)) ∧ ∀ i, w.frozen? ⟨N, i, none⟩ = false := by
  unfold Five at h
  simp [World.cell?, World.frozen?, h]
theorem Five.lt {w : World} {N : Nat} {o r a b n : Int} (h : Five w N o r a b n) : N < w.heap.size := (Array.getElem?_eq_some_iff.1 h).1
theorem Five.kept {w w' : World} {N : Nat} {row : Option Nat} {o r a b n : Int} (h : Five w N o r a b n) (hg : w.grownBy w' row) (hne : some N ≠ row) : Five w' N o r a b n :=
  (hg.block N h.lt hne).trans h

def pick9 (j : Nat) : Int := [(-1 : Int), 0, 3, 4, 9, 29, 30, 1000000000, 1000000001].getD j 0
theorem pick9_at (w : World) : IntsAt (w.alloc (.cells #[.int .i64 (-1), .int .i64 0, .int .i64 3, .int .i64 4, .int .i64 9, .int .i64 29, .int .i64 30, .int .i64 1000000000, .int .i64 1000000001] 3)) w.heap.size 9 pick9 := by
  intro j hj
  match j, hj with
  | 0, _ => simp [pick9]
  | 1, _ => simp [pick9]
  | 2, _ => simp [pick9]
  | 3, _ => simp [pick9]
  | 4, _ => simp [pick9]
  | 5, _ => simp [pick9]
  | 6, _ => simp [pick9]
  | 7, _ => simp [pick9]
  | 8, _ => simp [pick9]


end Go.Proofs.YtkoghgnbolaooaaGreat

namespace Go.Proofs.YtkoghgnbolaooaaGreat
open Go.RowKit

def isI : Value → Bool
  | .int .i64 _ => true
  | _ => false
theorem isI_int {v : Value} (h : isI v = true) : ∃ x : Int, v = .int .i64 x := by
  unfold isI at h
  split at h
  · exact ⟨_, rfl⟩
  · cases h
theorem isI_one {v : Value} (h : isI v = true) : v.oneCell' = true := by
  obtain ⟨x, rfl⟩ := isI_int h
  rfl

/-- The slice v is n places in a block of its own, from block B on. -/
def Lst (w : World) (B : Nat) (v : Value) (n : Nat) : Prop := ∃ xs, w.ownsRow B 55 5 v n xs ∧ xs.all isI = true

theorem Lst.kept {w w' : World} {B n : Nat} {v : Value} {row : Option Nat} (h : Lst w B v n) (hg : w.grownBy w' row) (hr : ∀ k, row = some k → k < B) : Lst w' B v n := by
  obtain ⟨xs, ho, hx⟩ := h
  refine ⟨xs, ho.kept hg ?_, hx⟩
  cases hv : v.ownBlock with
  | none => exact .inl rfl
  | some k =>
    right
    intro e
    have h1 := (ho.lt k hv).1
    have h2 := hr k e.symm
    omega
theorem Lst.mono {w : World} {B B' n : Nat} {v : Value} (h : Lst w B v n) (hb : B' ≤ B) : Lst w B' v n := by
  obtain ⟨xs, ho, hx⟩ := h
  exact ⟨xs, ho.mono hb, hx⟩
theorem Lst.form {w : World} {B n : Nat} {v : Value} (h : Lst w B v n) (hn : 0 < n) : ∃ g cap, v = .slice (some ⟨g, 0, none⟩) n cap ∧ B ≤ g ∧ g < w.heap.size := by
  obtain ⟨xs, ho, hx⟩ := h
  rcases ho.2 with ⟨_, h0⟩ | ⟨g, cap, cur, rfl, hb, _⟩
  · omega
  · exact ⟨g, cap, rfl, hb, (ho.lt g rfl).2⟩
theorem Lst.at {w : World} {B n g cap : Nat} (h : Lst w B (.slice (some ⟨g, 0, none⟩) n cap) n) : ∃ G, InsAt w g 0 n G := by
  obtain ⟨xs, ho, hx⟩ := h
  have hall := List.all_eq_true.1 hx
  have key : ∀ j, j < n * 5 → ∃ x : Int, w.cell? ⟨g, j, none⟩ = some (.int .i64 x) := by
    intro j hj
    have hl : j < xs.length := by rw [ho.1]; exact hj
    obtain ⟨x, hxx⟩ := isI_int (hall xs[j] (List.getElem_mem hl))
    exact ⟨x, by rw [ho.cellAt j hj, List.getElem?_eq_getElem hl, hxx]⟩
  have inh : Inhabited Int := ⟨0⟩
  obtain ⟨f, hf⟩ := Go.Deep.choose_lt (α := Int) key
  refine ⟨fun i => ⟨f (i * 5), f (i * 5 + 1), f (i * 5 + 2), f (i * 5 + 3), f (i * 5 + 4)⟩, fun i hi => ?_⟩
  simp only [Nat.zero_add]
  exact ⟨hf _ (by omega), hf _ (by omega), hf _ (by omega), hf _ (by omega), hf _ (by omega)⟩
theorem Lst.lit {w : World} {B n : Nat} (cs : Array Value) (hB : B ≤ w.heap.size) (hn : n ≤ 1000) (hs : cs.size = n * 5) (hc : cs.toList.all isI = true) : Lst (w.alloc (.cells cs 55)) B (.slice (some ⟨w.heap.size, 0, none⟩) n n) n :=
  ⟨cs.toList, World.ownsRow_lit w cs n hB (by unfold maxLen; omega) hs, hc⟩

theorem all_set {xs : List Value} {u : Value} (h : xs.all isI = true) (hu : isI u = true) (j : Nat) : (xs.set j u).all isI = true := by
  rw [List.all_eq_true] at h ⊢
  intro v hv
  rcases List.mem_or_eq_of_mem_set hv with h1 | h1
  · exact h v h1
  · rw [h1]; exact hu
theorem Lst.set {w : World} {B n g cap : Nat} (h : Lst w B (.slice (some ⟨g, 0, none⟩) n cap) n) (j : Nat) (x : Int) : Lst (w.setCell ⟨g, j, none⟩ (.int .i64 x)) B (.slice (some ⟨g, 0, none⟩) n cap) n := by
  obtain ⟨xs, ho, hx⟩ := h
  exact ⟨_, (ho.stored j _).1, all_set hx rfl j⟩

theorem infoI : (Tryz.prog.info? 55).map (fun i => (i.zero, i.size, i.bytes)) = some (some (insV 0 0 0 0 0), 5, 40) := by kernel_rfl

theorem cell_five_new (w : World) (a b c d e : Value) (t : TypeId) : ∀ j u, [a, b, c, d, e][j]? = some u → (w.alloc (.cells #[a, b, c, d, e] t)).cell? ((⟨w.heap.size, 0, none⟩ : Addr).add j) = some u := by
  intro j u hj
  match j, hj with
  | 0, hj => simp at hj; subst hj; simp [Addr.add]
  | 1, hj => simp at hj; subst hj; simp [Addr.add]
  | 2, hj => simp at hj; subst hj; simp [Addr.add]
  | 3, hj => simp at hj; subst hj; simp [Addr.add]
  | 4, hj => simp at hj; subst hj; simp [Addr.add]
  | j + 5, hj => simp at hj

/-- One place is appended to a list of the draw's own. -/
theorem append_ins {ops : Array Oper} {rest : List Oper} {op : Oper} {act : Act} {Q : Exit → Act → World → Prop} (w : World) (hgd : op.guard = none) (s x : Operand)
    (ho : op.op = .call { callee := .builtin .append, args := #[s, x], argTypes := #[28, 28] })
    (B : Nat) (v : Value) (n : Nat) (hs : act.eval s = v) (hl : Lst w B v n) (o r a b k : Int) (hx : act.eval x = .slice (some ⟨w.heap.size, 0, none⟩) 1 1) (hn : n ≤ 1000) (hB : B ≤ w.heap.size)
    (h : ∀ v' w', Lst w' B v' (n + 1) → (w.alloc (.cells #[.int .i64 o, .int .i64 r, .int .i64 a, .int .i64 b, .int .i64 k] 55)).grownBy w' v.ownBlock → wpList Tryz.prog ops Q rest (act.put op.dst v') w') :
    wpList Tryz.prog ops Q (op :: rest) act (w.alloc (.cells #[.int .i64 o, .int .i64 r, .int .i64 a, .int .i64 b, .int .i64 k] 55)) := by
  obtain ⟨i0, hi, hz0, hz1, hz2⟩ := info_parts infoI
  obtain ⟨xs, how, hxs⟩ := hl
  refine wpList_append_own _ hgd s x 28 ho B 55 i0 (insV 0 0 0 0 0) 5 40 Tryz.underlying28 hi hz0 hz1 hz2 rfl (by decide) v n xs hs (how.alloc _) ⟨w.heap.size, 0, none⟩ 1 1
    [.int .i64 o, .int .i64 r, .int .i64 a, .int .i64 b, .int .i64 k] hx rfl (cell_five_new _ _ _ _ _ _ _) (fun u hu => ?_) (by unfold maxLen; omega) (by omega) (by simp; omega) ?_
  · simp at hu
    rcases hu with rfl | rfl | rfl | rfl | rfl <;> rfl
  · intro v' w' h1 h2 _
    refine h v' w' ⟨_, h1, ?_⟩ h2
    rw [List.all_append, hxs]
    rfl

end Go.Proofs.YtkoghgnbolaooaaGreat

namespace Go.Proofs.YtkoghgnbolaooaaGreat
open Go.RowKit

def pick2 (j : Nat) : Int := [(11 : Int), 9].getD j 0
theorem pick2_at (w : World) : IntsAt (w.alloc (.cells #[.int .i64 11, .int .i64 9] 3)) w.heap.size 2 pick2 := by
  intro j hj
  match j, hj with
  | 0, _ => simp [pick2]
  | 1, _ => simp [pick2]

theorem Lst.own {w : World} {B n : Nat} {v : Value} (h : Lst w B v n) : ∀ j, v.ownBlock = some j → B ≤ j := by
  obtain ⟨xs, ho, hx⟩ := h
  exact fun j hj => (ho.lt j hj).1
/-- The cursor stands as it was where a list of the draw's own grew. -/
theorem Lst.cur {w w' : World} {B W0 c len cap n : Nat} {a0 : Option Addr} {v : Value} {o : Obj} (h : Lst w B v n) (hc : Cur w W0 c a0 len cap) (hg : (w.alloc o).grownBy w' v.ownBlock) (hB : c < B) (hW : W0 ≤ c) : Cur w' W0 c a0 len cap :=
  (hc.alloc o).kept hg (fun e => by have := h.own c e.symm; omega) (fun k hk => by have := h.own k hk; omega)

end Go.Proofs.YtkoghgnbolaooaaGreat

namespace Go.Proofs.YtkoghgnbolaooaaGreat
open Go.RowKit

def lenV : Value → Nat
  | .slice _ n _ => n
  | _ => 0

theorem Lst.frozen {w : World} {B n g cap : Nat} (h : Lst w B (.slice (some ⟨g, 0, none⟩) n cap) n) (j : Nat) : w.frozen? ⟨g, j, none⟩ = false := by
  obtain ⟨xs, ho, hx⟩ := h
  exact ho.frozenAt j

/-- What is carried from step to step of a draw: the list, the cursor, the frame. -/
def Way (w wr : World) (W0 c len cap : Nat) (a0 : Option Addr) (g n gc : Nat) : Prop :=
  Lst wr w.heap.size (.slice (some ⟨g, 0, none⟩) n gc) n ∧ Cur wr W0 c a0 len cap ∧ w.grownBy wr (some c)

theorem Way.step {w wr w' : World} {W0 c len cap g n gc : Nat} {a0 : Option Addr} (h : Way w wr W0 c len cap a0 g n gc) (hcl : c < w.heap.size) (hc : Cur w' W0 c a0 len cap) (hg : wr.grownBy w' (some c)) : Way w w' W0 c len cap a0 g n gc :=
  ⟨h.1.kept hg (fun j hj => by cases hj; exact hcl), hc, h.2.2.trans hg⟩
theorem Way.set {w wr : World} {W0 c len cap g n gc : Nat} {a0 : Option Addr} (h : Way w wr W0 c len cap a0 g n gc) (hcl : c < w.heap.size) (hcg : W0 ≤ c) (j : Nat) (x : Int) : Way w (wr.setCell ⟨g, j, none⟩ (.int .i64 x)) W0 c len cap a0 g n gc := by
  have hg := h.1.own g rfl
  exact ⟨h.1.set j x, h.2.1.setOther (p := ⟨g, j, none⟩) (by simp; omega) (by simp; omega) _, grown_setCell (p := ⟨g, j, none⟩) h.2.2 (.inr hg) _⟩

end Go.Proofs.YtkoghgnbolaooaaGreat

namespace Go.Proofs.YtkoghgnbolaooaaGreat
open Go.RowKit

/-- The slice v is n events in a block of its own, from block B on. -/
def LstE (w : World) (B : Nat) (v : Value) (n : Nat) : Prop := ∃ xs, w.ownsRow B 59 3 v n xs ∧ xs.all isI = true ∧ v ≠ .slice none 0 0

theorem LstE.ofBlock {w w' : World} {B n : Nat} {v : Value} (h : LstE w B v n) (ha : ∀ k, v.ownBlock = some k → w'.heap[k]? = w.heap[k]?) : LstE w' B v n := by
  obtain ⟨xs, ho, hx⟩ := h
  refine ⟨xs, ?_, hx⟩
  rcases ho.2 with ⟨rfl, h0⟩ | ⟨g, cap, cur, rfl, hb, hg, hr⟩
  · exact ⟨ho.1, .inl ⟨rfl, h0⟩⟩
  · refine ⟨ho.1, .inr ⟨g, cap, cur, rfl, hb, ?_, hr⟩⟩
    rw [ha g rfl]
    exact hg
theorem LstE.mono {w : World} {B B' n : Nat} {v : Value} (h : LstE w B v n) (hb : B' ≤ B) : LstE w B' v n := by
  obtain ⟨xs, ho, hx⟩ := h
  exact ⟨xs, ho.mono hb, hx⟩
theorem LstE.lt {w : World} {B n : Nat} {v : Value} (h : LstE w B v n) : ∀ j, v.ownBlock = some j → B ≤ j ∧ j < w.heap.size := by
  obtain ⟨xs, ho, hx⟩ := h
  exact fun j hj => ho.lt j hj
theorem LstE.kept {w w' : World} {B n : Nat} {v : Value} {row : Option Nat} (h : LstE w B v n) (hg : w.grownBy w' row) (hr : ∀ k, row = some k → v.ownBlock ≠ some k) : LstE w' B v n :=
  h.ofBlock fun k hk => hg.block k (h.lt k hk).2 (fun e => hr k e.symm hk)
theorem LstE.below {w w' : World} {B n : Nat} {v : Value} (h : LstE w B v n) (hb : Below w.heap.size w w') : LstE w' B v n := h.ofBlock fun k hk => hb.block k (h.lt k hk).2
theorem LstE.empty (w : World) : LstE (w.alloc (.cells #[] 59)) w.heap.size (.slice (some ⟨w.heap.size, 0, none⟩) 0 0) 0 :=
  ⟨[], World.ownsRow_lit w #[] 0 (Nat.le_refl _) (by unfold maxLen; omega) rfl, rfl, by simp⟩
theorem LstE.form {w : World} {B n : Nat} {v : Value} (h : LstE w B v n) : ∃ g cap, v = .slice (some ⟨g, 0, none⟩) n cap ∧ B ≤ g ∧ g < w.heap.size := by
  obtain ⟨xs, ho, hx, hv⟩ := h
  rcases ho.2 with ⟨h0, _⟩ | ⟨g, cap, cur, rfl, hb, _⟩
  · exact absurd h0 hv
  · exact ⟨g, cap, rfl, hb, (ho.lt g rfl).2⟩
theorem LstE.at {w : World} {B n g cap : Nat} (h : LstE w B (.slice (some ⟨g, 0, none⟩) n cap) n) : ∃ G, EvAt w g 0 n G := by
  obtain ⟨xs, ho, hx, -⟩ := h
  have hall := List.all_eq_true.1 hx
  have key : ∀ j, j < n * 3 → ∃ x : Int, w.cell? ⟨g, j, none⟩ = some (.int .i64 x) := by
    intro j hj
    have hl : j < xs.length := by rw [ho.1]; exact hj
    obtain ⟨x, hxx⟩ := isI_int (hall xs[j] (List.getElem_mem hl))
    exact ⟨x, by rw [ho.cellAt j hj, List.getElem?_eq_getElem hl, hxx]⟩
  have inh : Inhabited Int := ⟨0⟩
  obtain ⟨f, hf⟩ := Go.Deep.choose_lt (α := Int) key
  refine ⟨fun i => ⟨f (i * 3), f (i * 3 + 1), f (i * 3 + 2)⟩, fun i hi => ?_⟩
  simp only [Nat.zero_add]
  exact ⟨hf _ (by omega), hf _ (by omega), hf _ (by omega)⟩

theorem info_ev : ∃ i, Tryz.prog.info? 59 = some i ∧ i.zero = some (evV 0 0 0) ∧ i.size = 3 ∧ i.bytes = 24 := by
  have hinfo := infoEv
  cases hi : Tryz.prog.info? 59 with
  | none => rw [hi] at hinfo; cases hinfo
  | some i =>
    rw [hi] at hinfo
    simp only [Option.map_some, Option.some.injEq, Prod.mk.injEq] at hinfo
    exact ⟨i, rfl, hinfo⟩
theorem cell_three_new (w : World) (a b c : Value) (t : TypeId) : ∀ j u, [a, b, c][j]? = some u → (w.alloc (.cells #[a, b, c] t)).cell? ((⟨w.heap.size, 0, none⟩ : Addr).add j) = some u := by
  intro j u hj
  match j, hj with
  | 0, hj => simp at hj; subst hj; simp [Addr.add]
  | 1, hj => simp at hj; subst hj; simp [Addr.add]
  | 2, hj => simp at hj; subst hj; simp [Addr.add]
  | j + 3, hj => simp at hj

/-- One event is appended to a list of the draw's own. -/
theorem append_evt {ops : Array Oper} {rest : List Oper} {op : Oper} {act : Act} {Q : Exit → Act → World → Prop} (w : World) (hgd : op.guard = none) (s x : Operand)
    (ho : op.op = .call { callee := .builtin .append, args := #[s, x], argTypes := #[30, 30] })
    (B : Nat) (v : Value) (n : Nat) (hs : act.eval s = v) (hl : LstE w B v n) (k q y : Int) (hx : act.eval x = .slice (some ⟨w.heap.size, 0, none⟩) 1 1) (hn : n ≤ 1000) (hB : B ≤ w.heap.size)
    (h : ∀ v' w', LstE w' B v' (n + 1) → w.grownBy w' v.ownBlock → (∀ j, v'.ownBlock = some j → v.ownBlock = some j ∨ w.heap.size ≤ j) → wpList Tryz.prog ops Q rest (act.put op.dst v') w') :
    wpList Tryz.prog ops Q (op :: rest) act (w.alloc (.cells #[.int .i64 k, .int .i64 q, .int .i64 y] 59)) := by
  obtain ⟨i0, hi, hz0, hz1, hz2⟩ := info_ev
  obtain ⟨xs, how, hxs, hvn⟩ := hl
  have hb : Below w.heap.size w (w.alloc (.cells #[.int .i64 k, .int .i64 q, .int .i64 y] 59)) := below_alloc _ _
  obtain ⟨v', w', h1, h2, h3, h4, h5⟩ := run_append_own_at (P := Tryz.prog) (w.alloc (.cells #[.int .i64 k, .int .i64 q, .int .i64 y] 59)) B 30 op.type 59 i0 (evV 0 0 0) 3 24 Tryz.underlying30 hi hz0 hz1 hz2 rfl (by decide) v n xs (how.alloc _) ⟨w.heap.size, 0, none⟩ 1 1 [.int .i64 k, .int .i64 q, .int .i64 y] rfl (cell_three_new _ _ _ _ _) (fun u hu => by
    simp at hu
    rcases hu with rfl | rfl | rfl <;> rfl) (by unfold maxLen; omega) (by omega) (by simp; omega)
  refine wpList_plain hgd fun K hK => ?_
  unfold Oper.wp execOp
  simp only [ho, resolve, invoke, builtin, Sem.run_bind, Sem.run_pure, Result.andThen_ok, List.map_toArray, List.map_cons, List.map_nil, hs, hx, h1]
  refine hK _ _ (h v' w' ⟨_, h2, ?_, fun e => hvn (h4.1 e).1⟩ ⟨h3.os, h3.tape, h3.output, Nat.le_trans hb.size h3.size, fun j hj hne => (h3.block j (Nat.lt_of_lt_of_le hj hb.size) hne).trans (hb.block j hj)⟩ fun j hj => ?_)
  · rw [List.all_append, hxs]
    rfl
  · rcases h5 with a | a
    · exact .inl (a.symm.trans hj)
    · rw [hj] at a
      simp only [Option.some.injEq] at a
      right
      rw [a]
      simp

set_option maxRecDepth 100000 in
set_option maxHeartbeats 1000000 in
theorem specStateNew_any (w : World) :
    Calls Tryz.prog 72 #[] w fun e w' => ∃ v, e = .returned v ∧ StOwn w' w.heap.size v 0 [0, 0, 0, 0] [] 0 ∧ Below w.heap.size w w' := by
  have hmk : ∀ w : World, (Instr.makeSlice 41 (.int .i64 4) (.int .i64 4)).run Tryz.prog w = .ok (.slice (some ⟨w.heap.size, 0, none⟩) 4 4) (w.alloc (.cells (madeCells #[.int .i64 0] 4) 3)) := fun w => run_make_int 4 (by omega) w
  have HM : Hid (∀ w : World, OwnI (w.alloc (.cells (madeCells #[.int .i64 0] 4) 3)) w.heap.size (.slice (some ⟨w.heap.size, 0, none⟩) 4 4) [0, 0, 0, 0]) := fun w => made_own w 4 (by omega)
  go_enter Tryz.func72, Tryz.ntmps72
  go_wp2
  have hB : w.heap.size ≤ w.heap.size + 1 := by omega
  have hM := HM.out (w.alloc (.cells #[.int .i64 0, .slice (some ⟨w.heap.size + 1, 0, none⟩) 4 4, .slice none 0 0, .int .i64 0] 43))
  rw [World.size_alloc] at hM
  refine bodyPost_ret (v := stV 0 (some ⟨w.heap.size + 1, 0, none⟩) 4 4 none 0 0 0) (by simp [results, Tryz.results72, go_sem]) rfl ⟨_, rfl, ⟨_, _, rfl, hM.mono hB, World.ownsRow_nil _ _ _ _, fun k _ => by simp [Value.ownBlock]⟩, by go_grown⟩

end Go.Proofs.YtkoghgnbolaooaaGreat

namespace Go.Proofs.YtkoghgnbolaooaaGreat
open Go.RowKit

theorem Tl.widen {w : World} {B C C' N : Nat} {p c : Int} {ra : Option Addr} {rn rc : Nat} {oa : Option Addr} {on oc : Nat} {rs os : List Int} (h : Tl w B C N p c ra rn rc oa on oc rs os) (h1 : C ≤ C') (h2 : C' ≤ w.heap.size) : Tl w B C' N p c ra rn rc oa on oc rs os :=
  ⟨h.lo, Nat.lt_of_lt_of_le h.hi h1, h2, h.box, h.own, fun k hk => Nat.lt_of_lt_of_le (h.up k hk) h1, h.ne⟩

/-- What stands between the rounds of a draw of events: the events so far, the cursor, a state of the draw's own in block Bs, all of it below C. -/
structure Dr (w wr : World) (C W0 c len cap : Nat) (a0 : Option Addr) (Bs : Nat) (out : Value) (k : Nat) (p code : Int) (ra : Option Addr) (rc : Nat) (oa : Option Addr) (oc : Nat) (rs os : List Int) : Prop where
  ls : LstE wr w.heap.size out k
  cu : Cur wr W0 c a0 len cap
  gr : w.grownBy wr (some c)
  tl : Tl wr w.heap.size C Bs p code ra rs.length rc oa os.length oc rs os
  fz : ∀ j, wr.frozen? ⟨Bs, j, none⟩ = false
  oC : ∀ j, out.ownBlock = some j → j < C
  nB : out.ownBlock ≠ some Bs
  ap : ∀ j, hasBlock (stV p ra rs.length rc oa os.length oc code) j → out.ownBlock ≠ some j
  lr : rs.length ≤ 1048576
  lo : os.length ≤ 1048576

theorem Dr.tu {w wr w' : World} {C W0 c len cap : Nat} {a0 : Option Addr} {Bs : Nat} {out : Value} {k : Nat} {p code : Int} {ra : Option Addr} {rc : Nat} {oa : Option Addr} {oc : Nat} {rs os : List Int} (h : Dr w wr C W0 c len cap a0 Bs out k p code ra rc oa oc rs os) {lo hi : Nat} (t : Tu lo hi wr w') (hd : C ≤ lo ∨ hi ≤ w.heap.size) (hc : Cur w' W0 c a0 len cap) (hg : w.grownBy w' (some c)) : Dr w w' C W0 c len cap a0 Bs out k p code ra rc oa oc rs os := by
  obtain ⟨h1, h2, h3, h4, h5, h6, h7, h8, h9, h10⟩ := h
  refine ⟨h1.ofBlock fun j hj => ?_, hc, hg, h4.tu t hd, fun j => ?_, h6, h7, h8, h9, h10⟩
  · have a := h1.lt j hj
    have b := h6 j hj
    exact t.block j a.2 (by omega)
  · rw [World.frozen?_of_block (t.block Bs (Nat.lt_of_lt_of_le h4.hi h4.sz) (by have := h4.lo; have := h4.hi; omega))]
    exact h5 j
theorem Dr.turn {w wr w' : World} {C W0 c len cap : Nat} {a0 : Option Addr} {Bs : Nat} {out : Value} {k : Nat} {p code : Int} {ra : Option Addr} {rc : Nat} {oa : Option Addr} {oc : Nat} {rs os : List Int} (h : Dr w wr C W0 c len cap a0 Bs out k p code ra rc oa oc rs os) (hcl : c < w.heap.size) (hc : Cur w' W0 c a0 len cap) (hg : wr.grownBy w' (some c)) : Dr w w' C W0 c len cap a0 Bs out k p code ra rc oa oc rs os :=
  h.tu (Tu.of_row hg) (.inr hcl) hc (h.gr.trans hg)
theorem Dr.below {w wr w' : World} {C W0 c len cap : Nat} {a0 : Option Addr} {Bs : Nat} {out : Value} {k : Nat} {p code : Int} {ra : Option Addr} {rc : Nat} {oa : Option Addr} {oc : Nat} {rs os : List Int} (h : Dr w wr C W0 c len cap a0 Bs out k p code ra rc oa oc rs os) (hb : Below wr.heap.size wr w') : Dr w w' C W0 c len cap a0 Bs out k p code ra rc oa oc rs os :=
  h.tu (Tu.of_below hb) (.inr (Nat.zero_le _)) (h.cu.kept (grown_of_below hb) (by simp) (fun k e => by cases e)) (h.gr.trans (grown_any (grown_of_below hb) _))
theorem Dr.set {w wr : World} {C W0 c len cap : Nat} {a0 : Option Addr} {Bs : Nat} {out : Value} {k : Nat} {p code : Int} {ra : Option Addr} {rc : Nat} {oa : Option Addr} {oc : Nat} {rs os : List Int} (h : Dr w wr C W0 c len cap a0 Bs out k p code ra rc oa oc rs os) (hcl : c < w.heap.size) (hcg : W0 ≤ c) {N : Nat} (hN : C ≤ N) (j : Nat) (v : Value) : Dr w (wr.setCell ⟨N, j, none⟩ v) C W0 c len cap a0 Bs out k p code ra rc oa oc rs os := by
  have hw : w.heap.size ≤ N := by have := h.tl.lo; have := h.tl.hi; omega
  exact h.tu (Tu.of_row (b := N) (grown_setCell (p := ⟨N, j, none⟩) (World.grownBy.refl _ _) (.inl rfl) v)) (.inl hN) (h.cu.setOther (p := ⟨N, j, none⟩) (by simp; omega) (by simp; omega) v) (grown_setCell (p := ⟨N, j, none⟩) h.gr (.inr hw) v)
theorem Dr.widen {w wr : World} {C W0 c len cap : Nat} {a0 : Option Addr} {Bs : Nat} {out : Value} {k : Nat} {p code : Int} {ra : Option Addr} {rc : Nat} {oa : Option Addr} {oc : Nat} {rs os : List Int} (h : Dr w wr C W0 c len cap a0 Bs out k p code ra rc oa oc rs os) : Dr w wr wr.heap.size W0 c len cap a0 Bs out k p code ra rc oa oc rs os :=
  ⟨h.ls, h.cu, h.gr, h.tl.widen h.tl.sz (Nat.le_refl _), h.fz, fun j hj => Nat.lt_of_lt_of_le (h.oC j hj) h.tl.sz, h.nB, h.ap, h.lr, h.lo⟩
theorem Dr.ins {w wr : World} {C W0 c len cap : Nat} {a0 : Option Addr} {Bs : Nat} {out : Value} {k : Nat} {p code : Int} {ra : Option Addr} {rc : Nat} {oa : Option Addr} {oc : Nat} {rs os : List Int} (h : Dr w wr C W0 c len cap a0 Bs out k p code ra rc oa oc rs os) {gb n : Nat} {g : Nat → I5} (hI : InsAt w gb 0 n g) (hg : gb < w.heap.size) (hne : gb ≠ c) : InsAt wr gb 0 n g ∧ gb < wr.heap.size := by
  have hb := h.gr.block gb hg (by simp [hne])
  refine ⟨fun i hi => ?_, Nat.lt_of_lt_of_le hg h.gr.size⟩
  obtain ⟨c0, c1, c2, c3, c4⟩ := hI i hi
  exact ⟨(World.cell?_of_block hb).trans c0, (World.cell?_of_block hb).trans c1, (World.cell?_of_block hb).trans c2, (World.cell?_of_block hb).trans c3, (World.cell?_of_block hb).trans c4⟩

/-- An event in block N, that may be written. -/
def EvB (w : World) (N : Nat) (k q v : Int) : Prop := EvC3 w N k q v ∧ ∀ j, w.frozen? ⟨N, j, none⟩ = false
theorem EvB.lt {w : World} {N : Nat} {k q v : Int} (h : EvB w N k q v) : N < w.heap.size := World.block_lt_of_cell? w _ h.1.1
theorem EvB.block {w w' : World} {N : Nat} {k q v : Int} (h : EvB w N k q v) (hb : w'.heap[N]? = w.heap[N]?) : EvB w' N k q v := by
  obtain ⟨⟨h0, h1, h2⟩, h3⟩ := h
  exact ⟨⟨(World.cell?_of_block hb).trans h0, (World.cell?_of_block hb).trans h1, (World.cell?_of_block hb).trans h2⟩, fun j => (World.frozen?_of_block hb).trans (h3 j)⟩
theorem EvB.new (w : World) (k q v : Int) (t : TypeId) : EvB (w.alloc (.cells #[.int .i64 k, .int .i64 q, .int .i64 v] t)) w.heap.size k q v := ⟨EvC3.new w k q v t, fun j => new_frozen _ _ _ j rfl⟩
theorem EvB.set1 {w : World} {N : Nat} {k q v : Int} (h : EvB w N k q v) (x : Int) : EvB (w.setCell ⟨N, 1, none⟩ (.int .i64 x)) N k x v := by
  obtain ⟨⟨h0, h1, h2⟩, h3⟩ := h
  exact ⟨⟨by go_cell, by go_cell, by go_cell⟩, fun j => by rw [World.frozen?_setCell]; exact h3 j⟩
theorem EvB.set2 {w : World} {N : Nat} {k q v : Int} (h : EvB w N k q v) (x : Int) : EvB (w.setCell ⟨N, 2, none⟩ (.int .i64 x)) N k q x := by
  obtain ⟨⟨h0, h1, h2⟩, h3⟩ := h
  exact ⟨⟨by go_cell, by go_cell, by go_cell⟩, fun j => by rw [World.frozen?_setCell]; exact h3 j⟩

/-- One event more, and the state behind it. -/
theorem Dr.next {w w8 w9 : World} {C W0 c len cap : Nat} {a0 : Option Addr} {Bs : Nat} {out out' : Value} {k : Nat} {p code : Int} {ra : Option Addr} {rc : Nat} {oa : Option Addr} {oc : Nat} {rs os : List Int} (h : Dr w w8 C W0 c len cap a0 Bs out k p code ra rc oa oc rs os) (hcl : c < w.heap.size) (hcg : W0 ≤ c)
    {B7 : Nat} {S : S4} {ra7 oa7 : Option Addr} {rc7 oc7 : Nat} (o7 : StOwn w8 B7 (stV S.p ra7 S.rs.length rc7 oa7 S.os.length oc7 S.c) S.p S.rs S.os S.c) (hB : C ≤ B7) (l1 : S.rs.length ≤ 1048576) (l2 : S.os.length ≤ 1048576)
    (g9 : w8.grownBy w9 out.ownBlock) (L9 : LstE w9 w.heap.size out' (k + 1)) (a9 : ∀ j, out'.ownBlock = some j → out.ownBlock = some j ∨ w8.heap.size ≤ j) :
    Dr w ((((w9.setCell ⟨Bs, 0, none⟩ (.int .i64 S.p)).setCell ⟨Bs, 1, none⟩ (.slice ra7 S.rs.length rc7)).setCell ⟨Bs, 2, none⟩ (.slice oa7 S.os.length oc7)).setCell ⟨Bs, 3, none⟩ (.int .i64 S.c)) w9.heap.size W0 c len cap a0 Bs out' (k + 1) S.p S.c ra7 rc7 oa7 oc7 S.rs S.os := by
  have hlo := h.tl.lo
  have hhi := h.tl.hi
  have hsz := h.tl.sz
  have hs9 := g9.size
  have gz := grown4 w9 Bs (.int .i64 S.p) (.slice ra7 S.rs.length rc7) (.slice oa7 S.os.length oc7) (.int .i64 S.c)
  have hap : ∀ j, out.ownBlock = some j → w.heap.size ≤ j ∧ j < C := fun j hj => ⟨(h.ls.lt j hj).1, h.oC j hj⟩
  have eB : w9.heap[Bs]? = w8.heap[Bs]? := g9.block Bs (by omega) (fun e => h.nB e.symm)
  have nB : out'.ownBlock ≠ some Bs := fun e => by
    rcases a9 Bs e with e | e
    · exact h.nB e
    · omega
  obtain ⟨b0, b1, b2, b3⟩ := h.tl.box
  have o9 : StOwn w9 B7 (stV S.p ra7 S.rs.length rc7 oa7 S.os.length oc7 S.c) S.p S.rs S.os S.c := by
    obtain ⟨q1, q2, qa⟩ := o7.parts
    refine ⟨_, _, rfl, q1.ofBlock fun j hj => ?_, q2.ofBlock fun j hj => ?_, qa⟩
    · have := q1.lt j hj
      exact g9.block j this.2 (fun e => by have := hap j e.symm; omega)
    · have := q2.lt j hj
      exact g9.block j this.2 (fun e => by have := hap j e.symm; omega)
  have gW : w.grownBy w9 (some c) := ⟨g9.os.trans h.gr.os, g9.tape.trans h.gr.tape, g9.output.trans h.gr.output, Nat.le_trans h.gr.size g9.size, fun j hj hne => (g9.block j (Nat.lt_of_lt_of_le hj h.gr.size) (fun e => by have := hap j e.symm; omega)).trans (h.gr.block j hj hne)⟩
  have hC : C ≤ w9.heap.size := by omega
  refine ⟨?_, ?_, ?_, ⟨hlo, by omega, by simp, ?_, ?_, fun j hj => ?_, fun hj => ?_⟩, fun j => ?_, fun j hj => ?_, nB, fun j hj e => ?_, l1, l2⟩
  · exact L9.kept gz (fun j e => by cases e; exact nB)
  · have hc9 : Cur w9 W0 c a0 len cap := h.cu.kept g9 (fun e => by have := hap c e.symm; omega) (fun j e => by have := hap j e; omega)
    exact (((hc9.setOther (p := ⟨Bs, 0, none⟩) (by simp; omega) (by simp; omega) _).setOther (p := ⟨Bs, 1, none⟩) (by simp; omega) (by simp; omega) _).setOther (p := ⟨Bs, 2, none⟩) (by simp; omega) (by simp; omega) _).setOther (p := ⟨Bs, 3, none⟩) (by simp; omega) (by simp; omega) _
  · repeat (refine grown_setCell ?_ (.inr hlo) _)
    exact gW
  · exact BoxC.set4 (z0 := .int .i64 p) (z1 := .slice ra rs.length rc) (z2 := .slice oa os.length oc) (z3 := .int .i64 code) ⟨(World.cell?_of_block eB).trans b0, (World.cell?_of_block eB).trans b1, (World.cell?_of_block eB).trans b2, (World.cell?_of_block eB).trans b3⟩ _ _ _ _
  · exact o9.put4 (by omega) (by omega)
  · exact (o9.lt hj).2
  · have := (o9.lt hj).1
    omega
  · rw [World.frozen?_setCell, World.frozen?_setCell, World.frozen?_setCell, World.frozen?_setCell, World.frozen?_of_block eB]
    exact h.fz j
  · exact (L9.lt j hj).2
  · have hj7 := o7.lt hj
    rcases a9 j e with e | e
    · have := hap j e
      omega
    · omega

end Go.Proofs.YtkoghgnbolaooaaGreat

namespace Go.Proofs.YtkoghgnbolaooaaGreat
open Go.RowKit

/-- The events h lie where a points, unless there are none. -/
def EvL (w : World) (a : Option Addr) (len : Nat) (h : Nat → E3) : Prop := len = 0 ∨ ∃ b off, a = some ⟨b, off, none⟩ ∧ b < w.heap.size ∧ EvAt w b off len h
theorem EvL.below {w w' : World} {a : Option Addr} {len : Nat} {h : Nat → E3} (hh : EvL w a len h) (hb : Below w.heap.size w w') : EvL w' a len h := by
  rcases hh with e | ⟨b, off, e, hlt, hc⟩
  · exact .inl e
  · exact .inr ⟨b, off, e, Nat.lt_of_lt_of_le hlt hb.size, hc.below hb hlt⟩
theorem EvL.at {w : World} {a : Option Addr} {len : Nat} {h : Nat → E3} (hh : EvL w a len h) {k : Nat} (hk : k < len) : ∃ b off, a = some ⟨b, off, none⟩ ∧ b < w.heap.size ∧ w.cell? ⟨b, off + k * 3, none⟩ = some (.int .i64 (h k).k) ∧ w.cell? ⟨b, off + k * 3 + 1, none⟩ = some (.int .i64 (h k).q) ∧ w.cell? ⟨b, off + k * 3 + 2, none⟩ = some (.int .i64 (h k).v) := by
  rcases hh with rfl | ⟨b, off, e, hlt, hc⟩
  · omega
  · exact ⟨b, off, e, hlt, hc k hk⟩
theorem EvL.take {w : World} {a : Option Addr} {len : Nat} {h : Nat → E3} (hh : EvL w a len h) {k : Nat} (hk : k ≤ len) : EvL w a k h := by
  rcases hh with rfl | ⟨b, off, e, hlt, hc⟩
  · exact .inl (by omega)
  · exact .inr ⟨b, off, e, hlt, fun i hi => hc i (by omega)⟩
theorem EvL.one {w : World} {b off len : Nat} {h : Nat → E3} (hh : EvL w (some ⟨b, off, none⟩) len h) {k : Nat} (hk : k < len) : EvAt w b off len h ∧ b < w.heap.size := by
  rcases hh with rfl | ⟨b', off', e, hlt, hc⟩
  · omega
  · simp only [Option.some.injEq, Addr.mk.injEq] at e
    obtain ⟨rfl, rfl, -⟩ := e
    exact ⟨hc, hlt⟩

end Go.Proofs.YtkoghgnbolaooaaGreat
