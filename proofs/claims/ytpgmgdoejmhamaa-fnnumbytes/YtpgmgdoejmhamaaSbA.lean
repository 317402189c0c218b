/- Rows of places and states in memory; the walks of the laws' own helpers on them. -/
import Derived.Test.YtpgmgdoejmhamaaCnA
namespace Go.Proofs.Ytpgmgdoejmhamaa
open Go.ChangeShapes Go.WideShapes Go.ChangeAt Go.RowKit Go.Deep

def inB (x lo hi : Int) : Bool := decide (lo ≤ x ∧ x ≤ hi)

set_option maxHeartbeats 400000 in
theorem l1In_any (x lo hi : Int) (w : World) :
    Calls Try.prog 22 #[.int .i64 x, .int .i64 lo, .int .i64 hi] w fun e w' => e = .returned (.bool (inB x lo hi)) ∧ w' = w := by
  by_cases h1 : lo ≤ x
  · by_cases h2 : x ≤ hi
    · go_enter Try.func22, Try.ntmps22
      go_wp2
      go_ret
      exact ⟨by simp [inB, h1, h2], rfl⟩
    · go_enter Try.func22, Try.ntmps22
      go_wp2
      go_ret
      exact ⟨by simp [inB, h1, h2], rfl⟩
  · go_enter Try.func22, Try.ntmps22
    go_wp2
    go_ret
    exact ⟨by simp [inB]; omega, rfl⟩

abbrev insV (op r a b n : Int) : Value := .agg #[.int .i64 op, .int .i64 r, .int .i64 a, .int .i64 b, .int .i64 n]

structure I5 where
  o : Int
  r : Int
  a : Int
  b : Int
  n : Int

/-- From cell off of block b on there lie len places, the i-th being g i. -/
def InsAt (w : World) (b off len : Nat) (g : Nat → I5) : Prop := ∀ i, i < len →
  w.cell? ⟨b, off + i * 5, none⟩ = some (.int .i64 (g i).o) ∧ w.cell? ⟨b, off + i * 5 + 1, none⟩ = some (.int .i64 (g i).r) ∧ w.cell? ⟨b, off + i * 5 + 2, none⟩ = some (.int .i64 (g i).a) ∧ w.cell? ⟨b, off + i * 5 + 3, none⟩ = some (.int .i64 (g i).b) ∧ w.cell? ⟨b, off + i * 5 + 4, none⟩ = some (.int .i64 (g i).n)

theorem InsAt.below {w w' : World} {B b off len : Nat} {g : Nat → I5} (h : InsAt w b off len g) (hb : Below B w w') (hB : b < B) : InsAt w' b off len g := by
  intro i hi
  obtain ⟨h0, h1, h2, h3, h4⟩ := h i hi
  exact ⟨(hb.cell hB).trans h0, (hb.cell hB).trans h1, (hb.cell hB).trans h2, (hb.cell hB).trans h3, (hb.cell hB).trans h4⟩

/-- The first k places of a row that is being filled. -/
def Filled (f : Nat → Value) (g : Nat → I5) (k : Nat) : Prop := ∀ i, i < k →
  f (i * 5) = .int .i64 (g i).o ∧ f (i * 5 + 1) = .int .i64 (g i).r ∧ f (i * 5 + 2) = .int .i64 (g i).a ∧ f (i * 5 + 3) = .int .i64 (g i).b ∧ f (i * 5 + 4) = .int .i64 (g i).n

theorem Filled.at {w : World} {b : Nat} {t : TypeId} {len k : Nat} {f : Nat → Value} {g : Nat → I5} (h : Filled f g k) (hr : w.rowIs b t (len * 5) f) (hk : k ≤ len) : InsAt w b 0 k g := by
  intro i hi
  obtain ⟨h0, h1, h2, h3, h4⟩ := h i hi
  refine ⟨?_, ?_, ?_, ?_, ?_⟩
  · rw [hr.cell (by omega), Nat.zero_add, h0]
  · rw [hr.cell (by omega), Nat.zero_add, h1]
  · rw [hr.cell (by omega), Nat.zero_add, h2]
  · rw [hr.cell (by omega), Nat.zero_add, h3]
  · rw [hr.cell (by omega), Nat.zero_add, h4]

theorem Filled.step {w : World} {b : Nat} {t : TypeId} {len k : Nat} {f : Nat → Value} {g : Nat → I5} (hr : w.rowIs b t (len * 5) f) (h : Filled f g k) :
    ∃ f', (((((w.setCell ⟨b, k * 5, none⟩ (.int .i64 (g k).o)).setCell ⟨b, k * 5 + 1, none⟩ (.int .i64 (g k).r)).setCell ⟨b, k * 5 + 2, none⟩ (.int .i64 (g k).a)).setCell ⟨b, k * 5 + 3, none⟩ (.int .i64 (g k).b)).setCell ⟨b, k * 5 + 4, none⟩ (.int .i64 (g k).n)).rowIs b t (len * 5) f' ∧ Filled f' g (k + 1) := by
  refine ⟨_, ((((hr.set _ _).set _ _).set _ _).set _ _).set _ _, fun i hi => ?_⟩
  by_cases hik : i = k
  · subst hik
    simp
  · have hlt : i < k := by omega
    obtain ⟨h0, h1, h2, h3, h4⟩ := h i hlt
    refine ⟨?_, ?_, ?_, ?_, ?_⟩
    · rw [if_neg (by omega), if_neg (by omega), if_neg (by omega), if_neg (by omega), if_neg (by omega)]; exact h0
    · rw [if_neg (by omega), if_neg (by omega), if_neg (by omega), if_neg (by omega), if_neg (by omega)]; exact h1
    · rw [if_neg (by omega), if_neg (by omega), if_neg (by omega), if_neg (by omega), if_neg (by omega)]; exact h2
    · rw [if_neg (by omega), if_neg (by omega), if_neg (by omega), if_neg (by omega), if_neg (by omega)]; exact h3
    · rw [if_neg (by omega), if_neg (by omega), if_neg (by omega), if_neg (by omega), if_neg (by omega)]; exact h4

abbrev stV (p : Int) (ra : Option Addr) (rn rc : Nat) (oa : Option Addr) (on oc : Nat) (code : Int) : Value := .agg #[.int .i64 p, .slice ra rn rc, .slice oa on oc, .int .i64 code]

theorem OwnI.setBelow {w : World} {B : Nat} {v : Value} {xs : List Int} (h : OwnI w B v xs) {a : Addr} (ha : a.block < B) (u : Value) : OwnI (w.setCell a u) B v xs := ownsRow_setCell_below h ha u

/-- The value v is a state of its own, its two lists apart. -/
def StOwn (w : World) (B : Nat) (v : Value) (p : Int) (rs os : List Int) (code : Int) : Prop :=
  ∃ vr vo, v = .agg #[.int .i64 p, vr, vo, .int .i64 code] ∧ OwnI w B vr rs ∧ OwnI w B vo os ∧ ∀ k, vr.ownBlock = some k → vo.ownBlock ≠ some k

theorem StOwn.below {w w' : World} {B : Nat} {v : Value} {p code : Int} {rs os : List Int} (h : StOwn w B v p rs os code) (hb : Below w.heap.size w w') : StOwn w' B v p rs os code := by
  obtain ⟨vr, vo, e, h1, h2, h3⟩ := h
  exact ⟨vr, vo, e, h1.below hb, h2.below hb, h3⟩

theorem StOwn.mono {w : World} {B B' : Nat} {v : Value} {p code : Int} {rs os : List Int} (h : StOwn w B v p rs os code) (hb : B' ≤ B) : StOwn w B' v p rs os code := by
  obtain ⟨vr, vo, e, h1, h2, h3⟩ := h
  exact ⟨vr, vo, e, h1.mono hb, h2.mono hb, h3⟩

theorem StOwn.read {w : World} {B : Nat} {v : Value} {p code : Int} {rs os : List Int} (h : StOwn w B v p rs os code) : ∃ ra rc oa oc, v = stV p ra rs.length rc oa os.length oc code ∧ Sl w ra rs ∧ Sl w oa os := by
  obtain ⟨vr, vo, rfl, h1, h2, _⟩ := h
  obtain ⟨ra, rc, rfl, s1⟩ := h1.form
  obtain ⟨oa, oc, rfl, s2⟩ := h2.form
  exact ⟨ra, rc, oa, oc, rfl, s1, s2⟩

/-- Block k is that of one of the lists of the state v. -/
def hasBlock (v : Value) (k : Nat) : Prop := ∃ p vr vo code, v = .agg #[p, vr, vo, code] ∧ (vr.ownBlock = some k ∨ vo.ownBlock = some k)

theorem hasBlock_iff (p vr vo code : Value) (k : Nat) : hasBlock (.agg #[p, vr, vo, code]) k ↔ vr.ownBlock = some k ∨ vo.ownBlock = some k := by
  constructor
  · rintro ⟨p', vr', vo', code', e, h⟩
    simp only [Value.agg.injEq, Array.mk.injEq, List.cons.injEq, and_true] at e
    obtain ⟨_, rfl, rfl, _⟩ := e
    exact h
  · exact fun h => ⟨p, vr, vo, code, rfl, h⟩

theorem StOwn.lt {w : World} {B : Nat} {v : Value} {p code : Int} {rs os : List Int} (h : StOwn w B v p rs os code) {k : Nat} (hk : hasBlock v k) : B ≤ k ∧ k < w.heap.size := by
  obtain ⟨vr, vo, rfl, h1, h2, _⟩ := h
  rcases (hasBlock_iff _ _ _ _ _).1 hk with h | h
  · exact h1.lt k h
  · exact h2.lt k h

/-- The four cells of a state in a block. -/
def BoxC (w : World) (N : Nat) (p vr vo code : Value) : Prop := w.cell? ⟨N, 0, none⟩ = some p ∧ w.cell? ⟨N, 1, none⟩ = some vr ∧ w.cell? ⟨N, 2, none⟩ = some vo ∧ w.cell? ⟨N, 3, none⟩ = some code

theorem BoxC.below {w w' : World} {N : Nat} {p vr vo code : Value} (h : BoxC w N p vr vo code) (hb : Below w.heap.size w w') : BoxC w' N p vr vo code := by
  obtain ⟨h0, h1, h2, h3⟩ := h
  have hN : N < w.heap.size := World.block_lt_of_cell? w _ h0
  exact ⟨(hb.cell (p := ⟨N, 0, none⟩) hN).trans h0, (hb.cell (p := ⟨N, 1, none⟩) hN).trans h1, (hb.cell (p := ⟨N, 2, none⟩) hN).trans h2, (hb.cell (p := ⟨N, 3, none⟩) hN).trans h3⟩

theorem BoxC.new (w : World) (p vr vo code : Value) (t : TypeId) : BoxC (w.alloc (.cells #[p, vr, vo, code] t)) w.heap.size p vr vo code := by
  unfold BoxC
  simp

structure S4 where
  p : Int
  rs : List Int
  os : List Int
  c : Int

/-- The cells of len places stand in a block, and may be written. -/
def Room (w : World) (b len : Nat) : Prop := (∀ i, i < len * 5 → ∃ u, w.cell? ⟨b, i, none⟩ = some u) ∧ ∀ j, w.frozen? ⟨b, j, none⟩ = false

theorem Room.set {w : World} {b len : Nat} (h : Room w b len) (p : Addr) (v : Value) : Room (w.setCell p v) b len :=
  ⟨fun i hi => (h.1 i hi).elim fun _ e => cell?_setCell_some e, fun j => by rw [World.frozen?_setCell]; exact h.2 j⟩

theorem Room.of_ins {w : World} {b len : Nat} {g : Nat → I5} (h : InsAt w b 0 len g) (hf : ∀ j, w.frozen? ⟨b, j, none⟩ = false) : Room w b len := by
  refine ⟨fun i hi => ?_, hf⟩
  obtain ⟨c0, c1, c2, c3, c4⟩ := h (i / 5) (by omega)
  simp only [Nat.zero_add] at c0 c1 c2 c3 c4
  have hh : i = i / 5 * 5 ∨ i = i / 5 * 5 + 1 ∨ i = i / 5 * 5 + 2 ∨ i = i / 5 * 5 + 3 ∨ i = i / 5 * 5 + 4 := by omega
  rcases hh with e | e | e | e | e
  · rw [e]; exact ⟨_, c0⟩
  · rw [e]; exact ⟨_, c1⟩
  · rw [e]; exact ⟨_, c2⟩
  · rw [e]; exact ⟨_, c3⟩
  · rw [e]; exact ⟨_, c4⟩

theorem cellsInts : Try.prog.cellsOf 39 = 1 := by kernel_rfl

theorem array4 {cs : Array Value} (h : cs.size = 4) : ∃ c0 c1 c2 c3, cs = #[c0, c1, c2, c3] := by
  obtain ⟨l⟩ := cs
  match l, h with
  | [c0, c1, c2, c3], _ => exact ⟨c0, c1, c2, c3, rfl⟩

/-- A list of ints that came in. -/
theorem open_intRow {H : Type} {enc : TypeId × Value → H} {w : World} {held : Bool} {base fuel : Nat} {v : Value} {x : DataW H × List MemPlace}
    (hf : DataW.trod enc Try.prog w base (fun _ => true) held fuel 39 [v] = some x) :
    ∃ a0 cap xs, v = .slice a0 xs.length cap ∧ xs.length ≤ maxLen ∧ Sl w a0 xs := by
  rcases open_ints Try.underlying39 Try.underlying3 cellsInt hf with ⟨hcs, _⟩ | ⟨a, l, c, zs, hcs, _, hl, hm, hz, _, hcell, _⟩
  · simp at hcs
    exact ⟨none, 0, [], hcs, Nat.zero_le _, .inl rfl⟩
  · simp at hcs
    have hz' : zs.length = c := by simpa using hz
    have hlen : (zs.take l).length = l := by simp; omega
    refine ⟨some a, c, zs.take l, by rw [hlen]; exact hcs, by rw [hlen]; exact Nat.le_trans hl hm, ?_⟩
    by_cases h0 : l = 0
    · exact .inl (by simp [h0])
    obtain ⟨b, off, rfl, hc⟩ := ints_at hcell (by omega)
    refine .inr ⟨b, off, rfl, cell_lt (hc 0 (by omega)), fun i hi => ?_⟩
    rw [hlen] at hi
    rw [hc i (by omega)]
    unfold zi
    rw [List.getD_eq_getElem?_getD, List.getD_eq_getElem?_getD, List.getElem?_take, if_pos hi]

end Go.Proofs.Ytpgmgdoejmhamaa
