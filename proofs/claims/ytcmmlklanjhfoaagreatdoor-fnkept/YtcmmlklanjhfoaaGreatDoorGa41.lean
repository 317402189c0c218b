/- The draw of kept states, walked: l10Draw, DrawRestore. -/
import Derived.Test.YtcmmlklanjhfoaaGreatDoorGa34
import Derived.Test.YtcmmlklanjhfoaaGreatDoorGa40
import Derived.Test.YtcmmlklanjhfoaaGreatDoorGa18
namespace Go.Proofs.YtcmmlklanjhfoaaGreatDoor
open Go.ChangeShapes Go.WideShapes Go.ChangeAt Go.RowKit Go.Deep

/-- A kept state by its parts: where its lists lie, the state, and the place it stands at. -/
def kO (N : Int) (t : Option Addr × Nat × Option Addr × Nat) (S : S4) (p : Int) : K9 := ⟨⟨p, t.1, t.2.1, S.rs, t.2.2.1, t.2.2.2, S.os, S.c⟩, N⟩
section
variable {w : World} {P : Nat → Prop} {a : Option Addr} {n cap : Nat} {N : Nat → Int} {vs : Nat → Value} {S : Nat → S4} {t : Nat → Option Addr × Nat × Option Addr × Nat}
theorem LK.pick (o : LK w P (.slice a n cap) n N vs S) : ∃ t : Nat → Option Addr × Nat × Option Addr × Nat, ∀ i, i < n → vs i = stV (S i).p (t i).1 (S i).rs.length (t i).2.1 (t i).2.2.1 (S i).os.length (t i).2.2.2 (S i).c := by
  have inh : Inhabited (Option Addr × Nat × Option Addr × Nat) := ⟨(none, 0, none, 0)⟩
  have hq : ∀ i, i < n → ∃ t : Option Addr × Nat × Option Addr × Nat, vs i = stV (S i).p t.1 (S i).rs.length t.2.1 t.2.2.1 (S i).os.length t.2.2.2 (S i).c := fun i hi => by
    obtain ⟨ra, rc, oa, oc, e, -, -⟩ := (o.own i hi).read
    exact ⟨(ra, rc, oa, oc), e⟩
  exact Go.Deep.choose_lt hq
/-- The five cells of a kept state. -/
def Cl5 (w : World) (b off : Nat) (x : K9) : Prop := w.cell? ⟨b, off, none⟩ = some (.int .i64 x.n) ∧ w.cell? ⟨b, off + 1, none⟩ = some (.int .i64 x.p) ∧ w.cell? ⟨b, off + 2, none⟩ = some (.slice x.ra x.rs.length x.rc) ∧ w.cell? ⟨b, off + 3, none⟩ = some (.slice x.oa x.os.length x.oc) ∧ w.cell? ⟨b, off + 4, none⟩ = some (.int .i64 x.c)
theorem LK.cells5 {g : Nat} (o : LK w P (.slice (some ⟨g, 0, none⟩) n cap) n N vs S) (ht : ∀ i, i < n → vs i = stV (S i).p (t i).1 (S i).rs.length (t i).2.1 (t i).2.2.1 (S i).os.length (t i).2.2.2 (S i).c) {i : Nat} (hi : i < n) : Cl5 w g (i * 5) (kO (N i) (t i) (S i) (S i).p) := by
  obtain ⟨g', cap', e, -, -, ⟨ra, rc, oa, oc, ev, a0, a1, a2, a3, a4⟩, -⟩ := o.cell hi
  simp only [Value.slice.injEq, Option.some.injEq, Addr.mk.injEq, and_true, true_and] at e
  obtain ⟨rfl, -⟩ := e
  rw [ht i hi] at ev
  simp only [Value.agg.injEq, Array.mk.injEq, List.cons.injEq, Value.slice.injEq, and_true, true_and] at ev
  obtain ⟨⟨e1, e2⟩, e3, e4⟩ := ev
  exact ⟨a0, a1, by show w.cell? ⟨g, i * 5 + 2, none⟩ = some (.slice (t i).1 (S i).rs.length (t i).2.1); rw [e1, e2]; exact a2, by show w.cell? ⟨g, i * 5 + 3, none⟩ = some (.slice (t i).2.2.1 (S i).os.length (t i).2.2.2); rw [e3, e4]; exact a3, a4⟩
/-- Kept states out of those of a row, wherever their lists have not turned. -/
theorem LK.raw (o : LK w P (.slice a n cap) n N vs S) (ht : ∀ i, i < n → vs i = stV (S i).p (t i).1 (S i).rs.length (t i).2.1 (t i).2.2.1 (S i).os.length (t i).2.2.2 (S i).c) {w' : World} (hb : ∀ i, i < n → ∀ k, hasBlock (vs i) k → w'.heap[k]? = w.heap[k]?) {m b off : Nat} {ix : Nat → Nat} {pp : Nat → Int} (hix : ∀ j, j < m → ix j < n) (hlt : b < w'.heap.size)
    (hc : ∀ j, j < m → Cl5 w' b (off + j * 5) (kO (N (ix j)) (t (ix j)) (S (ix j)) (pp j))) : AllKept w' (some ⟨b, off, none⟩) m (fun j => kO (N (ix j)) (t (ix j)) (S (ix j)) (pp j)) := by
  refine ⟨.inr ⟨b, off, rfl, hlt, hc⟩, fun j hj => ?_⟩
  obtain ⟨ra, rc, oa, oc, e, s1, s2⟩ := ((o.own (ix j) (hix j hj)).blk (hb _ (hix j hj))).read
  rw [ht _ (hix j hj)] at e
  simp only [Value.agg.injEq, Array.mk.injEq, List.cons.injEq, Value.slice.injEq, and_true, true_and] at e
  obtain ⟨⟨e1, -⟩, e3, -⟩ := e
  exact ⟨by show Sl w' (t (ix j)).1 (S (ix j)).rs; rw [e1]; exact s1, by show Sl w' (t (ix j)).2.2.1 (S (ix j)).os; rw [e3]; exact s2⟩
end
theorem Cl5.blk {w w' : World} {b off : Nat} {x : K9} (h : Cl5 w b off x) (hb : w'.heap[b]? = w.heap[b]?) : Cl5 w' b off x :=
  ⟨(World.cell?_of_block hb).trans h.1, (World.cell?_of_block hb).trans h.2.1, (World.cell?_of_block hb).trans h.2.2.1, (World.cell?_of_block hb).trans h.2.2.2.1, (World.cell?_of_block hb).trans h.2.2.2.2⟩
theorem Cl5.setO {w : World} {b off o : Nat} {x : K9} {u : Value} (h : Cl5 w b off x) (ho : o < off ∨ off + 5 ≤ o) : Cl5 (w.setCell ⟨b, o, none⟩ u) b off x := by
  have hc : ∀ i, o ≠ i → (w.setCell ⟨b, o, none⟩ u).cell? ⟨b, i, none⟩ = w.cell? ⟨b, i, none⟩ := fun i hi => World.cell?_setCell_other _ _ _ _ fun e => hi (by injection e)
  exact ⟨(hc _ (by omega)).trans h.1, (hc _ (by omega)).trans h.2.1, (hc _ (by omega)).trans h.2.2.1, (hc _ (by omega)).trans h.2.2.2.1, (hc _ (by omega)).trans h.2.2.2.2⟩
theorem Cl5.setP {w : World} {b off : Nat} {N : Int} {t : Option Addr × Nat × Option Addr × Nat} {S : S4} {p : Int} (h : Cl5 w b off (kO N t S p)) (z : Int) : Cl5 (w.setCell ⟨b, off + 1, none⟩ (.int .i64 z)) b off (kO N t S z) := by
  have hc : ∀ i, off + 1 ≠ i → (w.setCell ⟨b, off + 1, none⟩ (.int .i64 z)).cell? ⟨b, i, none⟩ = w.cell? ⟨b, i, none⟩ := fun i hi => World.cell?_setCell_other _ _ _ _ fun e => hi (by injection e)
  exact ⟨(hc _ (by omega)).trans h.1, World.cell?_setCell_same _ _ _ h.2.1, (hc _ (by omega)).trans h.2.2.1, (hc _ (by omega)).trans h.2.2.2.1, (hc _ (by omega)).trans h.2.2.2.2⟩

/-- Kept states that stand whatever becomes of the cursor's block; none is great. -/
structure KD (w : World) (c : Nat) (a : Option Addr) (m : Nat) (q : Nat → K9) : Prop where
  al : ∀ w', w.grownBy w' (some c) → AllKept w' a m q
  ln : m ≤ 27 ∧ ∀ i, i < m → (q i).rs.length ≤ 4 ∧ (q i).os.length ≤ 60 ∧ 0 ≤ (q i).n ∧ (q i).n ≤ 300
theorem KD.grown {w w1 : World} {c m : Nat} {a : Option Addr} {q : Nat → K9} (h : KD w c a m q) (g : w.grownBy w1 (some c)) : KD w1 c a m q := ⟨fun w' g' => h.al w' (g.trans g'), h.ln⟩
theorem KD.none {w : World} {c : Nat} {a : Option Addr} {q : Nat → K9} : KD w c a 0 q := ⟨fun _ _ => ⟨.inl rfl, fun i hi => by omega⟩, by omega, fun i hi => by omega⟩

section
variable {w : World} {M c g n cap : Nat} {vs : Nat → Value} {S : Nat → S4}
abbrev LKd (w : World) (M g n cap : Nat) (vs : Nat → Value) (S : Nat → S4) : Prop := LK w (fun k => M ≤ k) (.slice (some ⟨g, 0, none⟩) n cap) n (fun i => ((8 * i : Nat) : Int)) vs S
def KS (n : Nat) (S : Nat → S4) : Prop := n ≤ 26 ∧ ∀ i, i < n → (S i).rs.length ≤ 4 ∧ (S i).os.length ≤ 60
theorem LKd.gr (o : LKd w M g n cap vs S) : M ≤ g ∧ g < w.heap.size := ⟨o.rb g rfl, (o.row.lt g rfl).2⟩
theorem LKd.other (o : LKd w M g n cap vs S) {i : Nat} (hi : i < n) {k : Nat} (hk : hasBlock (vs i) k) : M ≤ k ∧ k < w.heap.size ∧ k ≠ g := ⟨o.ob i hi k hk, ((o.own i hi).lt hk).2, fun e => o.ra i hi k hk (by rw [e]; rfl)⟩
theorem LKd.take (o : LKd w M g n cap vs S) (hs : KS n S) (hc : c < M) {m : Nat} (hm : m ≤ n) : ∃ q, KD w c (some ⟨g, 0, none⟩) m q := by
  obtain ⟨t, ht⟩ := o.pick
  refine ⟨_, fun w' gw => o.raw ht (ix := fun j => j) (pp := fun j => (S j).p) (fun i hi k hk => gw.block k (o.other hi hk).2.1 (fun e => by have := (o.other hi hk).1; injection e; omega)) (fun j hj => by omega) (Nat.lt_of_lt_of_le o.gr.2 gw.size) (fun j hj => ?_), ⟨by have := hs.1; omega, fun i hi => ?_⟩⟩
  · rw [Nat.zero_add]
    exact (o.cells5 ht (by omega)).blk (gw.block g o.gr.2 (fun e => by have := o.gr.1; injection e; omega))
  · have h1 := hs.2 i (by omega)
    have h2 := hs.1
    exact ⟨h1.1, h1.2, by show 0 ≤ ((8 * i : Nat) : Int); omega, by show ((8 * i : Nat) : Int) ≤ 300; omega⟩
theorem LKd.drop (o : LKd w M g n cap vs S) (hs : KS n S) (hc : c < M) {m : Nat} (hm : m + 1 ≤ n) : ∃ q, KD w c (some ⟨g, 5, none⟩) m q := by
  obtain ⟨t, ht⟩ := o.pick
  refine ⟨_, fun w' gw => o.raw ht (ix := fun j => j + 1) (pp := fun j => (S (j + 1)).p) (fun i hi k hk => gw.block k (o.other hi hk).2.1 (fun e => by have := (o.other hi hk).1; injection e; omega)) (fun j hj => by omega) (Nat.lt_of_lt_of_le o.gr.2 gw.size) (fun j hj => ?_), ⟨by have := hs.1; omega, fun i hi => ?_⟩⟩
  · rw [show 5 + j * 5 = (j + 1) * 5 by omega]
    exact (o.cells5 ht (by omega)).blk (gw.block g o.gr.2 (fun e => by have := o.gr.1; injection e; omega))
  · have h1 := hs.2 (i + 1) (by omega)
    have h2 := hs.1
    exact ⟨h1.1, h1.2, by show 0 ≤ ((8 * (i + 1) : Nat) : Int); omega, by show ((8 * (i + 1) : Nat) : Int) ≤ 300; omega⟩
theorem LKd.spoil (o : LKd w M g n cap vs S) (hs : KS n S) (hc : c < M) {i : Nat} (hi : i < n) (z : Int) : ∃ q, KD (w.setCell ⟨g, i * 5 + 1, none⟩ (.int .i64 z)) c (some ⟨g, 0, none⟩) n q := by
  obtain ⟨t, ht⟩ := o.pick
  refine ⟨_, fun w' gw => o.raw ht (ix := fun j => j) (pp := fun j => if j = i then z else (S j).p) (fun i hi k hk => (gw.block k (by simp; exact (o.other hi hk).2.1) (fun e => by have := (o.other hi hk).1; injection e; omega)).trans (Below.heap_setCell _ _ _ _ (o.other hi hk).2.2)) (fun j hj => hj) (Nat.lt_of_lt_of_le o.gr.2 (by have := gw.size; simpa using this)) (fun j hj => ?_), ⟨by have := hs.1; omega, fun j hj => ?_⟩⟩
  · rw [Nat.zero_add]
    refine Cl5.blk ?_ (gw.block g (by simp; exact o.gr.2) (fun e => by have := o.gr.1; injection e; omega))
    by_cases e : j = i
    · subst e
      rw [if_pos rfl]
      exact (o.cells5 ht hj).setP z
    · rw [if_neg e]
      exact (o.cells5 ht hj).setO (by omega)
  · have h1 := hs.2 j (by omega)
    have h2 := hs.1
    exact ⟨h1.1, h1.2, by show 0 ≤ ((8 * j : Nat) : Int); omega, by show ((8 * j : Nat) : Int) ≤ 300; omega⟩
theorem LKd.first (o : LKd w M g n cap vs S) (h0 : 0 < n) : ∃ ra rc oa oc, Cl5 w g 0 ⟨⟨(S 0).p, ra, rc, (S 0).rs, oa, oc, (S 0).os, (S 0).c⟩, 0⟩ ∧ ∀ {w2 : World} {a2 : Option Addr} {n2 c2 : Nat}, n2 = n + 1 → KS n S → c < M → w2.ownsRow 0 48 5 (.slice a2 n2 c2) n2 (flat (fun i => .int .i64 ((8 * i : Nat) : Int) :: cellsL (vs i)) n ++ [.int .i64 0, .int .i64 (S 0).p, .slice ra (S 0).rs.length rc, .slice oa (S 0).os.length oc, .int .i64 (S 0).c]) → (∀ j, a2.map (·.block) = some j → j = g ∨ w.heap.size ≤ j) → w.grownBy w2 (some g) → ∃ q, KD w2 c a2 n2 q := by
  obtain ⟨t, ht⟩ := o.pick
  refine ⟨(t 0).1, (t 0).2.1, (t 0).2.2.1, (t 0).2.2.2, by have := o.cells5 ht h0; rw [Nat.zero_mul] at this; exact this, ?_⟩
  rintro w2 a2 n2 c2 rfl hs hc hr hb2 gw2
  rcases hr.2 with ⟨_, h0⟩ | ⟨g2, cap2, cur, e2, -, -, -, -⟩
  · omega
  simp only [Value.slice.injEq] at e2
  obtain ⟨rfl, -, rfl⟩ := e2
  have hg2 : g2 < w2.heap.size := (hr.lt g2 rfl).2
  have hgM : g2 ≠ c := by
    have h1 := o.gr
    have h2 := hb2 g2 rfl
    omega
  have hl : ∀ j, j < n → ((fun i => Value.int .i64 ((8 * i : Nat) : Int) :: cellsL (vs i)) j).length = 5 := fun j hj => by
    have := (o.own j hj).cellsL.1
    simp [this]
  have hfl : (flat (fun i => .int .i64 ((8 * i : Nat) : Int) :: cellsL (vs i)) n).length = n * 5 := flat_len hl
  refine ⟨fun j => kO ((8 * (if j < n then j else 0) : Nat) : Int) (t (if j < n then j else 0)) (S (if j < n then j else 0)) (S (if j < n then j else 0)).p, fun w' gw => o.raw ht (ix := fun j => if j < n then j else 0) (pp := fun j => (S (if j < n then j else 0)).p) (fun i hi k hk => ?_) (fun j hj => by split <;> omega) (Nat.lt_of_lt_of_le hg2 gw.size) (fun j hj => ?_), ⟨by have := hs.1; omega, fun j hj => ?_⟩⟩
  · have h1 := o.other hi hk
    exact (gw.block k (Nat.lt_of_lt_of_le h1.2.1 gw2.size) (fun e => by injection e; omega)).trans (gw2.block k h1.2.1 (fun e => h1.2.2 (by injection e)))
  · rw [Nat.zero_add]
    refine Cl5.blk ?_ (gw.block g2 hg2 (fun e => hgM (by injection e)))
    have hc : ∀ i, i < 5 → w2.cell? ⟨g2, j * 5 + i, none⟩ = (flat (fun i => .int .i64 ((8 * i : Nat) : Int) :: cellsL (vs i)) n ++ [.int .i64 0, .int .i64 (S 0).p, .slice (t 0).1 (S 0).rs.length (t 0).2.1, .slice (t 0).2.2.1 (S 0).os.length (t 0).2.2.2, .int .i64 (S 0).c])[j * 5 + i]? := fun i hi => hr.cellAt (j * 5 + i) (by omega)
    by_cases hjn : j < n
    · rw [if_pos hjn]
      have hc' : ∀ i, i < 5 → w2.cell? ⟨g2, j * 5 + i, none⟩ = (Value.int .i64 ((8 * j : Nat) : Int) :: cellsL (vs j))[i]? := fun i hi => by
        rw [hc i hi, List.getElem?_append_left (by rw [hfl]; omega)]
        exact flat_at hl hjn hi
      rw [ht j hjn] at hc'
      exact ⟨hc' 0 (by omega), hc' 1 (by omega), hc' 2 (by omega), hc' 3 (by omega), hc' 4 (by omega)⟩
    · have ej : j = n := by omega
      subst ej
      rw [if_neg hjn]
      have hc' : ∀ i, i < 5 → w2.cell? ⟨g2, j * 5 + i, none⟩ = [Value.int .i64 0, .int .i64 (S 0).p, .slice (t 0).1 (S 0).rs.length (t 0).2.1, .slice (t 0).2.2.1 (S 0).os.length (t 0).2.2.2, .int .i64 (S 0).c][i]? := fun i hi => by
        rw [hc i hi, List.getElem?_append_right (by rw [hfl]; omega), hfl, show j * 5 + i - j * 5 = i by omega]
      exact ⟨hc' 0 (by omega), hc' 1 (by omega), hc' 2 (by omega), hc' 3 (by omega), hc' 4 (by omega)⟩
  · have h1 := hs.2 (if j < n then j else 0) (by split <;> omega)
    have h2 := hs.1
    have h3 : (if j < n then j else 0) < n := by split <;> omega
    exact ⟨h1.1, h1.2, by show 0 ≤ ((8 * (if j < n then j else 0) : Nat) : Int); omega, by show ((8 * (if j < n then j else 0) : Nat) : Int) ≤ 300; omega⟩
end

end Go.Proofs.YtcmmlklanjhfoaaGreatDoor

namespace Go.Proofs.YtcmmlklanjhfoaaGreatDoor
open Go.ChangeShapes Go.WideShapes Go.ChangeAt Go.RowKit Go.Deep

theorem slice_kt (a : Option Addr) (len cap h : Nat) (hh : h ≤ cap) (w : World) : (Instr.slice 28 (.slice a len cap) none (some (.int .i64 (h : Int))) none).run Tryz.prog w = .ok (.slice a h cap) w := by
  have hh' : (h : Int) ≤ (cap : Int) := by omega
  cases a with
  | none => simp [go_sem, sliced, hh']
  | some a => simp [go_sem, sliced, hh']
theorem slice_kf (g n cap : Nat) (h1 : 1 ≤ n) (h2 : n ≤ cap) : ∃ a', (∀ w : World, (Instr.slice 28 (.slice (some ⟨g, 0, none⟩) n cap) (some (.int .i64 1)) none none).run Tryz.prog w = .ok (.slice a' (n - 1) (cap - 1)) w) ∧ (2 ≤ n → a' = some ⟨g, 5, none⟩) := by
  have h1' : (1 : Int) ≤ (n : Int) := by omega
  by_cases hc : cap = 1
  · refine ⟨some ⟨g, 0, none⟩, fun w => ?_, fun h => by omega⟩
    subst hc
    obtain rfl : n = 1 := by omega
    simp [go_sem, sliced, Tryz.underlying28]
  · refine ⟨some ⟨g, 5, none⟩, fun w => ?_, fun _ => rfl⟩
    simp [go_sem, sliced, Tryz.underlying28, h1', hc]

/-- What a draw of kept states holds beside them. -/
structure KE (w0 w : World) (W0 c : Nat) (a0 : Option Addr) (len cap gl n ge k : Nat) (G : Nat → I5) (E : Nat → E3) : Prop where
  cu : Cur w W0 c a0 len cap
  li : gl < c ∧ InsAt w gl 0 n G
  ev : ge < c ∧ EvAt w ge 0 k E
  be : Below w0.heap.size w0 w
  c0 : w0.heap.size ≤ c
theorem InsAt.blk {w w' : World} {b off len : Nat} {g : Nat → I5} (h : InsAt w b off len g) (hb : w'.heap[b]? = w.heap[b]?) : InsAt w' b off len g := fun i hi => by
  have hc : ∀ j, w'.cell? ⟨b, j, none⟩ = w.cell? ⟨b, j, none⟩ := fun j => World.cell?_of_block hb
  have := h i hi
  simp only [hc]
  exact this
theorem EvAt.blkK {w w' : World} {b off len : Nat} {g : Nat → E3} (h : EvAt w b off len g) (hb : w'.heap[b]? = w.heap[b]?) : EvAt w' b off len g := fun i hi => by
  have hc : ∀ j, w'.cell? ⟨b, j, none⟩ = w.cell? ⟨b, j, none⟩ := fun j => World.cell?_of_block hb
  have := h i hi
  simp only [hc]
  exact this
section
variable {w0 w w' : World} {W0 c len cap gl n ge k : Nat} {a0 : Option Addr} {G : Nat → I5} {E : Nat → E3}
theorem KE.on (h : KE w0 w W0 c a0 len cap gl n ge k G E) (cu : Cur w' W0 c a0 len cap) {row : Option Nat} (g : w.grownBy w' row) (hr : ∀ j, row = some j → c ≤ j) : KE w0 w' W0 c a0 len cap gl n ge k G E := by
  have hc := h.cu.lt
  have h1 := h.li.1
  have h2 := h.ev.1
  have h3 := h.c0
  exact ⟨cu, ⟨h1, h.li.2.blk (g.block gl (by omega) (fun e => by have := hr _ e.symm; omega))⟩, ⟨h2, h.ev.2.blkK (g.block ge (by omega) (fun e => by have := hr _ e.symm; omega))⟩, ⟨g.os.trans h.be.os, g.tape.trans h.be.tape, g.output.trans h.be.output, Nat.le_trans h.be.size g.size, fun j hj => (g.block j (by omega) (fun e => by have := hr _ e.symm; omega)).trans (h.be.block j hj)⟩, h.c0⟩
end
def DrwK (w : World) (e : Ending) (w' : World) : Prop := ∃ gl n gc ge k ec G E ka m kc q z, e = .returned (.tuple #[.slice (some ⟨gl, 0, none⟩) n gc, .slice (some ⟨ge, 0, none⟩) k ec, .slice ka m kc, .int .i64 z]) ∧ (n ≤ 31 ∧ k ≤ 25 ∧ k ≤ ec) ∧ (gl < w'.heap.size ∧ InsAt w' gl 0 n G) ∧ (ge < w'.heap.size ∧ EvAt w' ge 0 k E) ∧ AllKept w' ka m q ∧ (m ≤ 27 ∧ ∀ i, i < m → (q i).rs.length ≤ 4 ∧ (q i).os.length ≤ 60 ∧ 0 ≤ (q i).n ∧ (q i).n ≤ 300) ∧ (-1 ≤ z ∧ z ≤ (k : Int)) ∧ Below w.heap.size w w'

set_option maxRecDepth 100000 in
set_option maxHeartbeats 4000000 in
theorem l10Draw_any (W0 len cap : Nat) (a0 : Option Addr) (w : World) (hB : BytesAt w W0 a0 len) (hW : W0 ≤ w.heap.size) (hl : len ≤ 1048576) :
    Calls Tryz.prog 30 #[.slice a0 len cap] w (DrwK w) := by
  have HB : Hid (BytesAt w W0 a0 len) := hB
  clear hB
  go_enter Tryz.func30, Tryz.ntmps30
  go_wp2_with fail
  refine (DrawReplay_any W0 len cap a0 w HB.out hW hl).mono ?_
  rintro e w1 ⟨gl, n, gc, ge, k, ec, G, E, rfl, ⟨hn, hk, hkc⟩, ⟨zl, hI⟩, ⟨ze, hE⟩, b1⟩
  have B1 : Hid (Below w.heap.size w w1) := b1
  have D1 : Hid ((gl < w1.heap.size ∧ InsAt w1 gl 0 n G) ∧ (ge < w1.heap.size ∧ EvAt w1 ge 0 k E)) := ⟨⟨zl, hI⟩, ze, hE⟩
  have HKC : Hid (n ≤ 31 ∧ k ≤ 25 ∧ k ≤ ec) := ⟨hn, hk, hkc⟩
  have hk' : (k : Int) ≤ 25 := by omega
  clear b1 zl hI ze hE hkc hn hk
  go_wp2_with fail
  refine (l1New_any W0 len cap a0 w1 (HB.out.kept fun j hj => B1.out.block j (by omega)) (Nat.le_trans hW B1.out.size) hl).mono ?_
  rintro e w2 ⟨rfl, c2, g2⟩
  have z2 := c2.lt
  have F2 : Hid (KE w w2 W0 w1.heap.size a0 len cap gl n ge k G E) := ⟨c2, ⟨D1.out.1.1, D1.out.1.2.blk (g2.block gl D1.out.1.1 (by simp))⟩, ⟨D1.out.2.1, D1.out.2.2.blkK (g2.block ge D1.out.2.1 (by simp))⟩, B1.out.trans ((below_of_grown g2).mono B1.out.size), B1.out.size⟩
  clear c2 g2 D1 B1
  generalize w1.heap.size = c at *
  go_wp2_with fail
  refine (specKeepAll_any gl n gc (some ⟨ge, 0, none⟩) k ec G E w2 (by have := HKC.out; unfold maxLen; omega) (Nat.lt_trans F2.out.li.1 z2) F2.out.li.2 (.inr ⟨ge, 0, rfl, Nat.lt_trans F2.out.ev.1 z2, F2.out.ev.2⟩) (by omega) HKC.out.2.2).mono ?_
  rintro e w3 ⟨a3, kc3, vs3, rfl, o3, b3, na3⟩
  have F3 : Hid (KE w w3 W0 c a0 len cap gl n ge k G E) := F2.out.on (F2.out.cu.kept (grown_of_below b3) (by simp) (fun _ h => by cases h)) (grown_of_below b3) (fun _ h => by cases h)
  have hks : KS (kaN G n E k) (kaS G n E) := ka_len G n E k
  generalize kaN G n E k = m at *
  generalize kaS G n E = S at *
  have HKS : Hid (KS m S) := hks
  have hm : (m : Int) ≤ 26 := by have := hks.1; omega
  clear b3 F2 hks
  by_cases h0 : m = 0
  · subst h0
    clear o3 na3
    have HQ : Hid (KD w3 c a3 0 (fun _ => kO 0 (none, 0, none, 0) ⟨0, [], [], 0⟩ 0)) := KD.none
    go_wp2_with fail
    refine (l1Below_any W0 c len cap a0 (k + 1) _ F3.out.cu (by omega) (by omega)).mono ?_
    rintro e wy ⟨x7, rfl, hx7, c7, g7⟩
    have G7 : Hid (KE w wy W0 c a0 len cap gl n ge k G E) := F3.out.on c7 g7 (fun j h => by cases h; exact Nat.le_refl _)
    have Q7 : Hid (KD wy c a3 0 _) := HQ.out.grown g7
    clear c7 g7 F3 HQ
    go_wp2_with fail
    refine (l1Below_any W0 c len cap a0 20 wy G7.out.cu (by omega) (by omega)).mono ?_
    rintro e wz ⟨x8, rfl, hx8, c8, g8⟩
    have G8 : Hid (KE w wz W0 c a0 len cap gl n ge k G E) := G7.out.on c8 g8 (fun j h => by cases h; exact Nat.le_refl _)
    have Q8 : Hid (KD wz c a3 0 _) := Q7.out.grown g8
    clear c8 g8 G7 Q7
    obtain ⟨q9, hq9, q90, q91⟩ : ∃ q9 : Int, Int.tdiv x8 19 = q9 ∧ 0 ≤ q9 ∧ q9 ≤ 1 := ⟨_, rfl, by
      rw [Int.tdiv_eq_ediv_of_nonneg hx8.1]; omega, by
      rw [Int.tdiv_eq_ediv_of_nonneg hx8.1]; omega⟩
    have HZ : Hid (-1 ≤ x7 - q9 ∧ x7 - q9 ≤ (k : Int)) := by
      show -1 ≤ x7 - q9 ∧ x7 - q9 ≤ (k : Int)
      omega
    go_wp2
    exact bodyPost_ret (v := .tuple #[.slice (some ⟨gl, 0, none⟩) n gc, .slice (some ⟨ge, 0, none⟩) k ec, .slice a3 0 kc3, .int .i64 (x7 - q9)]) (by simp [results, Tryz.results30, go_sem]) rfl ⟨gl, n, gc, ge, k, ec, G, E, a3, 0, kc3, _, _, rfl, HKC.out, ⟨Nat.lt_trans G8.out.li.1 G8.out.cu.lt, G8.out.li.2⟩, ⟨Nat.lt_trans G8.out.ev.1 G8.out.cu.lt, G8.out.ev.2⟩, Q8.out.al _ (World.grownBy.refl _ _), Q8.out.ln, HZ.out, G8.out.be⟩
  · have h0' : (0 : Int) < (m : Int) := by omega
    obtain ⟨g, cap', eg, -⟩ := o3.cell (i := 0) (by omega)
    simp only [Value.slice.injEq, true_and] at eg
    obtain ⟨rfl, rfl⟩ := eg
    have hcap : m ≤ kc3 := by
      rcases o3.row.2 with ⟨_, h0⟩ | ⟨g', cp, cur, e, hb, hg, hnc, -⟩
      · omega
      · simp only [Value.slice.injEq] at e
        omega
    have HO : Hid (LKd w3 w2.heap.size g m kc3 vs3 S) := o3
    have hcM : c < w2.heap.size := z2
    clear o3 na3
    go_wp2_with fail
    refine (l1Below_any W0 c len cap a0 8 w3 F3.out.cu (by omega) (by omega)).mono ?_
    rintro e w4 ⟨x4, rfl, hx4, c4, g4⟩
    have F4 : Hid (KE w w4 W0 c a0 len cap gl n ge k G E) := F3.out.on c4 g4 (fun j h => by cases h; exact Nat.le_refl _)
    have O4 : Hid (LKd w4 w2.heap.size g m kc3 vs3 S) := HO.out.keep fun j hj hz => g4.block j hz (fun e => by injection e; omega)
    clear c4 g4 F3 HO
    by_cases x0 : x4 = 0
    · subst x0
      clear hx4
      go_wp2_with fail
      refine (l1Below_any W0 c len cap a0 m w4 F4.out.cu (by omega) (by omega)).mono ?_
      rintro e w5 ⟨x5, rfl, hx5, c5, g5⟩
      obtain ⟨j, rfl⟩ : ∃ j : Nat, x5 = (j : Int) := ⟨x5.toNat, by omega⟩
      have hj : 1 + j ≤ m := by omega
      have hsl := slice_kt (some ⟨g, 0, none⟩) m kc3 (1 + j) (by omega)
      rw [show (((1 + j : Nat)) : Int) = 1 + (j : Int) by omega] at hsl
      have F5 : Hid (KE w w5 W0 c a0 len cap gl n ge k G E) := F4.out.on c5 g5 (fun j h => by cases h; exact Nat.le_refl _)
      have O5 : LKd w5 w2.heap.size g m kc3 vs3 S := O4.out.keep fun j hj hz => g5.block j hz (fun e => by injection e; omega)
      obtain ⟨q, hq⟩ := O5.take HKS.out hcM hj
      have HQ : Hid (KD w5 c (some ⟨g, 0, none⟩) (1 + j) q) := hq
      clear c5 g5 F4 O4 O5 hq hx5
      go_wp2_with fail
      clear hsl
      go_wp2_with fail
      refine (l1Below_any W0 c len cap a0 (k + 1) _ F5.out.cu (by omega) (by omega)).mono ?_
      rintro e wy ⟨x7, rfl, hx7, c7, g7⟩
      have G7 : Hid (KE w wy W0 c a0 len cap gl n ge k G E) := F5.out.on c7 g7 (fun j h => by cases h; exact Nat.le_refl _)
      have Q7 : Hid (KD wy c (some ⟨g, 0, none⟩) (1 + j) _) := HQ.out.grown g7
      clear c7 g7 F5 HQ
      go_wp2_with fail
      refine (l1Below_any W0 c len cap a0 20 wy G7.out.cu (by omega) (by omega)).mono ?_
      rintro e wz ⟨x8, rfl, hx8, c8, g8⟩
      have G8 : Hid (KE w wz W0 c a0 len cap gl n ge k G E) := G7.out.on c8 g8 (fun j h => by cases h; exact Nat.le_refl _)
      have Q8 : Hid (KD wz c (some ⟨g, 0, none⟩) (1 + j) _) := Q7.out.grown g8
      clear c8 g8 G7 Q7
      obtain ⟨q9, hq9, q90, q91⟩ : ∃ q9 : Int, Int.tdiv x8 19 = q9 ∧ 0 ≤ q9 ∧ q9 ≤ 1 := ⟨_, rfl, by
        rw [Int.tdiv_eq_ediv_of_nonneg hx8.1]; omega, by
        rw [Int.tdiv_eq_ediv_of_nonneg hx8.1]; omega⟩
      have HZ : Hid (-1 ≤ x7 - q9 ∧ x7 - q9 ≤ (k : Int)) := by
        show -1 ≤ x7 - q9 ∧ x7 - q9 ≤ (k : Int)
        omega
      go_wp2
      exact bodyPost_ret (v := .tuple #[.slice (some ⟨gl, 0, none⟩) n gc, .slice (some ⟨ge, 0, none⟩) k ec, .slice (some ⟨g, 0, none⟩) (1 + j) kc3, .int .i64 (x7 - q9)]) (by simp [results, Tryz.results30, go_sem]) rfl ⟨gl, n, gc, ge, k, ec, G, E, (some ⟨g, 0, none⟩), (1 + j), kc3, _, _, rfl, HKC.out, ⟨Nat.lt_trans G8.out.li.1 G8.out.cu.lt, G8.out.li.2⟩, ⟨Nat.lt_trans G8.out.ev.1 G8.out.cu.lt, G8.out.ev.2⟩, Q8.out.al _ (World.grownBy.refl _ _), Q8.out.ln, HZ.out, G8.out.be⟩
    by_cases x1 : x4 = 1
    · subst x1
      clear hx4 x0
      go_wp2_with fail
      refine (l1Below_any W0 c len cap a0 m w4 F4.out.cu (by omega) (by omega)).mono ?_
      rintro e w5 ⟨x5, rfl, hx5, c5, g5⟩
      obtain ⟨j, rfl⟩ : ∃ j : Nat, x5 = (j : Int) := ⟨x5.toNat, by omega⟩
      have hj : j < m := by omega
      have hj' : (j : Int) < (m : Int) := by omega
      have F5 : Hid (KE w w5 W0 c a0 len cap gl n ge k G E) := F4.out.on c5 g5 (fun j h => by cases h; exact Nat.le_refl _)
      have O5 : Hid (LKd w5 w2.heap.size g m kc3 vs3 S) := O4.out.keep fun j hj hz => g5.block j hz (fun e => by injection e; omega)
      clear c5 g5 F4 O4 hx5
      go_wp2_with fail
      refine (l1Below_any W0 c len cap a0 4 w5 F5.out.cu (by omega) (by omega)).mono ?_
      rintro e w6 ⟨x6, rfl, hx6, c6, g6⟩
      have F6 : Hid (KE w w6 W0 c a0 len cap gl n ge k G E) := F5.out.on c6 g6 (fun j h => by cases h; exact Nat.le_refl _)
      have O6 : LKd w6 w2.heap.size g m kc3 vs3 S := O5.out.keep fun j hj hz => g6.block j hz (fun e => by injection e; omega)
      obtain ⟨q, hq⟩ := O6.spoil HKS.out hcM hj x6
      have HQ : Hid (KD (w6.setCell ⟨g, j * 5 + 1, none⟩ (.int .i64 x6)) c (some ⟨g, 0, none⟩) m q) := hq
      have F7 : Hid (KE w (w6.setCell ⟨g, j * 5 + 1, none⟩ (.int .i64 x6)) W0 c a0 len cap gl n ge k G E) := F6.out.on (F6.out.cu.setOther (by show g ≠ c; have := O6.gr.1; omega) (by show W0 ≤ g; have := O6.gr.1; have := F6.out.cu.ge; omega) _) (grown_setCell (World.grownBy.refl _ _) (.inl rfl) _) (fun j h => by cases h; show c ≤ g; have := O6.gr.1; omega)
      obtain ⟨t6, ht6⟩ := O6.pick
      obtain ⟨-, q1, -⟩ := O6.cells5 ht6 hj
      clear ht6
      have fz : ∀ i, w6.frozen? ⟨g, i, none⟩ = false := fun i => O6.row.frozenAt i
      clear c6 g6 F5 O5 O6 hq hx6 F6
      go_wp2_with fail
      clear q1 fz
      go_wp2_with fail
      refine (l1Below_any W0 c len cap a0 (k + 1) _ F7.out.cu (by omega) (by omega)).mono ?_
      rintro e wy ⟨x7, rfl, hx7, c7, g7⟩
      have G7 : Hid (KE w wy W0 c a0 len cap gl n ge k G E) := F7.out.on c7 g7 (fun j h => by cases h; exact Nat.le_refl _)
      have Q7 : Hid (KD wy c (some ⟨g, 0, none⟩) m _) := HQ.out.grown g7
      clear c7 g7 F7 HQ
      go_wp2_with fail
      refine (l1Below_any W0 c len cap a0 20 wy G7.out.cu (by omega) (by omega)).mono ?_
      rintro e wz ⟨x8, rfl, hx8, c8, g8⟩
      have G8 : Hid (KE w wz W0 c a0 len cap gl n ge k G E) := G7.out.on c8 g8 (fun j h => by cases h; exact Nat.le_refl _)
      have Q8 : Hid (KD wz c (some ⟨g, 0, none⟩) m _) := Q7.out.grown g8
      clear c8 g8 G7 Q7
      obtain ⟨q9, hq9, q90, q91⟩ : ∃ q9 : Int, Int.tdiv x8 19 = q9 ∧ 0 ≤ q9 ∧ q9 ≤ 1 := ⟨_, rfl, by
        rw [Int.tdiv_eq_ediv_of_nonneg hx8.1]; omega, by
        rw [Int.tdiv_eq_ediv_of_nonneg hx8.1]; omega⟩
      have HZ : Hid (-1 ≤ x7 - q9 ∧ x7 - q9 ≤ (k : Int)) := by
        show -1 ≤ x7 - q9 ∧ x7 - q9 ≤ (k : Int)
        omega
      go_wp2
      exact bodyPost_ret (v := .tuple #[.slice (some ⟨gl, 0, none⟩) n gc, .slice (some ⟨ge, 0, none⟩) k ec, .slice (some ⟨g, 0, none⟩) m kc3, .int .i64 (x7 - q9)]) (by simp [results, Tryz.results30, go_sem]) rfl ⟨gl, n, gc, ge, k, ec, G, E, (some ⟨g, 0, none⟩), m, kc3, _, _, rfl, HKC.out, ⟨Nat.lt_trans G8.out.li.1 G8.out.cu.lt, G8.out.li.2⟩, ⟨Nat.lt_trans G8.out.ev.1 G8.out.cu.lt, G8.out.ev.2⟩, Q8.out.al _ (World.grownBy.refl _ _), Q8.out.ln, HZ.out, G8.out.be⟩
    by_cases x2 : x4 = 2
    · subst x2
      clear hx4 x0 x1
      obtain ⟨a', hsl, ha'⟩ := slice_kf g m kc3 (by omega) hcap
      have HQ : Hid (∃ q, KD w4 c a' (m - 1) q) := by
        by_cases h2 : 2 ≤ m
        · rw [ha' h2]
          exact O4.out.drop HKS.out hcM (by omega)
        · rw [show m - 1 = 0 by omega]
          exact ⟨fun _ => kO 0 (none, 0, none, 0) ⟨0, [], [], 0⟩ 0, KD.none⟩
      clear ha' O4
      go_wp2_with fail
      clear hsl
      obtain ⟨q, HQ⟩ := HQ.out
      have HQ : Hid (KD w4 c a' (m - 1) q) := HQ
      go_wp2_with fail
      refine (l1Below_any W0 c len cap a0 (k + 1) _ F4.out.cu (by omega) (by omega)).mono ?_
      rintro e wy ⟨x7, rfl, hx7, c7, g7⟩
      have G7 : Hid (KE w wy W0 c a0 len cap gl n ge k G E) := F4.out.on c7 g7 (fun j h => by cases h; exact Nat.le_refl _)
      have Q7 : Hid (KD wy c a' (m - 1) _) := HQ.out.grown g7
      clear c7 g7 F4 HQ
      go_wp2_with fail
      refine (l1Below_any W0 c len cap a0 20 wy G7.out.cu (by omega) (by omega)).mono ?_
      rintro e wz ⟨x8, rfl, hx8, c8, g8⟩
      have G8 : Hid (KE w wz W0 c a0 len cap gl n ge k G E) := G7.out.on c8 g8 (fun j h => by cases h; exact Nat.le_refl _)
      have Q8 : Hid (KD wz c a' (m - 1) _) := Q7.out.grown g8
      clear c8 g8 G7 Q7
      obtain ⟨q9, hq9, q90, q91⟩ : ∃ q9 : Int, Int.tdiv x8 19 = q9 ∧ 0 ≤ q9 ∧ q9 ≤ 1 := ⟨_, rfl, by
        rw [Int.tdiv_eq_ediv_of_nonneg hx8.1]; omega, by
        rw [Int.tdiv_eq_ediv_of_nonneg hx8.1]; omega⟩
      have HZ : Hid (-1 ≤ x7 - q9 ∧ x7 - q9 ≤ (k : Int)) := by
        show -1 ≤ x7 - q9 ∧ x7 - q9 ≤ (k : Int)
        omega
      go_wp2
      exact bodyPost_ret (v := .tuple #[.slice (some ⟨gl, 0, none⟩) n gc, .slice (some ⟨ge, 0, none⟩) k ec, .slice a' (m - 1) (kc3 - 1), .int .i64 (x7 - q9)]) (by simp [results, Tryz.results30, go_sem]) rfl ⟨gl, n, gc, ge, k, ec, G, E, a', (m - 1), (kc3 - 1), _, _, rfl, HKC.out, ⟨Nat.lt_trans G8.out.li.1 G8.out.cu.lt, G8.out.li.2⟩, ⟨Nat.lt_trans G8.out.ev.1 G8.out.cu.lt, G8.out.ev.2⟩, Q8.out.al _ (World.grownBy.refl _ _), Q8.out.ln, HZ.out, G8.out.be⟩
    by_cases x3 : x4 = 3
    · subst x3
      clear hx4 x0 x1 x2
      obtain ⟨ra, rc, oa, oc, ⟨y0, y1, y2, y3, y4⟩, hap⟩ := O4.out.first (c := c) (by omega)
      go_wp2_with (at_builtin; refine step_append_val kndK w4 rfl rfl _ _ rfl 0 (.slice (some ⟨g, 0, none⟩) m kc3) m _ rfl O4.out.row #[.int .i64 0, .int .i64 (S 0).p, .slice ra (S 0).rs.length rc, .slice oa (S 0).os.length oc, .int .i64 (S 0).c] rfl rfl (by intro u hu; simp at hu; rcases hu with rfl | rfl | rfl | rfl | rfl <;> rfl) (by omega) (Nat.zero_le _) ?_; intro v5 w5 r2 r3 r4 r5; obtain ⟨a5, c5, rfl⟩ := ownsRow_sliceK r2; have hq := hap rfl HKS.out hcM r2 (fun j hj => (r4 j (by cases a5 with | none => cases hj | some a5 => exact hj)).imp (fun e => (Option.some.inj (show some g = some j from e)).symm) id) r3; have F5 : Hid (KE w w5 W0 c a0 len cap gl n ge k G E) := F4.out.on (F4.out.cu.kept r3 (fun e => by have := O4.out.gr.1; have h9 : c = g := Option.some.inj e; omega) (fun j h => by have := O4.out.gr.1; have := F4.out.cu.ge; have h9 : g = j := Option.some.inj h; omega)) r3 (fun j h => by have := O4.out.gr.1; have h9 : g = j := Option.some.inj h; omega); have HQ0 : Hid (∃ q, KD w5 c a5 (m + 1) q) := hq; clear hap hq r2 r3 r4 r5 y0 y1 y2 y3 y4)
      clear O4
      obtain ⟨q, HQ⟩ := HQ0.out
      have HQ : Hid (KD w5 c a5 (m + 1) q) := HQ
      go_wp2_with fail
      refine (l1Below_any W0 c len cap a0 (k + 1) _ F5.out.cu (by omega) (by omega)).mono ?_
      rintro e wy ⟨x7, rfl, hx7, c7, g7⟩
      have G7 : Hid (KE w wy W0 c a0 len cap gl n ge k G E) := F5.out.on c7 g7 (fun j h => by cases h; exact Nat.le_refl _)
      have Q7 : Hid (KD wy c a5 (m + 1) _) := HQ.out.grown g7
      clear c7 g7 F5 HQ
      go_wp2_with fail
      refine (l1Below_any W0 c len cap a0 20 wy G7.out.cu (by omega) (by omega)).mono ?_
      rintro e wz ⟨x8, rfl, hx8, c8, g8⟩
      have G8 : Hid (KE w wz W0 c a0 len cap gl n ge k G E) := G7.out.on c8 g8 (fun j h => by cases h; exact Nat.le_refl _)
      have Q8 : Hid (KD wz c a5 (m + 1) _) := Q7.out.grown g8
      clear c8 g8 G7 Q7
      obtain ⟨q9, hq9, q90, q91⟩ : ∃ q9 : Int, Int.tdiv x8 19 = q9 ∧ 0 ≤ q9 ∧ q9 ≤ 1 := ⟨_, rfl, by
        rw [Int.tdiv_eq_ediv_of_nonneg hx8.1]; omega, by
        rw [Int.tdiv_eq_ediv_of_nonneg hx8.1]; omega⟩
      have HZ : Hid (-1 ≤ x7 - q9 ∧ x7 - q9 ≤ (k : Int)) := by
        show -1 ≤ x7 - q9 ∧ x7 - q9 ≤ (k : Int)
        omega
      go_wp2
      exact bodyPost_ret (v := .tuple #[.slice (some ⟨gl, 0, none⟩) n gc, .slice (some ⟨ge, 0, none⟩) k ec, .slice a5 (m + 1) c5, .int .i64 (x7 - q9)]) (by simp [results, Tryz.results30, go_sem]) rfl ⟨gl, n, gc, ge, k, ec, G, E, a5, (m + 1), c5, _, _, rfl, HKC.out, ⟨Nat.lt_trans G8.out.li.1 G8.out.cu.lt, G8.out.li.2⟩, ⟨Nat.lt_trans G8.out.ev.1 G8.out.cu.lt, G8.out.ev.2⟩, Q8.out.al _ (World.grownBy.refl _ _), Q8.out.ln, HZ.out, G8.out.be⟩
    · have x0' : (x4 == 0) = false := by simp; omega
      have x1' : (x4 == 1) = false := by simp; omega
      have x2' : (x4 == 2) = false := by simp; omega
      have x3' : (x4 == 3) = false := by simp; omega
      clear x0 x1 x2 x3 hx4
      obtain ⟨q, hq⟩ := O4.out.take HKS.out hcM (Nat.le_refl m)
      have HQ : Hid (KD w4 c (some ⟨g, 0, none⟩) m q) := hq
      clear O4 hq
      go_wp2_with fail
      refine (l1Below_any W0 c len cap a0 (k + 1) _ F4.out.cu (by omega) (by omega)).mono ?_
      rintro e wy ⟨x7, rfl, hx7, c7, g7⟩
      have G7 : Hid (KE w wy W0 c a0 len cap gl n ge k G E) := F4.out.on c7 g7 (fun j h => by cases h; exact Nat.le_refl _)
      have Q7 : Hid (KD wy c (some ⟨g, 0, none⟩) m _) := HQ.out.grown g7
      clear c7 g7 F4 HQ
      go_wp2_with fail
      refine (l1Below_any W0 c len cap a0 20 wy G7.out.cu (by omega) (by omega)).mono ?_
      rintro e wz ⟨x8, rfl, hx8, c8, g8⟩
      have G8 : Hid (KE w wz W0 c a0 len cap gl n ge k G E) := G7.out.on c8 g8 (fun j h => by cases h; exact Nat.le_refl _)
      have Q8 : Hid (KD wz c (some ⟨g, 0, none⟩) m _) := Q7.out.grown g8
      clear c8 g8 G7 Q7
      obtain ⟨q9, hq9, q90, q91⟩ : ∃ q9 : Int, Int.tdiv x8 19 = q9 ∧ 0 ≤ q9 ∧ q9 ≤ 1 := ⟨_, rfl, by
        rw [Int.tdiv_eq_ediv_of_nonneg hx8.1]; omega, by
        rw [Int.tdiv_eq_ediv_of_nonneg hx8.1]; omega⟩
      have HZ : Hid (-1 ≤ x7 - q9 ∧ x7 - q9 ≤ (k : Int)) := by
        show -1 ≤ x7 - q9 ∧ x7 - q9 ≤ (k : Int)
        omega
      go_wp2
      exact bodyPost_ret (v := .tuple #[.slice (some ⟨gl, 0, none⟩) n gc, .slice (some ⟨ge, 0, none⟩) k ec, .slice (some ⟨g, 0, none⟩) m kc3, .int .i64 (x7 - q9)]) (by simp [results, Tryz.results30, go_sem]) rfl ⟨gl, n, gc, ge, k, ec, G, E, (some ⟨g, 0, none⟩), m, kc3, _, _, rfl, HKC.out, ⟨Nat.lt_trans G8.out.li.1 G8.out.cu.lt, G8.out.li.2⟩, ⟨Nat.lt_trans G8.out.ev.1 G8.out.cu.lt, G8.out.ev.2⟩, Q8.out.al _ (World.grownBy.refl _ _), Q8.out.ln, HZ.out, G8.out.be⟩

set_option maxRecDepth 100000 in
set_option maxHeartbeats 1000000 in
theorem DrawRestore_any (W0 len cap : Nat) (a0 : Option Addr) (w : World) (hB : BytesAt w W0 a0 len) (hW : W0 ≤ w.heap.size) (hl : len ≤ 1048576) :
    Calls Tryz.prog 14 #[.slice a0 len cap] w (DrwK w) := by
  have HC := l10Draw_any W0 len cap a0 w hB hW hl
  clear hB hW hl
  go_enter Tryz.func14, Tryz.ntmps14
  go_wp2_with fail
  refine HC.mono ?_
  clear HC
  rintro e w1 ⟨gl, n, gc, ge, k, ec, G, E, ka, m, kc, q, z, rfl, h⟩
  have HD : Hid (DrwK w (.returned (.tuple #[.slice (some ⟨gl, 0, none⟩) n gc, .slice (some ⟨ge, 0, none⟩) k ec, .slice ka m kc, .int .i64 z])) w1) := ⟨gl, n, gc, ge, k, ec, G, E, ka, m, kc, q, z, rfl, h⟩
  clear h
  go_wp2
  exact bodyPost_ret (v := .tuple #[.slice (some ⟨gl, 0, none⟩) n gc, .slice (some ⟨ge, 0, none⟩) k ec, .slice ka m kc, .int .i64 z]) (by simp [results, Tryz.results14, go_sem]) rfl HD.out

end Go.Proofs.YtcmmlklanjhfoaaGreatDoor
