/- Lists of kept states: their copies. -/
import Derived.Test.YtcmmlklanjhfoaaGreatDoorGa22
namespace Go.Proofs.YtcmmlklanjhfoaaGreatDoor
open Go.ChangeShapes Go.WideShapes Go.ChangeAt Go.RowKit Go.Deep

theorem ownsRow_blk {w w' : World} {B size n : Nat} {e : TypeId} {v : Value} {xs : List Value} (h : w.ownsRow B e size v n xs) (hb : ∀ k, v.ownBlock = some k → w'.heap[k]? = w.heap[k]?) : w'.ownsRow B e size v n xs := by
  obtain ⟨h0, h⟩ := h
  refine ⟨h0, ?_⟩
  rcases h with h | ⟨g, cap, cur, rfl, h1, h2, h3⟩
  · exact .inl h
  · exact .inr ⟨g, cap, cur, rfl, h1, (hb g rfl).trans h2, h3⟩
theorem OwnI.blk {w w' : World} {B : Nat} {v : Value} {xs : List Int} (h : OwnI w B v xs) (hb : ∀ k, v.ownBlock = some k → w'.heap[k]? = w.heap[k]?) : OwnI w' B v xs := ownsRow_blk h hb
theorem StOwn.blk {w w' : World} {B : Nat} {v : Value} {p code : Int} {rs os : List Int} (h : StOwn w B v p rs os code) (hb : ∀ k, hasBlock v k → w'.heap[k]? = w.heap[k]?) : StOwn w' B v p rs os code := by
  obtain ⟨vr, vo, rfl, h1, h2, h3⟩ := h
  exact ⟨vr, vo, rfl, h1.blk fun k hk => hb k ((hasBlock_iff _ _ _ _ _).2 (.inl hk)), h2.blk fun k hk => hb k ((hasBlock_iff _ _ _ _ _).2 (.inr hk)), h3⟩

/-- The state S lies in four cells of block D from cell j on, its lists where v says. -/
def Cel4 (w : World) (D j : Nat) (S : S4) (v : Value) : Prop := ∃ ra rc oa oc, v = stV S.p ra S.rs.length rc oa S.os.length oc S.c ∧ w.cell? ⟨D, j, none⟩ = some (.int .i64 S.p) ∧ w.cell? ⟨D, j + 1, none⟩ = some (.slice ra S.rs.length rc) ∧ w.cell? ⟨D, j + 2, none⟩ = some (.slice oa S.os.length oc) ∧ w.cell? ⟨D, j + 3, none⟩ = some (.int .i64 S.c)

/-- The copies of n states, in block D; their lists behind it. -/
structure OutState (w : World) (D hi n : Nat) (S : Nat → S4) (vs : Nat → Value) : Prop where
  cel : ∀ i, i < n → Cel4 w D (i * 4) (S i) (vs i)
  own : ∀ i, i < n → StOwn w (D + 1) (vs i) (S i).p (S i).rs (S i).os (S i).c
  bd : ∀ i, i < n → ∀ k, hasBlock (vs i) k → k < hi
  apart : ∀ i j, i < j → j < n → ∀ k, hasBlock (vs i) k → ¬ hasBlock (vs j) k
  fr : ∀ j, w.frozen? ⟨D, j, none⟩ = false
  le : hi ≤ w.heap.size
  lt : D < hi
theorem Cel4.blk {w w' : World} {D j : Nat} {S : S4} {v : Value} (h : Cel4 w D j S v) (hb : w'.heap[D]? = w.heap[D]?) : Cel4 w' D j S v := by
  obtain ⟨ra, rc, oa, oc, e, h0, h1, h2, h3⟩ := h
  exact ⟨ra, rc, oa, oc, e, (World.cell?_of_block hb).trans h0, (World.cell?_of_block hb).trans h1, (World.cell?_of_block hb).trans h2, (World.cell?_of_block hb).trans h3⟩
theorem OutState.below {w w' : World} {D hi n B : Nat} {S : Nat → S4} {vs : Nat → Value} (o : OutState w D hi n S vs) (hb : Below B w w') (hB : hi ≤ B) : OutState w' D hi n S vs :=
  have hD : w'.heap[D]? = w.heap[D]? := hb.block D (Nat.lt_of_lt_of_le o.lt hB)
  ⟨fun i hi' => (o.cel i hi').blk hD, fun i hi' => (o.own i hi').blk fun k hk => hb.block k (Nat.lt_of_lt_of_le (o.bd i hi' k hk) hB), o.bd, o.apart, fun j => (World.frozen?_of_block hD).trans (o.fr j), Nat.le_trans o.le hb.size, o.lt⟩

theorem OutState.keep {w w' : World} {D hi n : Nat} {S : Nat → S4} {vs : Nat → Value} (o : OutState w D hi n S vs) (hs : w.heap.size ≤ w'.heap.size) (hb : ∀ k, D ≤ k → k < hi → w'.heap[k]? = w.heap[k]?) : OutState w' D hi n S vs :=
  have hD : w'.heap[D]? = w.heap[D]? := hb D (Nat.le_refl _) o.lt
  ⟨fun i hi' => (o.cel i hi').blk hD, fun i hi' => (o.own i hi').blk fun k hk => hb k (by have := ((o.own i hi').lt hk).1; omega) (o.bd i hi' k hk), o.bd, o.apart, fun j => (World.frozen?_of_block hD).trans (o.fr j), Nat.le_trans o.le hs, o.lt⟩

theorem infoSta : (Tryz.prog.info? 32).map (fun i => (i.zero, i.size, i.bytes)) = some (some (stV 0 none 0 0 none 0 0 0), 4, 64) := by kernel_rfl
theorem madeSta_row (w : World) (n : Nat) : ∃ f, (w.alloc (.cells (madeCells (stV 0 none 0 0 none 0 0 0).cells (n * 4)) 32)).rowIs w.heap.size 32 (n * 4) f := by
  refine ⟨fun i => (stV 0 none 0 0 none 0 0 0).cells[i % 4]!, _, blk_alloc_new _ _, size_madeCells _ _, fun i hi => ?_⟩
  simp only [madeCells]
  rw [Array.getElem?_map, Array.getElem?_range, if_pos hi]
  rfl

/-- The first k states of a row that is being filled. -/
structure FillS (w : World) (D k : Nat) (f : Nat → Value) (S : Nat → S4) (vs : Nat → Value) : Prop where
  cel : ∀ i, i < k → ∃ ra rc oa oc, vs i = stV (S i).p ra (S i).rs.length rc oa (S i).os.length oc (S i).c ∧ f (i * 4) = .int .i64 (S i).p ∧ f (i * 4 + 1) = .slice ra (S i).rs.length rc ∧ f (i * 4 + 2) = .slice oa (S i).os.length oc ∧ f (i * 4 + 3) = .int .i64 (S i).c
  own : ∀ i, i < k → StOwn w (D + 1) (vs i) (S i).p (S i).rs (S i).os (S i).c
  apart : ∀ i j, i < j → j < k → ∀ b, hasBlock (vs i) b → ¬ hasBlock (vs j) b
theorem FillS.step {w w1 : World} {D k : Nat} {f : Nat → Value} {S : Nat → S4} {vs : Nat → Value} (o : FillS w D k f S vs) (hb : Below w.heap.size w w1) (hD : D < w.heap.size) {ra oa : Option Addr} {rc oc : Nat} (hv : StOwn w1 w.heap.size (stV (S k).p ra (S k).rs.length rc oa (S k).os.length oc (S k).c) (S k).p (S k).rs (S k).os (S k).c) (a b c d : Value) :
    FillS ((((w1.setCell ⟨D, k * 4, none⟩ a).setCell ⟨D, k * 4 + 1, none⟩ b).setCell ⟨D, k * 4 + 2, none⟩ c).setCell ⟨D, k * 4 + 3, none⟩ d) D (k + 1)
      (fun i => if i = k * 4 + 3 then .int .i64 (S k).c else if i = k * 4 + 2 then .slice oa (S k).os.length oc else if i = k * 4 + 1 then .slice ra (S k).rs.length rc else if i = k * 4 then .int .i64 (S k).p else f i) S
      (fun i => if i = k then stV (S k).p ra (S k).rs.length rc oa (S k).os.length oc (S k).c else vs i) := by
  have hs : ∀ g, g ≠ D → ((((w1.setCell ⟨D, k * 4, none⟩ a).setCell ⟨D, k * 4 + 1, none⟩ b).setCell ⟨D, k * 4 + 2, none⟩ c).setCell ⟨D, k * 4 + 3, none⟩ d).heap[g]? = w1.heap[g]? := fun g hne => (Below.heap_setCell _ _ _ _ hne).trans ((Below.heap_setCell _ _ _ _ hne).trans ((Below.heap_setCell _ _ _ _ hne).trans (Below.heap_setCell _ _ _ _ hne)))
  refine ⟨fun i hi => ?_, fun i hi => ?_, fun i j hij hj g h1 => ?_⟩
  · by_cases e : i = k
    · subst e
      exact ⟨ra, rc, oa, oc, by simp, by simp, by simp, by simp, by simp⟩
    · obtain ⟨ra', rc', oa', oc', e0, e1, e2, e3, e4⟩ := o.cel i (by omega)
      refine ⟨ra', rc', oa', oc', by simp only [if_neg e]; exact e0, ?_, ?_, ?_, ?_⟩
      · rw [if_neg (by omega), if_neg (by omega), if_neg (by omega), if_neg (by omega)]; exact e1
      · rw [if_neg (by omega), if_neg (by omega), if_neg (by omega), if_neg (by omega)]; exact e2
      · rw [if_neg (by omega), if_neg (by omega), if_neg (by omega), if_neg (by omega)]; exact e3
      · rw [if_neg (by omega), if_neg (by omega), if_neg (by omega), if_neg (by omega)]; exact e4
  · by_cases e : i = k
    · subst e
      simp only [if_true]
      refine StOwn.blk (hv.mono (by omega)) fun g hg => hs g ?_
      have := (hv.lt hg).1
      omega
    · simp only [if_neg e]
      have ho := o.own i (by omega)
      refine (ho.below hb).blk fun g hg => hs g ?_
      have := (ho.lt hg).1
      omega
  · by_cases e : j = k
    · have hi : i ≠ k := by omega
      simp only [if_neg hi] at h1
      simp only [if_pos e]
      intro h2
      have a1 := ((o.own i (by omega)).lt h1).2
      have a2 := (hv.lt h2).1
      omega
    · have hi : i ≠ k := by omega
      simp only [if_neg hi] at h1
      simp only [if_neg e]
      exact o.apart i j hij (by omega) g h1

end Go.Proofs.YtcmmlklanjhfoaaGreatDoor

namespace Go.Proofs.YtcmmlklanjhfoaaGreatDoor
open Go.ChangeShapes Go.WideShapes Go.ChangeAt Go.RowKit Go.Deep

/-- A kept state that came in: behind how many events, and the state. -/
structure K9 extends St8 where
  n : Int
abbrev kpV (n p : Int) (ra : Option Addr) (rn rc : Nat) (oa : Option Addr) (on oc : Nat) (c : Int) : Value := .agg #[.int .i64 n, .int .i64 p, .slice ra rn rc, .slice oa on oc, .int .i64 c]

/-- Kept states that came in. -/
structure AllKept (W : World) (a0 : Option Addr) (n : Nat) (q : Nat → K9) : Prop where
  row : n = 0 ∨ ∃ b off, a0 = some ⟨b, off, none⟩ ∧ b < W.heap.size ∧ ∀ i, i < n → W.cell? ⟨b, off + i * 5, none⟩ = some (.int .i64 (q i).n) ∧ W.cell? ⟨b, off + i * 5 + 1, none⟩ = some (.int .i64 (q i).p) ∧ W.cell? ⟨b, off + i * 5 + 2, none⟩ = some (.slice (q i).ra (q i).rs.length (q i).rc) ∧ W.cell? ⟨b, off + i * 5 + 3, none⟩ = some (.slice (q i).oa (q i).os.length (q i).oc) ∧ W.cell? ⟨b, off + i * 5 + 4, none⟩ = some (.int .i64 (q i).c)
  lst : ∀ i, i < n → Sl W (q i).ra (q i).rs ∧ Sl W (q i).oa (q i).os
theorem AllKept.below {w w' : World} {a0 : Option Addr} {n : Nat} {q : Nat → K9} (h : AllKept w a0 n q) (hb : Below w.heap.size w w') : AllKept w' a0 n q := by
  refine ⟨?_, fun i hi => ⟨(h.lst i hi).1.below hb, (h.lst i hi).2.below hb⟩⟩
  rcases h.row with h | ⟨b, off, e, hlt, hc⟩
  · exact .inl h
  · exact .inr ⟨b, off, e, Nat.lt_of_lt_of_le hlt hb.size, fun i hi => by
      obtain ⟨h0, h1, h2, h3, h4⟩ := hc i hi
      exact ⟨(hb.cell hlt).trans h0, (hb.cell hlt).trans h1, (hb.cell hlt).trans h2, (hb.cell hlt).trans h3, (hb.cell hlt).trans h4⟩⟩
theorem AllKept.at {w : World} {a0 : Option Addr} {n : Nat} {q : Nat → K9} (h : AllKept w a0 n q) {k : Nat} (hk : k < n) : ∃ b off, a0 = some ⟨b, off, none⟩ ∧ w.cell? ⟨b, off + k * 5, none⟩ = some (.int .i64 (q k).n) ∧ w.cell? ⟨b, off + k * 5 + 1, none⟩ = some (.int .i64 (q k).p) ∧ w.cell? ⟨b, off + k * 5 + 2, none⟩ = some (.slice (q k).ra (q k).rs.length (q k).rc) ∧ w.cell? ⟨b, off + k * 5 + 3, none⟩ = some (.slice (q k).oa (q k).os.length (q k).oc) ∧ w.cell? ⟨b, off + k * 5 + 4, none⟩ = some (.int .i64 (q k).c) := by
  rcases h.row with rfl | ⟨b, off, e, -, hc⟩
  · omega
  · exact ⟨b, off, e, hc k hk⟩

end Go.Proofs.YtcmmlklanjhfoaaGreatDoor

namespace Go.Proofs.YtcmmlklanjhfoaaGreatDoor
open Go.ChangeShapes Go.WideShapes Go.ChangeAt Go.RowKit Go.Deep

/-- A kept state lies in five cells of block D from cell j on, its lists where v says. -/
def Cel5 (w : World) (D j : Nat) (N : Int) (S : S4) (v : Value) : Prop := ∃ ra rc oa oc, v = stV S.p ra S.rs.length rc oa S.os.length oc S.c ∧ w.cell? ⟨D, j, none⟩ = some (.int .i64 N) ∧ w.cell? ⟨D, j + 1, none⟩ = some (.int .i64 S.p) ∧ w.cell? ⟨D, j + 2, none⟩ = some (.slice ra S.rs.length rc) ∧ w.cell? ⟨D, j + 3, none⟩ = some (.slice oa S.os.length oc) ∧ w.cell? ⟨D, j + 4, none⟩ = some (.int .i64 S.c)

/-- The copies of n kept states, in block D; their lists behind it. -/
structure OutKept (w : World) (D hi n : Nat) (N : Nat → Int) (S : Nat → S4) (vs : Nat → Value) : Prop where
  cel : ∀ i, i < n → Cel5 w D (i * 5) (N i) (S i) (vs i)
  own : ∀ i, i < n → StOwn w (D + 1) (vs i) (S i).p (S i).rs (S i).os (S i).c
  bd : ∀ i, i < n → ∀ k, hasBlock (vs i) k → k < hi
  apart : ∀ i j, i < j → j < n → ∀ k, hasBlock (vs i) k → ¬ hasBlock (vs j) k
  fr : ∀ j, w.frozen? ⟨D, j, none⟩ = false
  le : hi ≤ w.heap.size
  lt : D < hi
theorem Cel5.blk {w w' : World} {D j : Nat} {N : Int} {S : S4} {v : Value} (h : Cel5 w D j N S v) (hb : w'.heap[D]? = w.heap[D]?) : Cel5 w' D j N S v := by
  obtain ⟨ra, rc, oa, oc, e, h0, h1, h2, h3, h4⟩ := h
  exact ⟨ra, rc, oa, oc, e, (World.cell?_of_block hb).trans h0, (World.cell?_of_block hb).trans h1, (World.cell?_of_block hb).trans h2, (World.cell?_of_block hb).trans h3, (World.cell?_of_block hb).trans h4⟩
theorem OutKept.below {w w' : World} {D hi n B : Nat} {N : Nat → Int} {S : Nat → S4} {vs : Nat → Value} (o : OutKept w D hi n N S vs) (hb : Below B w w') (hB : hi ≤ B) : OutKept w' D hi n N S vs :=
  have hD : w'.heap[D]? = w.heap[D]? := hb.block D (Nat.lt_of_lt_of_le o.lt hB)
  ⟨fun i hi' => (o.cel i hi').blk hD, fun i hi' => (o.own i hi').blk fun k hk => hb.block k (Nat.lt_of_lt_of_le (o.bd i hi' k hk) hB), o.bd, o.apart, fun j => (World.frozen?_of_block hD).trans (o.fr j), Nat.le_trans o.le hb.size, o.lt⟩

theorem OutKept.keep {w w' : World} {D hi n : Nat} {N : Nat → Int} {S : Nat → S4} {vs : Nat → Value} (o : OutKept w D hi n N S vs) (hs : w.heap.size ≤ w'.heap.size) (hb : ∀ k, D ≤ k → k < hi → w'.heap[k]? = w.heap[k]?) : OutKept w' D hi n N S vs :=
  have hD : w'.heap[D]? = w.heap[D]? := hb D (Nat.le_refl _) o.lt
  ⟨fun i hi' => (o.cel i hi').blk hD, fun i hi' => (o.own i hi').blk fun k hk => hb k (by have := ((o.own i hi').lt hk).1; omega) (o.bd i hi' k hk), o.bd, o.apart, fun j => (World.frozen?_of_block hD).trans (o.fr j), Nat.le_trans o.le hs, o.lt⟩

/-- A struct of five cells in block N. -/
def Box5 (w : World) (N : Nat) (v0 v1 v2 v3 v4 : Value) : Prop := w.cell? ⟨N, 0, none⟩ = some v0 ∧ w.cell? ⟨N, 1, none⟩ = some v1 ∧ w.cell? ⟨N, 2, none⟩ = some v2 ∧ w.cell? ⟨N, 3, none⟩ = some v3 ∧ w.cell? ⟨N, 4, none⟩ = some v4
theorem Box5.below {w w' : World} {N : Nat} {v0 v1 v2 v3 v4 : Value} (h : Box5 w N v0 v1 v2 v3 v4) (hb : Below w.heap.size w w') : Box5 w' N v0 v1 v2 v3 v4 := by
  obtain ⟨h0, h1, h2, h3, h4⟩ := h
  have hN := hb.block N (World.block_lt_of_cell? w _ h0)
  exact ⟨(World.cell?_of_block hN).trans h0, (World.cell?_of_block hN).trans h1, (World.cell?_of_block hN).trans h2, (World.cell?_of_block hN).trans h3, (World.cell?_of_block hN).trans h4⟩
theorem Box5.new (w : World) (v0 v1 v2 v3 v4 : Value) (t : TypeId) : Box5 (w.alloc (.cells #[v0, v1, v2, v3, v4] t)) w.heap.size v0 v1 v2 v3 v4 := by
  unfold Box5
  simp
theorem Box5.set5 {w : World} {N : Nat} {z0 z1 z2 z3 z4 : Value} (h : Box5 w N z0 z1 z2 z3 z4) (a b c d e : Value) : Box5 (((((w.setCell ⟨N, 0, none⟩ a).setCell ⟨N, 1, none⟩ b).setCell ⟨N, 2, none⟩ c).setCell ⟨N, 3, none⟩ d).setCell ⟨N, 4, none⟩ e) N a b c d e := by
  obtain ⟨h0, h1, h2, h3, h4⟩ := h
  exact ⟨by go_cell, by go_cell, by go_cell, by go_cell, by go_cell⟩
theorem Box5.setO {w : World} {N M : Nat} {v0 v1 v2 v3 v4 : Value} (h : Box5 w N v0 v1 v2 v3 v4) (hne : M ≠ N) (j : Nat) (u : Value) : Box5 (w.setCell ⟨M, j, none⟩ u) N v0 v1 v2 v3 v4 := by
  obtain ⟨h0, h1, h2, h3, h4⟩ := h
  have hc : ∀ i, (w.setCell ⟨M, j, none⟩ u).cell? ⟨N, i, none⟩ = w.cell? ⟨N, i, none⟩ := fun i => World.cell?_setCell_other _ _ _ _ fun e => hne (by injection e)
  exact ⟨(hc _).trans h0, (hc _).trans h1, (hc _).trans h2, (hc _).trans h3, (hc _).trans h4⟩

theorem StOwn.setK {w : World} {B N : Nat} {v : Value} {p code : Int} {rs os : List Int} (h : StOwn w B v p rs os code) (hN : N < B) (j : Nat) (u : Value) : StOwn (w.setCell ⟨N, j, none⟩ u) B v p rs os code := by
  obtain ⟨vr, vo, e, o1, o2, ha⟩ := h
  exact ⟨vr, vo, e, o1.setBelow hN _, o2.setBelow hN _, ha⟩
theorem infoKpt : (Tryz.prog.info? 48).map (fun i => (i.zero, i.size, i.bytes)) = some (some (kpV 0 0 none 0 0 none 0 0 0), 5, 72) := by kernel_rfl
theorem run_make_kpt (n : Nat) (hn : n ≤ 1048576) (w : World) :
    (Instr.makeSlice 28 (.int .i64 (n : Int)) (.int .i64 (n : Int))).run Tryz.prog w = .ok (.slice (some ⟨w.heap.size, 0, none⟩) n n) (w.alloc (.cells (madeCells (kpV 0 0 none 0 0 none 0 0 0).cells (n * 5)) 48)) := by
  have hinfo := infoKpt
  cases hi : Tryz.prog.info? 48 with
  | none => rw [hi] at hinfo; cases hinfo
  | some i =>
    rw [hi] at hinfo
    simp only [Option.map_some, Option.some.injEq, Prod.mk.injEq] at hinfo
    obtain ⟨hz, hs, hb⟩ := hinfo
    have h := run_make (P := Tryz.prog) w 28 48 i _ Tryz.underlying28 hi hz .i64 .i64 (n : Int) (n : Int) (by omega) (Int.le_refl _) (by rw [hb]; omega) (by omega)
    rw [hs] at h
    simpa using h
theorem madeKpt_row (w : World) (n : Nat) : ∃ f, (w.alloc (.cells (madeCells (kpV 0 0 none 0 0 none 0 0 0).cells (n * 5)) 48)).rowIs w.heap.size 48 (n * 5) f := by
  refine ⟨fun i => (kpV 0 0 none 0 0 none 0 0 0).cells[i % 5]!, _, blk_alloc_new _ _, size_madeCells _ _, fun i hi => ?_⟩
  simp only [madeCells]
  rw [Array.getElem?_map, Array.getElem?_range, if_pos hi]
  rfl

/-- The first k states of a row that is being filled. -/
structure FillK (w : World) (D k : Nat) (f : Nat → Value) (N : Nat → Int) (S : Nat → S4) (vs : Nat → Value) : Prop where
  cel : ∀ i, i < k → ∃ ra rc oa oc, vs i = stV (S i).p ra (S i).rs.length rc oa (S i).os.length oc (S i).c ∧ f (i * 5) = .int .i64 (N i) ∧ f (i * 5 + 1) = .int .i64 (S i).p ∧ f (i * 5 + 2) = .slice ra (S i).rs.length rc ∧ f (i * 5 + 3) = .slice oa (S i).os.length oc ∧ f (i * 5 + 4) = .int .i64 (S i).c
  own : ∀ i, i < k → StOwn w (D + 1) (vs i) (S i).p (S i).rs (S i).os (S i).c
  apart : ∀ i j, i < j → j < k → ∀ b, hasBlock (vs i) b → ¬ hasBlock (vs j) b
theorem FillK.step {w w1 : World} {D k : Nat} {f : Nat → Value} {N : Nat → Int} {S : Nat → S4} {vs : Nat → Value} (o : FillK w D k f N S vs) (hb : Below w.heap.size w w1) (hD : D < w.heap.size) {ra oa : Option Addr} {rc oc : Nat} (hv : StOwn w1 w.heap.size (stV (S k).p ra (S k).rs.length rc oa (S k).os.length oc (S k).c) (S k).p (S k).rs (S k).os (S k).c) (a b c d z : Value) :
    FillK (((((w1.setCell ⟨D, k * 5, none⟩ z).setCell ⟨D, k * 5 + 1, none⟩ a).setCell ⟨D, k * 5 + 2, none⟩ b).setCell ⟨D, k * 5 + 3, none⟩ c).setCell ⟨D, k * 5 + 4, none⟩ d) D (k + 1)
      (fun i => if i = k * 5 + 4 then .int .i64 (S k).c else if i = k * 5 + 3 then .slice oa (S k).os.length oc else if i = k * 5 + 2 then .slice ra (S k).rs.length rc else if i = k * 5 + 1 then .int .i64 (S k).p else if i = k * 5 then .int .i64 (N k) else f i) N S
      (fun i => if i = k then stV (S k).p ra (S k).rs.length rc oa (S k).os.length oc (S k).c else vs i) := by
  have hs : ∀ g, g ≠ D → (((((w1.setCell ⟨D, k * 5, none⟩ z).setCell ⟨D, k * 5 + 1, none⟩ a).setCell ⟨D, k * 5 + 2, none⟩ b).setCell ⟨D, k * 5 + 3, none⟩ c).setCell ⟨D, k * 5 + 4, none⟩ d).heap[g]? = w1.heap[g]? := fun g hne => (Below.heap_setCell _ _ _ _ hne).trans ((Below.heap_setCell _ _ _ _ hne).trans ((Below.heap_setCell _ _ _ _ hne).trans ((Below.heap_setCell _ _ _ _ hne).trans (Below.heap_setCell _ _ _ _ hne))))
  refine ⟨fun i hi => ?_, fun i hi => ?_, fun i j hij hj g h1 => ?_⟩
  · by_cases e : i = k
    · subst e
      exact ⟨ra, rc, oa, oc, by simp, by simp, by simp, by simp, by simp, by simp⟩
    · obtain ⟨ra', rc', oa', oc', e0, e1, e2, e3, e4, e5⟩ := o.cel i (by omega)
      refine ⟨ra', rc', oa', oc', by simp only [if_neg e]; exact e0, ?_, ?_, ?_, ?_, ?_⟩
      · rw [if_neg (by omega), if_neg (by omega), if_neg (by omega), if_neg (by omega), if_neg (by omega)]; exact e1
      · rw [if_neg (by omega), if_neg (by omega), if_neg (by omega), if_neg (by omega), if_neg (by omega)]; exact e2
      · rw [if_neg (by omega), if_neg (by omega), if_neg (by omega), if_neg (by omega), if_neg (by omega)]; exact e3
      · rw [if_neg (by omega), if_neg (by omega), if_neg (by omega), if_neg (by omega), if_neg (by omega)]; exact e4
      · rw [if_neg (by omega), if_neg (by omega), if_neg (by omega), if_neg (by omega), if_neg (by omega)]; exact e5
  · by_cases e : i = k
    · subst e
      simp only [if_true]
      refine StOwn.blk (hv.mono (by omega)) fun g hg => hs g ?_
      have := (hv.lt hg).1
      omega
    · simp only [if_neg e]
      have ho := o.own i (by omega)
      refine (ho.below hb).blk fun g hg => hs g ?_
      have := (ho.lt hg).1
      omega
  · by_cases e : j = k
    · have hi : i ≠ k := by omega
      simp only [if_neg hi] at h1
      simp only [if_pos e]
      intro h2
      have a1 := ((o.own i (by omega)).lt h1).2
      have a2 := (hv.lt h2).1
      omega
    · have hi : i ≠ k := by omega
      simp only [if_neg hi] at h1
      simp only [if_neg e]
      exact o.apart i j hij (by omega) g h1

end Go.Proofs.YtcmmlklanjhfoaaGreatDoor
