/- Lists of states: their copies, and marks on them. -/
import Derived.Test.YtkoghgnbolaooaaKa23
namespace Go.Proofs.Ytkoghgnbolaooaa
open Go.ChangeShapes Go.WideShapes Go.ChangeAt Go.RowKit Go.Deep

theorem ownsRow_blk {w w' : World} {B size n : Nat} {e : TypeId} {v : Value} {xs : List Value} (h : w.ownsRow B e size v n xs) (hb : ∀ k, v.ownBlock = some k → w'.heap[k]? = w.heap[k]?) : w'.ownsRow B e size v n xs := by
  obtain ⟨h0, h⟩ := h
  refine ⟨h0, ?_⟩
  rcases h with h | ⟨g, cap, cur, rfl, h1, h2, h3⟩
  · exact .inl h
  · exact .inr ⟨g, cap, cur, rfl, h1, (hb g rfl).trans h2, h3⟩
theorem OwnI.blk {w w' : World} {B : Nat} {v : Value} {xs : List Int} (h : OwnI w B v xs) (hb : ∀ k, v.ownBlock = some k → w'.heap[k]? = w.heap[k]?) : OwnI w' B v xs := ownsRow_blk h hb
theorem StOwn.blk {w w' : World} {B : Nat} {v : Value} {p code : Int} {rs os : List Int} (h : StOwn w B v p rs os code) (hb : ∀ k, hasBlock v k → w'.heap[k]? = w.heap[k]?) : StOwn w' B v p rs os code := by
  obtain ⟨vr, vo, rfl, h1, h2, h3⟩ := h
  exact ⟨vr, vo, rfl, h1.blk fun k hk => hb k ((hasBlock_iff _ _ _ _ _).2 (.inl hk)), h2.blk fun k hk => hb k ((hasBlock_iff _ _ _ _ _).2 (.inr hk)), h3⟩

/-- The state S lies in four cells of block D from cell j on, its lists where v says. -/
def Cel4 (w : World) (D j : Nat) (S : S4) (v : Value) : Prop := ∃ ra rc oa oc, v = stV S.p ra S.rs.length rc oa S.os.length oc S.c ∧ w.cell? ⟨D, j, none⟩ = some (.int .i64 S.p) ∧ w.cell? ⟨D, j + 1, none⟩ = some (.slice ra S.rs.length rc) ∧ w.cell? ⟨D, j + 2, none⟩ = some (.slice oa S.os.length oc) ∧ w.cell? ⟨D, j + 3, none⟩ = some (.int .i64 S.c)

/-- The copies of n states, in block D; their lists behind it. -/
structure OutState (w : World) (D hi n : Nat) (S : Nat → S4) (vs : Nat → Value) : Prop where
  cel : ∀ i, i < n → Cel4 w D (i * 4) (S i) (vs i)
  own : ∀ i, i < n → StOwn w (D + 1) (vs i) (S i).p (S i).rs (S i).os (S i).c
  bd : ∀ i, i < n → ∀ k, hasBlock (vs i) k → k < hi
  apart : ∀ i j, i < j → j < n → ∀ k, hasBlock (vs i) k → ¬ hasBlock (vs j) k
  fr : ∀ j, w.frozen? ⟨D, j, none⟩ = false
  le : hi ≤ w.heap.size
  lt : D < hi
theorem Cel4.blk {w w' : World} {D j : Nat} {S : S4} {v : Value} (h : Cel4 w D j S v) (hb : w'.heap[D]? = w.heap[D]?) : Cel4 w' D j S v := by
  obtain ⟨ra, rc, oa, oc, e, h0, h1, h2, h3⟩ := h
  exact ⟨ra, rc, oa, oc, e, (World.cell?_of_block hb).trans h0, (World.cell?_of_block hb).trans h1, (World.cell?_of_block hb).trans h2, (World.cell?_of_block hb).trans h3⟩
theorem OutState.below {w w' : World} {D hi n B : Nat} {S : Nat → S4} {vs : Nat → Value} (o : OutState w D hi n S vs) (hb : Below B w w') (hB : hi ≤ B) : OutState w' D hi n S vs :=
  have hD : w'.heap[D]? = w.heap[D]? := hb.block D (Nat.lt_of_lt_of_le o.lt hB)
  ⟨fun i hi' => (o.cel i hi').blk hD, fun i hi' => (o.own i hi').blk fun k hk => hb.block k (Nat.lt_of_lt_of_le (o.bd i hi' k hk) hB), o.bd, o.apart, fun j => (World.frozen?_of_block hD).trans (o.fr j), Nat.le_trans o.le hb.size, o.lt⟩

theorem OutState.keep {w w' : World} {D hi n : Nat} {S : Nat → S4} {vs : Nat → Value} (o : OutState w D hi n S vs) (hs : w.heap.size ≤ w'.heap.size) (hb : ∀ k, D ≤ k → k < hi → w'.heap[k]? = w.heap[k]?) : OutState w' D hi n S vs :=
  have hD : w'.heap[D]? = w.heap[D]? := hb D (Nat.le_refl _) o.lt
  ⟨fun i hi' => (o.cel i hi').blk hD, fun i hi' => (o.own i hi').blk fun k hk => hb k (by have := ((o.own i hi').lt hk).1; omega) (o.bd i hi' k hk), o.bd, o.apart, fun j => (World.frozen?_of_block hD).trans (o.fr j), Nat.le_trans o.le hs, o.lt⟩

theorem infoSta : (Try.prog.info? 47).map (fun i => (i.zero, i.size, i.bytes)) = some (some (stV 0 none 0 0 none 0 0 0), 4, 64) := by kernel_rfl
theorem madeSta_row (w : World) (n : Nat) : ∃ f, (w.alloc (.cells (madeCells (stV 0 none 0 0 none 0 0 0).cells (n * 4)) 47)).rowIs w.heap.size 47 (n * 4) f := by
  refine ⟨fun i => (stV 0 none 0 0 none 0 0 0).cells[i % 4]!, _, blk_alloc_new _ _, size_madeCells _ _, fun i hi => ?_⟩
  simp only [madeCells]
  rw [Array.getElem?_map, Array.getElem?_range, if_pos hi]
  rfl

/-- The first k states of a row that is being filled. -/
structure FillS (w : World) (D k : Nat) (f : Nat → Value) (S : Nat → S4) (vs : Nat → Value) : Prop where
  cel : ∀ i, i < k → ∃ ra rc oa oc, vs i = stV (S i).p ra (S i).rs.length rc oa (S i).os.length oc (S i).c ∧ f (i * 4) = .int .i64 (S i).p ∧ f (i * 4 + 1) = .slice ra (S i).rs.length rc ∧ f (i * 4 + 2) = .slice oa (S i).os.length oc ∧ f (i * 4 + 3) = .int .i64 (S i).c
  own : ∀ i, i < k → StOwn w (D + 1) (vs i) (S i).p (S i).rs (S i).os (S i).c
  apart : ∀ i j, i < j → j < k → ∀ b, hasBlock (vs i) b → ¬ hasBlock (vs j) b
theorem FillS.step {w w1 : World} {D k : Nat} {f : Nat → Value} {S : Nat → S4} {vs : Nat → Value} (o : FillS w D k f S vs) (hb : Below w.heap.size w w1) (hD : D < w.heap.size) {ra oa : Option Addr} {rc oc : Nat} (hv : StOwn w1 w.heap.size (stV (S k).p ra (S k).rs.length rc oa (S k).os.length oc (S k).c) (S k).p (S k).rs (S k).os (S k).c) (a b c d : Value) :
    FillS ((((w1.setCell ⟨D, k * 4, none⟩ a).setCell ⟨D, k * 4 + 1, none⟩ b).setCell ⟨D, k * 4 + 2, none⟩ c).setCell ⟨D, k * 4 + 3, none⟩ d) D (k + 1)
      (fun i => if i = k * 4 + 3 then .int .i64 (S k).c else if i = k * 4 + 2 then .slice oa (S k).os.length oc else if i = k * 4 + 1 then .slice ra (S k).rs.length rc else if i = k * 4 then .int .i64 (S k).p else f i) S
      (fun i => if i = k then stV (S k).p ra (S k).rs.length rc oa (S k).os.length oc (S k).c else vs i) := by
  have hs : ∀ g, g ≠ D → ((((w1.setCell ⟨D, k * 4, none⟩ a).setCell ⟨D, k * 4 + 1, none⟩ b).setCell ⟨D, k * 4 + 2, none⟩ c).setCell ⟨D, k * 4 + 3, none⟩ d).heap[g]? = w1.heap[g]? := fun g hne => (Below.heap_setCell _ _ _ _ hne).trans ((Below.heap_setCell _ _ _ _ hne).trans ((Below.heap_setCell _ _ _ _ hne).trans (Below.heap_setCell _ _ _ _ hne)))
  refine ⟨fun i hi => ?_, fun i hi => ?_, fun i j hij hj g h1 => ?_⟩
  · by_cases e : i = k
    · subst e
      exact ⟨ra, rc, oa, oc, by simp, by simp, by simp, by simp, by simp⟩
    · obtain ⟨ra', rc', oa', oc', e0, e1, e2, e3, e4⟩ := o.cel i (by omega)
      refine ⟨ra', rc', oa', oc', by simp only [if_neg e]; exact e0, ?_, ?_, ?_, ?_⟩
      · rw [if_neg (by omega), if_neg (by omega), if_neg (by omega), if_neg (by omega)]; exact e1
      · rw [if_neg (by omega), if_neg (by omega), if_neg (by omega), if_neg (by omega)]; exact e2
      · rw [if_neg (by omega), if_neg (by omega), if_neg (by omega), if_neg (by omega)]; exact e3
      · rw [if_neg (by omega), if_neg (by omega), if_neg (by omega), if_neg (by omega)]; exact e4
  · by_cases e : i = k
    · subst e
      simp only [if_true]
      refine StOwn.blk (hv.mono (by omega)) fun g hg => hs g ?_
      have := (hv.lt hg).1
      omega
    · simp only [if_neg e]
      have ho := o.own i (by omega)
      refine (ho.below hb).blk fun g hg => hs g ?_
      have := (ho.lt hg).1
      omega
  · by_cases e : j = k
    · have hi : i ≠ k := by omega
      simp only [if_neg hi] at h1
      simp only [if_pos e]
      intro h2
      have a1 := ((o.own i (by omega)).lt h1).2
      have a2 := (hv.lt h2).1
      omega
    · have hi : i ≠ k := by omega
      simp only [if_neg hi] at h1
      simp only [if_neg e]
      exact o.apart i j hij (by omega) g h1

end Go.Proofs.Ytkoghgnbolaooaa
