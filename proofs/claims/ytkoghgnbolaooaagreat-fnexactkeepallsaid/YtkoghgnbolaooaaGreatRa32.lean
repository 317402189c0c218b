/- The walk of the model's l4SameState. -/
import Derived.Test.YtkoghgnbolaooaaGreatRa27
import Derived.Test.YtkoghgnbolaooaaGreatRa12
import Derived.Test.YtkoghgnbolaooaaGreatRa31
import Derived.Test.YtkoghgnbolaooaaGreatRa29
import Derived.Lib.QuietBelow
namespace Go.Proofs.YtkoghgnbolaooaaGreat
open Go.ChangeShapes Go.WideShapes Go.ChangeAt Go.RowKit Go.Deep

/-- A state that came in, with where its lists lie. -/
structure St8 where
  p : Int
  ra : Option Addr
  rc : Nat
  rs : List Int
  oa : Option Addr
  oc : Nat
  os : List Int
  c : Int
def St8.s (x : St8) : S4 := ⟨x.p, x.rs, x.os, x.c⟩
def lenS (S : Nat → S4) (i : Nat) : Nat := (S i).rs.length + (S i).os.length

/-- States that came in. -/
structure AllState (W : World) (a0 : Option Addr) (n : Nat) (q : Nat → St8) : Prop where
  row : n = 0 ∨ ∃ b off, a0 = some ⟨b, off, none⟩ ∧ b < W.heap.size ∧ ∀ i, i < n → W.cell? ⟨b, off + i * 4, none⟩ = some (.int .i64 (q i).p) ∧ W.cell? ⟨b, off + i * 4 + 1, none⟩ = some (.slice (q i).ra (q i).rs.length (q i).rc) ∧ W.cell? ⟨b, off + i * 4 + 2, none⟩ = some (.slice (q i).oa (q i).os.length (q i).oc) ∧ W.cell? ⟨b, off + i * 4 + 3, none⟩ = some (.int .i64 (q i).c)
  lst : ∀ i, i < n → Sl W (q i).ra (q i).rs ∧ Sl W (q i).oa (q i).os
theorem AllState.below {w w' : World} {a0 : Option Addr} {n : Nat} {q : Nat → St8} (h : AllState w a0 n q) (hb : Below w.heap.size w w') : AllState w' a0 n q := by
  refine ⟨?_, fun i hi => ⟨(h.lst i hi).1.below hb, (h.lst i hi).2.below hb⟩⟩
  rcases h.row with h | ⟨b, off, e, hlt, hc⟩
  · exact .inl h
  · exact .inr ⟨b, off, e, Nat.lt_of_lt_of_le hlt hb.size, fun i hi => by
      obtain ⟨h0, h1, h2, h3⟩ := hc i hi
      exact ⟨(hb.cell hlt).trans h0, (hb.cell hlt).trans h1, (hb.cell hlt).trans h2, (hb.cell hlt).trans h3⟩⟩
theorem AllState.at {w : World} {a0 : Option Addr} {n : Nat} {q : Nat → St8} (h : AllState w a0 n q) {k : Nat} (hk : k < n) : ∃ b off, a0 = some ⟨b, off, none⟩ ∧ w.cell? ⟨b, off + k * 4, none⟩ = some (.int .i64 (q k).p) ∧ w.cell? ⟨b, off + k * 4 + 1, none⟩ = some (.slice (q k).ra (q k).rs.length (q k).rc) ∧ w.cell? ⟨b, off + k * 4 + 2, none⟩ = some (.slice (q k).oa (q k).os.length (q k).oc) ∧ w.cell? ⟨b, off + k * 4 + 3, none⟩ = some (.int .i64 (q k).c) := by
  rcases h.row with rfl | ⟨b, off, e, -, hc⟩
  · omega
  · exact ⟨b, off, e, hc k hk⟩

end Go.Proofs.YtkoghgnbolaooaaGreat

namespace Go.Proofs.YtkoghgnbolaooaaGreat
open Go.ChangeShapes Go.WideShapes Go.ChangeAt Go.RowKit Go.Deep

theorem ownsRow_blk {w w' : World} {B size n : Nat} {e : TypeId} {v : Value} {xs : List Value} (h : w.ownsRow B e size v n xs) (hb : ∀ k, v.ownBlock = some k → w'.heap[k]? = w.heap[k]?) : w'.ownsRow B e size v n xs := by
  obtain ⟨h0, h⟩ := h
  refine ⟨h0, ?_⟩
  rcases h with h | ⟨g, cap, cur, rfl, h1, h2, h3⟩
  · exact .inl h
  · exact .inr ⟨g, cap, cur, rfl, h1, (hb g rfl).trans h2, h3⟩
theorem OwnI.blk {w w' : World} {B : Nat} {v : Value} {xs : List Int} (h : OwnI w B v xs) (hb : ∀ k, v.ownBlock = some k → w'.heap[k]? = w.heap[k]?) : OwnI w' B v xs := ownsRow_blk h hb
theorem StOwn.blk {w w' : World} {B : Nat} {v : Value} {p code : Int} {rs os : List Int} (h : StOwn w B v p rs os code) (hb : ∀ k, hasBlock v k → w'.heap[k]? = w.heap[k]?) : StOwn w' B v p rs os code := by
  obtain ⟨vr, vo, rfl, h1, h2, h3⟩ := h
  exact ⟨vr, vo, rfl, h1.blk fun k hk => hb k ((hasBlock_iff _ _ _ _ _).2 (.inl hk)), h2.blk fun k hk => hb k ((hasBlock_iff _ _ _ _ _).2 (.inr hk)), h3⟩

/-- The state S lies in four cells of block D from cell j on, its lists where v says. -/
def Cel4 (w : World) (D j : Nat) (S : S4) (v : Value) : Prop := ∃ ra rc oa oc, v = stV S.p ra S.rs.length rc oa S.os.length oc S.c ∧ w.cell? ⟨D, j, none⟩ = some (.int .i64 S.p) ∧ w.cell? ⟨D, j + 1, none⟩ = some (.slice ra S.rs.length rc) ∧ w.cell? ⟨D, j + 2, none⟩ = some (.slice oa S.os.length oc) ∧ w.cell? ⟨D, j + 3, none⟩ = some (.int .i64 S.c)

/-- The copies of n states, in block D; their lists behind it. -/
structure OutState (w : World) (D hi n : Nat) (S : Nat → S4) (vs : Nat → Value) : Prop where
  cel : ∀ i, i < n → Cel4 w D (i * 4) (S i) (vs i)
  own : ∀ i, i < n → StOwn w (D + 1) (vs i) (S i).p (S i).rs (S i).os (S i).c
  bd : ∀ i, i < n → ∀ k, hasBlock (vs i) k → k < hi
  apart : ∀ i j, i < j → j < n → ∀ k, hasBlock (vs i) k → ¬ hasBlock (vs j) k
  fr : ∀ j, w.frozen? ⟨D, j, none⟩ = false
  le : hi ≤ w.heap.size
  lt : D < hi
theorem Cel4.blk {w w' : World} {D j : Nat} {S : S4} {v : Value} (h : Cel4 w D j S v) (hb : w'.heap[D]? = w.heap[D]?) : Cel4 w' D j S v := by
  obtain ⟨ra, rc, oa, oc, e, h0, h1, h2, h3⟩ := h
  exact ⟨ra, rc, oa, oc, e, (World.cell?_of_block hb).trans h0, (World.cell?_of_block hb).trans h1, (World.cell?_of_block hb).trans h2, (World.cell?_of_block hb).trans h3⟩
theorem OutState.below {w w' : World} {D hi n B : Nat} {S : Nat → S4} {vs : Nat → Value} (o : OutState w D hi n S vs) (hb : Below B w w') (hB : hi ≤ B) : OutState w' D hi n S vs :=
  have hD : w'.heap[D]? = w.heap[D]? := hb.block D (Nat.lt_of_lt_of_le o.lt hB)
  ⟨fun i hi' => (o.cel i hi').blk hD, fun i hi' => (o.own i hi').blk fun k hk => hb.block k (Nat.lt_of_lt_of_le (o.bd i hi' k hk) hB), o.bd, o.apart, fun j => (World.frozen?_of_block hD).trans (o.fr j), Nat.le_trans o.le hb.size, o.lt⟩

theorem OutState.keep {w w' : World} {D hi n : Nat} {S : Nat → S4} {vs : Nat → Value} (o : OutState w D hi n S vs) (hs : w.heap.size ≤ w'.heap.size) (hb : ∀ k, D ≤ k → k < hi → w'.heap[k]? = w.heap[k]?) : OutState w' D hi n S vs :=
  have hD : w'.heap[D]? = w.heap[D]? := hb D (Nat.le_refl _) o.lt
  ⟨fun i hi' => (o.cel i hi').blk hD, fun i hi' => (o.own i hi').blk fun k hk => hb k (by have := ((o.own i hi').lt hk).1; omega) (o.bd i hi' k hk), o.bd, o.apart, fun j => (World.frozen?_of_block hD).trans (o.fr j), Nat.le_trans o.le hs, o.lt⟩

theorem infoSta : (Tryz.prog.info? 43).map (fun i => (i.zero, i.size, i.bytes)) = some (some (stV 0 none 0 0 none 0 0 0), 4, 64) := by kernel_rfl
theorem madeSta_row (w : World) (n : Nat) : ∃ f, (w.alloc (.cells (madeCells (stV 0 none 0 0 none 0 0 0).cells (n * 4)) 43)).rowIs w.heap.size 43 (n * 4) f := by
  refine ⟨fun i => (stV 0 none 0 0 none 0 0 0).cells[i % 4]!, _, blk_alloc_new _ _, size_madeCells _ _, fun i hi => ?_⟩
  simp only [madeCells]
  rw [Array.getElem?_map, Array.getElem?_range, if_pos hi]
  rfl

/-- The first k states of a row that is being filled. -/
structure FillS (w : World) (D k : Nat) (f : Nat → Value) (S : Nat → S4) (vs : Nat → Value) : Prop where
  cel : ∀ i, i < k → ∃ ra rc oa oc, vs i = stV (S i).p ra (S i).rs.length rc oa (S i).os.length oc (S i).c ∧ f (i * 4) = .int .i64 (S i).p ∧ f (i * 4 + 1) = .slice ra (S i).rs.length rc ∧ f (i * 4 + 2) = .slice oa (S i).os.length oc ∧ f (i * 4 + 3) = .int .i64 (S i).c
  own : ∀ i, i < k → StOwn w (D + 1) (vs i) (S i).p (S i).rs (S i).os (S i).c
  apart : ∀ i j, i < j → j < k → ∀ b, hasBlock (vs i) b → ¬ hasBlock (vs j) b
theorem FillS.step {w w1 : World} {D k : Nat} {f : Nat → Value} {S : Nat → S4} {vs : Nat → Value} (o : FillS w D k f S vs) (hb : Below w.heap.size w w1) (hD : D < w.heap.size) {ra oa : Option Addr} {rc oc : Nat} (hv : StOwn w1 w.heap.size (stV (S k).p ra (S k).rs.length rc oa (S k).os.length oc (S k).c) (S k).p (S k).rs (S k).os (S k).c) (a b c d : Value) :
    FillS ((((w1.setCell ⟨D, k * 4, none⟩ a).setCell ⟨D, k * 4 + 1, none⟩ b).setCell ⟨D, k * 4 + 2, none⟩ c).setCell ⟨D, k * 4 + 3, none⟩ d) D (k + 1)
      (fun i => if i = k * 4 + 3 then .int .i64 (S k).c else if i = k * 4 + 2 then .slice oa (S k).os.length oc else if i = k * 4 + 1 then .slice ra (S k).rs.length rc else if i = k * 4 then .int .i64 (S k).p else f i) S
      (fun i => if i = k then stV (S k).p ra (S k).rs.length rc oa (S k).os.length oc (S k).c else vs i) := by
  have hs : ∀ g, g ≠ D → ((((w1.setCell ⟨D, k * 4, none⟩ a).setCell ⟨D, k * 4 + 1, none⟩ b).setCell ⟨D, k * 4 + 2, none⟩ c).setCell ⟨D, k * 4 + 3, none⟩ d).heap[g]? = w1.heap[g]? := fun g hne => (Below.heap_setCell _ _ _ _ hne).trans ((Below.heap_setCell _ _ _ _ hne).trans ((Below.heap_setCell _ _ _ _ hne).trans (Below.heap_setCell _ _ _ _ hne)))
  refine ⟨fun i hi => ?_, fun i hi => ?_, fun i j hij hj g h1 => ?_⟩
  · by_cases e : i = k
    · subst e
      exact ⟨ra, rc, oa, oc, by simp, by simp, by simp, by simp, by simp⟩
    · obtain ⟨ra', rc', oa', oc', e0, e1, e2, e3, e4⟩ := o.cel i (by omega)
      refine ⟨ra', rc', oa', oc', by simp only [if_neg e]; exact e0, ?_, ?_, ?_, ?_⟩
      · rw [if_neg (by omega), if_neg (by omega), if_neg (by omega), if_neg (by omega)]; exact e1
      · rw [if_neg (by omega), if_neg (by omega), if_neg (by omega), if_neg (by omega)]; exact e2
      · rw [if_neg (by omega), if_neg (by omega), if_neg (by omega), if_neg (by omega)]; exact e3
      · rw [if_neg (by omega), if_neg (by omega), if_neg (by omega), if_neg (by omega)]; exact e4
  · by_cases e : i = k
    · subst e
      simp only [if_true]
      refine StOwn.blk (hv.mono (by omega)) fun g hg => hs g ?_
      have := (hv.lt hg).1
      omega
    · simp only [if_neg e]
      have ho := o.own i (by omega)
      refine (ho.below hb).blk fun g hg => hs g ?_
      have := (ho.lt hg).1
      omega
  · by_cases e : j = k
    · have hi : i ≠ k := by omega
      simp only [if_neg hi] at h1
      simp only [if_pos e]
      intro h2
      have a1 := ((o.own i (by omega)).lt h1).2
      have a2 := (hv.lt h2).1
      omega
    · have hi : i ≠ k := by omega
      simp only [if_neg hi] at h1
      simp only [if_neg e]
      exact o.apart i j hij (by omega) g h1

end Go.Proofs.YtkoghgnbolaooaaGreat

namespace Go.Proofs.YtkoghgnbolaooaaGreat
open Go.ChangeShapes Go.WideShapes Go.ChangeAt Go.RowKit Go.Deep

/-- A kept state that came in: behind how many events, and the state. -/
structure K9 extends St8 where
  n : Int
abbrev kpV (n p : Int) (ra : Option Addr) (rn rc : Nat) (oa : Option Addr) (on oc : Nat) (c : Int) : Value := .agg #[.int .i64 n, .int .i64 p, .slice ra rn rc, .slice oa on oc, .int .i64 c]

set_option maxHeartbeats 400000 in
theorem szKept_small (n p code : Int) (ra oa : Option Addr) (rn rc on oc : Nat) (x : Int) (w : World) (h : (rn : Int) + on ≤ x) (hx : x ≤ 1048576) :
    Calls Tryz.prog 36 #[kpV n p ra rn rc oa on oc code, .int .i64 x] w fun e w' => e = .returned (.int .i64 (x - rn - on)) ∧ Below w.heap.size w w' := by
  have h4 : ¬ x - (rn : Int) - on < 0 := by omega
  go_enter Tryz.func36, Tryz.ntmps36
  go_wp2_with fail
  refine (szState_small _ _ _ _ _ _ _ _ _ _ h hx).mono ?_
  rintro e w1 ⟨rfl, b1⟩
  go_wp2
  go_ret
  exact ⟨rfl, below_up (by go_grown) b1 (by simp)⟩
set_option maxHeartbeats 400000 in
theorem szKept_great (n p code : Int) (ra oa : Option Addr) (rn rc on oc : Nat) (x : Int) (w : World) (h : x < (rn : Int) + on) (hx : x ≤ 1048576) (hx0 : 0 ≤ x) (hr : rn ≤ maxLen) (ho : on ≤ maxLen) :
    Calls Tryz.prog 36 #[kpV n p ra rn rc oa on oc code, .int .i64 x] w fun e w' => e = .returned (.int .i64 (-1)) ∧ Below w.heap.size w w' := by
  go_enter Tryz.func36, Tryz.ntmps36
  go_wp2_with fail
  refine (szState_great _ _ _ _ _ _ _ _ _ _ h hx hx0 hr ho).mono ?_
  rintro e w1 ⟨rfl, b1⟩
  go_wp2
  go_ret
  exact ⟨rfl, below_up (by go_grown) b1 (by simp)⟩

/-- Kept states that came in. -/
structure AllKept (W : World) (a0 : Option Addr) (n : Nat) (q : Nat → K9) : Prop where
  row : n = 0 ∨ ∃ b off, a0 = some ⟨b, off, none⟩ ∧ b < W.heap.size ∧ ∀ i, i < n → W.cell? ⟨b, off + i * 5, none⟩ = some (.int .i64 (q i).n) ∧ W.cell? ⟨b, off + i * 5 + 1, none⟩ = some (.int .i64 (q i).p) ∧ W.cell? ⟨b, off + i * 5 + 2, none⟩ = some (.slice (q i).ra (q i).rs.length (q i).rc) ∧ W.cell? ⟨b, off + i * 5 + 3, none⟩ = some (.slice (q i).oa (q i).os.length (q i).oc) ∧ W.cell? ⟨b, off + i * 5 + 4, none⟩ = some (.int .i64 (q i).c)
  lst : ∀ i, i < n → Sl W (q i).ra (q i).rs ∧ Sl W (q i).oa (q i).os
theorem AllKept.below {w w' : World} {a0 : Option Addr} {n : Nat} {q : Nat → K9} (h : AllKept w a0 n q) (hb : Below w.heap.size w w') : AllKept w' a0 n q := by
  refine ⟨?_, fun i hi => ⟨(h.lst i hi).1.below hb, (h.lst i hi).2.below hb⟩⟩
  rcases h.row with h | ⟨b, off, e, hlt, hc⟩
  · exact .inl h
  · exact .inr ⟨b, off, e, Nat.lt_of_lt_of_le hlt hb.size, fun i hi => by
      obtain ⟨h0, h1, h2, h3, h4⟩ := hc i hi
      exact ⟨(hb.cell hlt).trans h0, (hb.cell hlt).trans h1, (hb.cell hlt).trans h2, (hb.cell hlt).trans h3, (hb.cell hlt).trans h4⟩⟩
theorem AllKept.at {w : World} {a0 : Option Addr} {n : Nat} {q : Nat → K9} (h : AllKept w a0 n q) {k : Nat} (hk : k < n) : ∃ b off, a0 = some ⟨b, off, none⟩ ∧ w.cell? ⟨b, off + k * 5, none⟩ = some (.int .i64 (q k).n) ∧ w.cell? ⟨b, off + k * 5 + 1, none⟩ = some (.int .i64 (q k).p) ∧ w.cell? ⟨b, off + k * 5 + 2, none⟩ = some (.slice (q k).ra (q k).rs.length (q k).rc) ∧ w.cell? ⟨b, off + k * 5 + 3, none⟩ = some (.slice (q k).oa (q k).os.length (q k).oc) ∧ w.cell? ⟨b, off + k * 5 + 4, none⟩ = some (.int .i64 (q k).c) := by
  rcases h.row with rfl | ⟨b, off, e, -, hc⟩
  · omega
  · exact ⟨b, off, e, hc k hk⟩

set_option maxRecDepth 100000 in
set_option maxHeartbeats 1000000 in
theorem szKeptS_small (a0 : Option Addr) (n cap : Nat) (q : Nat → K9) (L : Int) (w : World) (hr : AllKept w a0 n q) (h : (n : Int) + (sumL (lenS fun i => (q i).s) n : Nat) ≤ L) (hL : L ≤ 1048576) :
    Calls Tryz.prog 18 #[.slice a0 n cap, .int .i64 L] w fun e w' => e = .returned (.int .i64 (L - n - (sumL (lenS fun i => (q i).s) n : Nat))) ∧ Below w.heap.size w w' := by
  have hn : (n : Int) ≤ 1048576 := by omega
  have h0 : 0 ≤ L := by omega
  have hn0 : ¬ (L - (n : Int) < 0) := by omega
  have HR : Hid (AllKept w a0 n q) := hr
  have HS : Hid ((n : Int) + (sumL (lenS fun i => (q i).s) n : Nat) ≤ L) := h
  clear hr h
  generalize hls : (lenS fun i => (q i).s) = ls at *
  have HLS : Hid ((lenS fun i => (q i).s) = ls) := hls
  clear hls
  go_enter Tryz.func18, Tryz.ntmps18
  go_wp2_with fail
  go_loopw [1, 5] (fun x i wr => ∃ k : Nat, k ≤ n ∧ i = .int .i64 k ∧ x = .int .i64 (L - n - (sumL ls k : Nat)) ∧ Below w.heap.size w wr) (fun _ i _ => n - (intOf i).toNat)
  case atStart => exact ⟨0, Nat.zero_le _, rfl, by simp [sumL], Below.refl _ _⟩
  case round =>
    obtain ⟨k, hk, rfl, rfl, hbw⟩ := hrel
    by_cases hlt : k < n
    · have hlt' : (k : Int) < (n : Int) := by omega
      obtain ⟨b, off, rfl, c0, c1, c2, c3, c4⟩ := (HR.out.below hbw).at hlt
      have hsl := sumL_at ls hlt
      have hlk : ls k = (q k).rs.length + (q k).os.length := by rw [← HLS.out]; rfl
      have hS := HS.out
      have e1 : (L - n - (sumL ls k : Nat)) - ((q k).rs.length : Int) - ((q k).os.length : Int) = L - n - (sumL ls (k + 1) : Nat) := by simp only [sumL]; omega
      have HE : Hid ((L - n - (sumL ls k : Nat)) - ((q k).rs.length : Int) - ((q k).os.length : Int) = L - n - (sumL ls (k + 1) : Nat)) := e1
      have e2 : ((q k).rs.length : Int) + ((q k).os.length : Int) ≤ L - n - (sumL ls k : Nat) := by omega
      have e3 : ¬ (L - n - (sumL ls (k + 1) : Nat) < 0) := by omega
      have e4 : L - n - (sumL ls k : Nat) ≤ 1048576 := by omega
      clear e1 hS hsl hlk
      generalize hy : L - n - (sumL ls (k + 1) : Nat) = Y at *
      go_wp2_with fail
      refine (szKept_small _ _ _ _ _ _ _ _ _ _ _ e2 e4).mono ?_
      rintro e w1 ⟨rfl, b1⟩
      rw [HE.out]
      clear e2 e4 c0 c1 c2 c3 c4
      go_wp2
      go_roundw
      case rel => exact ⟨k + 1, by omega, by go_num, by rw [← hy], hbw.trans (b1.mono hbw.size)⟩
      case measure => simp [intOf]; omega
    · have hkl : k = n := by omega
      subst hkl
      go_wp2
      go_ret
      exact ⟨rfl, hbw⟩

set_option maxRecDepth 100000 in
set_option maxHeartbeats 1000000 in
theorem szKeptS_great (a0 : Option Addr) (n cap : Nat) (q : Nat → K9) (L : Int) (w : World) (hr : AllKept w a0 n q) (h : L < (n : Int) + (sumL (lenS fun i => (q i).s) n : Nat)) (h0 : 0 ≤ L) (hL : L ≤ 1048576) (hm : n ≤ maxLen) (hl : ∀ i, i < n → (q i).rs.length ≤ maxLen ∧ (q i).os.length ≤ maxLen) :
    Calls Tryz.prog 18 #[.slice a0 n cap, .int .i64 L] w fun e w' => e = .returned (.int .i64 (-1)) ∧ Below w.heap.size w w' := by
  have hm' : (n : Int) ≤ 9223372036854775807 := by unfold maxLen at hm; omega
  by_cases hn0 : L - (n : Int) < 0
  · go_enter Tryz.func18, Tryz.ntmps18
    go_wp2
    go_ret
    exact ⟨rfl, Below.refl _ _⟩
  have hn : (n : Int) ≤ 1048576 := by omega
  have HR : Hid (AllKept w a0 n q) := hr
  have HS : Hid (L < (n : Int) + (sumL (lenS fun i => (q i).s) n : Nat)) := h
  have HL : Hid (∀ i, i < n → (q i).rs.length ≤ maxLen ∧ (q i).os.length ≤ maxLen) := hl
  clear hr h hl hm
  generalize hls : (lenS fun i => (q i).s) = ls at *
  have HLS : Hid ((lenS fun i => (q i).s) = ls) := hls
  clear hls
  go_enter Tryz.func18, Tryz.ntmps18
  go_wp2_with fail
  go_loopw [1, 5] (fun x i wr => ∃ k : Nat, k ≤ n ∧ i = .int .i64 k ∧ x = .int .i64 (L - n - (sumL ls k : Nat)) ∧ 0 ≤ L - n - (sumL ls k : Nat) ∧ Below w.heap.size w wr) (fun _ i _ => n - (intOf i).toNat)
  case atStart => exact ⟨0, Nat.zero_le _, rfl, by simp [sumL], by simp only [sumL]; omega, Below.refl _ _⟩
  case round =>
    obtain ⟨k, hk, rfl, rfl, hp, hbw⟩ := hrel
    by_cases hlt : k < n
    · have hlt' : (k : Int) < (n : Int) := by omega
      obtain ⟨b, off, rfl, c0, c1, c2, c3, c4⟩ := (HR.out.below hbw).at hlt
      obtain ⟨ml1, ml2⟩ := HL.out k hlt
      have hlk : ls k = (q k).rs.length + (q k).os.length := by rw [← HLS.out]; rfl
      have e1 : (L - n - (sumL ls k : Nat)) - ((q k).rs.length : Int) - ((q k).os.length : Int) = L - n - (sumL ls (k + 1) : Nat) := by simp only [sumL]; omega
      have HE : Hid ((L - n - (sumL ls k : Nat)) - ((q k).rs.length : Int) - ((q k).os.length : Int) = L - n - (sumL ls (k + 1) : Nat)) := e1
      have e4 : L - n - (sumL ls k : Nat) ≤ 1048576 := by omega
      clear e1 hlk
      by_cases hb : ((q k).rs.length : Int) + ((q k).os.length : Int) ≤ L - n - (sumL ls k : Nat)
      · have e3 : 0 ≤ L - n - (sumL ls (k + 1) : Nat) := by have := HE.out; omega
        have e3' : ¬ (L - n - (sumL ls (k + 1) : Nat) < 0) := by omega
        generalize hy : L - n - (sumL ls (k + 1) : Nat) = Y at *
        go_wp2_with fail
        refine (szKept_small _ _ _ _ _ _ _ _ _ _ _ hb e4).mono ?_
        rintro e w1 ⟨rfl, b1⟩
        rw [HE.out]
        clear hb e4 hp c0 c1 c2 c3 c4 ml1 ml2
        go_wp2
        go_roundw
        case rel => exact ⟨k + 1, by omega, by go_num, by rw [← hy], by omega, hbw.trans (b1.mono hbw.size)⟩
        case measure => simp [intOf]; omega
      · have hb' : L - n - (sumL ls k : Nat) < ((q k).rs.length : Int) + ((q k).os.length : Int) := by omega
        go_wp2_with fail
        refine (szKept_great _ _ _ _ _ _ _ _ _ _ _ hb' e4 hp ml1 ml2).mono ?_
        rintro e w1 ⟨rfl, b1⟩
        clear hb hb' e4 hp HE c0 c1 c2 c3 c4 ml1 ml2
        go_wp2
        go_ret
        exact ⟨rfl, hbw.trans (b1.mono hbw.size)⟩
    · have hkl : k = n := by omega
      subst hkl
      have := HS.out
      omega

end Go.Proofs.YtkoghgnbolaooaaGreat

namespace Go.Proofs.YtkoghgnbolaooaaGreat
open Go.RowKit Go.Sort

theorem rp_some {g : Nat → I5} {n : Nat} {eh : Nat → E3} {k m : Nat} {S : S4} (h : rp g n eh m = some S) (hk : k ≤ m) : ∃ S', rp g n eh k = some S' := by
  cases hr : rp g n eh k with
  | none =>
    rw [rp_over hr hk] at h
    cases h
  | some S' => exact ⟨S', rfl⟩
theorem rp_ok {g : Nat → I5} {n : Nat} {eh : Nat → E3} (hp : progOkB g n 4 = true) : ∀ k S, rp g n eh k = some S → OkS n S := by
  intro k
  induction k with
  | zero =>
    intro S hS
    simp only [rp, Option.some.injEq] at hS
    rw [← hS]
    exact newS_ok hp
  | succ k ih =>
    intro S hS
    simp only [rp] at hS
    cases hr : rp g n eh k with
    | none => rw [hr] at hS; cases hS
    | some S0 =>
      rw [hr] at hS
      simp only [Option.bind_some, rpStep] at hS
      split at hS
      · rename_i hd
        simp only [Option.some.injEq] at hS
        rw [← hS]
        exact doS_ok hd
      · cases hS
theorem rp_next {g : Nat → I5} {n : Nat} {eh : Nat → E3} {k m : Nat} {S Sm : S4} (h : rp g n eh k = some S) (hm : rp g n eh m = some Sm) (hk : k < m) : doB g n S.p S.rs S.os S.c (eh k).k (eh k).q (eh k).v = true ∧ rp g n eh (k + 1) = some (doS g n S.p S.rs S.os S.c (eh k).k (eh k).q (eh k).v) := by
  rcases Bool.eq_false_or_eq_true (doB g n S.p S.rs S.os S.c (eh k).k (eh k).q (eh k).v) with t | t
  · exact ⟨t, rp_yes h t⟩
  · have := rp_over (rp_no h t) (show k + 1 ≤ m by omega)
    rw [hm] at this
    cases this

end Go.Proofs.YtkoghgnbolaooaaGreat

namespace Go.Proofs.YtkoghgnbolaooaaGreat
open Go.ChangeShapes Go.WideShapes Go.ChangeAt Go.RowKit Go.Deep Go.Sort

theorem list_of_zi {xs ys : List Int} (hl : xs.length = ys.length) (h : ∀ j, j < xs.length → zi xs j = zi ys j) : xs = ys := by
  refine List.ext_getElem hl fun i h1 h2 => ?_
  have := h i h1
  simpa [zi, List.getD_eq_getElem?_getD, List.getElem?_eq_getElem h1, List.getElem?_eq_getElem h2] using this

set_option maxRecDepth 100000 in
set_option maxHeartbeats 1000000 in
theorem equal_any (a0 a1 : Option Addr) (c0 c1 : Nat) (xs ys : List Int) (w : World) (hx : xs.length ≤ 1048576) (hy : ys.length ≤ 1048576) (h0 : Sl w a0 xs) (h1 : Sl w a1 ys) :
    Calls Tryz.prog 110 #[.slice a0 xs.length c0, .slice a1 ys.length c1] w fun e w' => e = .returned (.bool (xs == ys)) ∧ Below w.heap.size w w' := by
  have hl' : (xs.length : Int) ≤ 1048576 := by omega
  have hl2 : (ys.length : Int) ≤ 1048576 := by omega
  by_cases hl : xs.length = ys.length
  · have H0 : Hid (Sl w a0 xs) := h0
    have H1 : Hid (Sl w a1 ys) := h1
    have HL : Hid (xs.length = ys.length) := hl
    rw [← hl]
    clear h0 h1 hl hy hl2
    go_enter Tryz.func110, Tryz.ntmps110
    go_wp2_with fail
    go_loopw [13] (fun i wr => ∃ k : Nat, k ≤ xs.length ∧ i = .int .i64 k ∧ Below w.heap.size w wr ∧ Hid (∀ j, j < k → zi xs j = zi ys j)) (fun i _ => xs.length - (intOf i).toNat)
    case atStart => exact ⟨0, Nat.zero_le _, rfl, Below.refl _ _, fun j hj => by omega⟩
    case round =>
      obtain ⟨k, hk, rfl, hbw, HZ⟩ := hrel
      by_cases hlt : k < xs.length
      · have hlt2 : k < ys.length := by have := HL.out; omega
        obtain ⟨b, off, rfl, hbl, ck⟩ := (H0.out.below hbw).at hlt
        obtain ⟨b', off', rfl, hbl', ck'⟩ := (H1.out.below hbw).at hlt2
        have hlt' : (k : Int) < (xs.length : Int) := by omega
        clear hlt2
        rcases Bool.eq_false_or_eq_true (zi xs k != zi ys k) with t | t
        · have HN : Hid ((xs == ys) = false) := by
            show (xs == ys) = false
            rw [beq_eq_false_iff_ne]
            intro e
            rw [e] at t
            simp at t
          go_wp2_with fail
          go_quiet (fail)
          go_wp2
          go_ret
          rw [HN.out]
          exact ⟨rfl, below_drewN hbw _⟩
        · have HZ' : Hid (∀ j, j < k + 1 → zi xs j = zi ys j) := fun j hj => by
            by_cases e : j = k
            · subst e
              simpa using t
            · exact HZ.out j (by omega)
          clear HZ
          go_wp2_with fail
          go_quiet (fail)
          go_wp2
          go_roundw
          case rel => exact ⟨k + 1, by omega, by go_num, below_drewN hbw _, HZ'.out⟩
          case measure => simp [intOf]; omega
      · have HE : Hid ((xs == ys) = true) := by
          show (xs == ys) = true
          rw [beq_iff_eq]
          exact list_of_zi HL.out fun j hj => HZ.out j (by omega)
        clear HZ
        go_wp2
        go_ret
        rw [HE.out]
        exact ⟨rfl, hbw⟩
  · have hne : ((xs.length : Int) != (ys.length : Int)) = true := by simp; omega
    have HN : Hid ((xs == ys) = false) := by
      show (xs == ys) = false
      rw [beq_eq_false_iff_ne]
      intro e
      exact hl (by rw [e])
    clear h0 h1 hl
    go_enter Tryz.func110, Tryz.ntmps110
    go_wp2
    go_ret
    rw [HN.out]
    exact ⟨rfl, Below.refl _ _⟩

/-- Two states are the same. -/
def eqS (S T : S4) : Bool := (S.p == T.p) && (S.c == T.c) && (S.rs == T.rs) && (S.os == T.os)
theorem eqS_iff {S T : S4} : eqS S T = true ↔ S = T := by
  obtain ⟨a, b, c, d⟩ := S
  obtain ⟨a', b', c', d'⟩ := T
  simp only [eqS, Bool.and_eq_true, beq_iff_eq, S4.mk.injEq]
  exact ⟨fun ⟨⟨⟨h1, h2⟩, h3⟩, h4⟩ => ⟨h1, h3, h4, h2⟩, fun ⟨h1, h3, h4, h2⟩ => ⟨⟨⟨h1, h2⟩, h3⟩, h4⟩⟩

set_option maxRecDepth 100000 in
set_option maxHeartbeats 2000000 in
theorem implSameState_any (S T : S4) (ra oa ra' oa' : Option Addr) (rc oc rc' oc' : Nat) (w : World) (l1 : S.rs.length ≤ 1048576) (l2 : S.os.length ≤ 1048576) (l3 : T.rs.length ≤ 1048576) (l4 : T.os.length ≤ 1048576) (h1 : Sl w ra S.rs) (h2 : Sl w oa S.os) (h3 : Sl w ra' T.rs) (h4 : Sl w oa' T.os) :
    Calls Tryz.prog 80 #[stV S.p ra S.rs.length rc oa S.os.length oc S.c, stV T.p ra' T.rs.length rc' oa' T.os.length oc' T.c] w fun e w' => e = .returned (.bool (eqS S T)) ∧ Below w.heap.size w w' := by
  have H1 : Hid (Sl w ra S.rs ∧ Sl w ra' T.rs) := ⟨h1, h3⟩
  have H2 : Hid (Sl w oa S.os ∧ Sl w oa' T.os) := ⟨h2, h4⟩
  clear h1 h2 h3 h4
  rcases Bool.eq_false_or_eq_true (S.p == T.p) with t1 | t1
  case inr =>
    have HE : Hid (eqS S T = false) := by
      show eqS S T = false
      simp [eqS, t1]
    go_enter Tryz.func80, Tryz.ntmps80
    go_wp2
    go_ret
    rw [HE.out]
    exact ⟨rfl, by go_grown⟩
  rcases Bool.eq_false_or_eq_true (S.c == T.c) with t2 | t2
  case inr =>
    have HE : Hid (eqS S T = false) := by
      show eqS S T = false
      simp [eqS, t2]
    go_enter Tryz.func80, Tryz.ntmps80
    go_wp2
    go_ret
    rw [HE.out]
    exact ⟨rfl, by go_grown⟩
  rcases Bool.eq_false_or_eq_true (S.rs == T.rs) with t3 | t3
  case inr =>
    have HE : Hid (eqS S T = false) := by
      show eqS S T = false
      simp [eqS, t3]
    have T3 : Hid ((S.rs == T.rs) = false) := t3
    clear t3
    go_enter Tryz.func80, Tryz.ntmps80
    go_wp2_with fail
    refine (equal_any _ _ _ _ _ _ _ l1 l3 (H1.out.1.below (by go_grown)) (H1.out.2.below (by go_grown))).mono ?_
    rintro e w1 ⟨rfl, b1⟩
    rw [T3.out]
    have B1 : Hid (Below w.heap.size w w1) := below_up (by go_grown) b1 (by simp; omega)
    clear b1
    go_wp2
    go_ret
    rw [HE.out]
    exact ⟨rfl, B1.out⟩
  have HE : Hid (eqS S T = (S.os == T.os)) := by
    show eqS S T = (S.os == T.os)
    simp [eqS, t1, t2, t3]
  have T3 : Hid ((S.rs == T.rs) = true) := t3
  clear t3
  go_enter Tryz.func80, Tryz.ntmps80
  go_wp2_with fail
  refine (equal_any _ _ _ _ _ _ _ l1 l3 (H1.out.1.below (by go_grown)) (H1.out.2.below (by go_grown))).mono ?_
  rintro e w1 ⟨rfl, b1⟩
  rw [T3.out]
  have B1 : Hid (Below w.heap.size w w1) := below_up (by go_grown) b1 (by simp; omega)
  obtain ⟨hc1, hf1⟩ := bcell b1
  clear b1
  go_wp2_with fail
  refine (equal_any _ _ _ _ _ _ _ l2 l4 (H2.out.1.below B1.out) (H2.out.2.below B1.out)).mono ?_
  rintro e w2 ⟨rfl, b2⟩
  have B2 : Hid (Below w.heap.size w w2) := B1.out.trans (b2.mono B1.out.size)
  clear b2 hc1 hf1
  go_wp2
  go_ret
  rw [HE.out]
  exact ⟨rfl, B2.out⟩

end Go.Proofs.YtkoghgnbolaooaaGreat

namespace Go.Proofs.YtkoghgnbolaooaaGreat
open Go.ChangeShapes Go.WideShapes Go.ChangeAt Go.RowKit Go.Deep Go.Sort

noncomputable def pB (p : Prop) : Bool := @decide p (Classical.propDecidable _)
theorem pB_true {p : Prop} (h : p) : pB p = true := by simp [pB, h]
theorem pB_false {p : Prop} (h : ¬ p) : pB p = false := by simp [pB, h]
theorem pB_iff {p : Prop} : pB p = true ↔ p := by simp [pB]

set_option maxRecDepth 100000 in
set_option maxHeartbeats 2000000 in
theorem specSameState_any (S T : S4) (ra oa ra' oa' : Option Addr) (rc oc rc' oc' : Nat) (w : World) (l1 : S.rs.length ≤ 1048576) (l2 : S.os.length ≤ 1048576) (_l3 : T.rs.length ≤ 1048576) (_l4 : T.os.length ≤ 1048576) (h1 : Sl w ra S.rs) (h2 : Sl w oa S.os) (h3 : Sl w ra' T.rs) (h4 : Sl w oa' T.os) :
    Calls Tryz.prog 55 #[stV S.p ra S.rs.length rc oa S.os.length oc S.c, stV T.p ra' T.rs.length rc' oa' T.os.length oc' T.c] w fun e w' => e = .returned (.bool (eqS S T)) ∧ Below w.heap.size w w' := by
  have l1' : (S.rs.length : Int) ≤ 1048576 := by omega
  have l2' : (S.os.length : Int) ≤ 1048576 := by omega
  have H1 : Hid (Sl w ra S.rs ∧ Sl w ra' T.rs) := ⟨h1, h3⟩
  have H2 : Hid (Sl w oa S.os ∧ Sl w oa' T.os) := ⟨h2, h4⟩
  clear h1 h2 h3 h4 l1 l2
  rcases Bool.eq_false_or_eq_true (S.p != T.p) with t1 | t1
  case inl =>
    have HE : Hid (eqS S T = false) := by
      show eqS S T = false
      have : (S.p == T.p) = false := by simpa using t1
      simp [eqS, this]
    go_enter Tryz.func55, Tryz.ntmps55
    go_wp2
    go_ret
    rw [HE.out]
    exact ⟨rfl, by go_grown⟩
  rcases Bool.eq_false_or_eq_true (S.c != T.c) with t2 | t2
  case inl =>
    have HE : Hid (eqS S T = false) := by
      show eqS S T = false
      have : (S.c == T.c) = false := by simpa using t2
      simp [eqS, this]
    go_enter Tryz.func55, Tryz.ntmps55
    go_wp2
    go_ret
    rw [HE.out]
    exact ⟨rfl, by go_grown⟩
  rcases Bool.eq_false_or_eq_true ((S.rs.length : Int) != (T.rs.length : Int)) with t3 | t3
  case inl =>
    have HE : Hid (eqS S T = false) := by
      show eqS S T = false
      have : (S.rs == T.rs) = false := by
        rw [beq_eq_false_iff_ne]
        intro e
        rw [e] at t3
        simp at t3
      simp [eqS, this]
    go_enter Tryz.func55, Tryz.ntmps55
    go_wp2
    go_ret
    rw [HE.out]
    exact ⟨rfl, by go_grown⟩
  rcases Bool.eq_false_or_eq_true ((S.os.length : Int) != (T.os.length : Int)) with t4 | t4
  case inl =>
    have HE : Hid (eqS S T = false) := by
      show eqS S T = false
      have : (S.os == T.os) = false := by
        rw [beq_eq_false_iff_ne]
        intro e
        rw [e] at t4
        simp at t4
      simp [eqS, this]
    go_enter Tryz.func55, Tryz.ntmps55
    go_wp2
    go_ret
    rw [HE.out]
    exact ⟨rfl, by go_grown⟩
  have HE : Hid (eqS S T = ((S.rs == T.rs) && (S.os == T.os)) ∧ S.rs.length = T.rs.length ∧ S.os.length = T.os.length) := by
    have e1 : (S.p == T.p) = true := by simpa using t1
    have e2 : (S.c == T.c) = true := by simpa using t2
    have e3 : S.rs.length = T.rs.length := by simp at t3; omega
    have e4 : S.os.length = T.os.length := by simp at t4; omega
    refine ⟨?_, e3, e4⟩
    show eqS S T = _
    simp [eqS, e1, e2]
  have N1 : Hid (BoxC ((w.alloc (.cells #[.int .i64 S.p, .slice ra S.rs.length rc, .slice oa S.os.length oc, .int .i64 S.c] 43)).alloc (.cells #[.int .i64 T.p, .slice ra' T.rs.length rc', .slice oa' T.os.length oc', .int .i64 T.c] 43)) w.heap.size (.int .i64 S.p) (.slice ra S.rs.length rc) (.slice oa S.os.length oc) (.int .i64 S.c)) := (BoxC.new w _ _ _ _ _).below (below_alloc _ _)
  have N2 : Hid (BoxC ((w.alloc (.cells #[.int .i64 S.p, .slice ra S.rs.length rc, .slice oa S.os.length oc, .int .i64 S.c] 43)).alloc (.cells #[.int .i64 T.p, .slice ra' T.rs.length rc', .slice oa' T.os.length oc', .int .i64 T.c] 43)) (w.heap.size + 1) (.int .i64 T.p) (.slice ra' T.rs.length rc') (.slice oa' T.os.length oc') (.int .i64 T.c)) := by
    have h := BoxC.new (w.alloc (.cells #[.int .i64 S.p, .slice ra S.rs.length rc, .slice oa S.os.length oc, .int .i64 S.c] 43)) (.int .i64 T.p) (.slice ra' T.rs.length rc') (.slice oa' T.os.length oc') (.int .i64 T.c) 43
    rw [World.size_alloc] at h
    exact h
  have NB : Hid (Below w.heap.size w ((w.alloc (.cells #[.int .i64 S.p, .slice ra S.rs.length rc, .slice oa S.os.length oc, .int .i64 S.c] 43)).alloc (.cells #[.int .i64 T.p, .slice ra' T.rs.length rc', .slice oa' T.os.length oc', .int .i64 T.c] 43))) := by
    show Below _ _ _
    go_grown
  go_enter Tryz.func55, Tryz.ntmps55
  go_wp2_with fail
  generalize (w.alloc (.cells #[.int .i64 S.p, .slice ra S.rs.length rc, .slice oa S.os.length oc, .int .i64 S.c] 43)).alloc (.cells #[.int .i64 T.p, .slice ra' T.rs.length rc', .slice oa' T.os.length oc', .int .i64 T.c] 43) = wb at *
  go_loopw [5] (fun i wr => ∃ k : Nat, k ≤ S.rs.length ∧ i = .int .i64 k ∧ Below wb.heap.size wb wr ∧ Hid (∀ j, j < k → zi S.rs j = zi T.rs j)) (fun i _ => S.rs.length - (intOf i).toNat)
  case atStart => exact ⟨0, Nat.zero_le _, rfl, Below.refl _ _, fun j hj => by omega⟩
  case round =>
    obtain ⟨k, hk, rfl, hbw, HZ⟩ := hrel
    have hw : Below w.heap.size w wr := NB.out.trans (hbw.mono NB.out.size)
    obtain ⟨n0, n1, n2, n3⟩ := N1.out.below hbw
    obtain ⟨m0, m1, m2, m3⟩ := N2.out.below hbw
    by_cases hlt : k < S.rs.length
    · have hlt2 : k < T.rs.length := by have := HE.out; omega
      obtain ⟨b, off, rfl, hbl, ck⟩ := (H1.out.1.below hw).at hlt
      obtain ⟨b', off', rfl, hbl', ck'⟩ := (H1.out.2.below hw).at hlt2
      have hlt' : (k : Int) < (S.rs.length : Int) := by omega
      have hlt2' : (k : Int) < (T.rs.length : Int) := by omega
      clear hlt2
      rcases Bool.eq_false_or_eq_true (zi S.rs k != zi T.rs k) with t | t
      · have HN : Hid (eqS S T = false) := by
          show eqS S T = false
          rw [HE.out.1]
          have : (S.rs == T.rs) = false := by
            rw [beq_eq_false_iff_ne]
            intro e
            rw [e] at t
            simp at t
          rw [this, Bool.false_and]
        go_wp2_with fail
        go_quiet (fail)
        go_wp2
        go_ret
        rw [HN.out]
        exact ⟨rfl, below_drewN hw _⟩
      · have HZ' : Hid (∀ j, j < k + 1 → zi S.rs j = zi T.rs j) := fun j hj => by
          by_cases e : j = k
          · subst e
            simpa using t
          · exact HZ.out j (by omega)
        clear HZ
        go_wp2_with fail
        go_quiet (fail)
        go_wp2
        go_roundw
        case rel => exact ⟨k + 1, by omega, by go_num, below_drewN hbw _, HZ'.out⟩
        case measure => simp [intOf]; omega
    · have HR : Hid ((S.rs == T.rs) = true) := by
        show (S.rs == T.rs) = true
        rw [beq_iff_eq]
        exact list_of_zi HE.out.2.1 fun j hj => HZ.out j (by omega)
      have hkl : k = S.rs.length := by omega
      subst hkl
      clear HZ hlt hk
      go_wp2_with fail
      clear n0 n1 n2 n3 m0 m1 m2 m3
      go_loopw [6] (fun i wr => ∃ k : Nat, k ≤ S.os.length ∧ i = .int .i64 k ∧ Below wb.heap.size wb wr ∧ Hid (∀ j, j < k → zi S.os j = zi T.os j)) (fun i _ => S.os.length - (intOf i).toNat)
      case atStart => exact ⟨0, Nat.zero_le _, rfl, hbw, fun j hj => by omega⟩
      case round =>
        clear hbw hw
        obtain ⟨k, hk, rfl, hbw, HZ⟩ := hrel
        have hw : Below w.heap.size w wr := NB.out.trans (hbw.mono NB.out.size)
        obtain ⟨n0, n1, n2, n3⟩ := N1.out.below hbw
        obtain ⟨m0, m1, m2, m3⟩ := N2.out.below hbw
        by_cases hlt : k < S.os.length
        · have hlt2 : k < T.os.length := by have := HE.out; omega
          obtain ⟨b, off, rfl, hbl, ck⟩ := (H2.out.1.below hw).at hlt
          obtain ⟨b', off', rfl, hbl', ck'⟩ := (H2.out.2.below hw).at hlt2
          have hlt' : (k : Int) < (S.os.length : Int) := by omega
          have hlt2' : (k : Int) < (T.os.length : Int) := by omega
          clear hlt2
          rcases Bool.eq_false_or_eq_true (zi S.os k != zi T.os k) with t | t
          · have HN : Hid (eqS S T = false) := by
              show eqS S T = false
              rw [HE.out.1]
              have : (S.os == T.os) = false := by
                rw [beq_eq_false_iff_ne]
                intro e
                rw [e] at t
                simp at t
              rw [this, Bool.and_false]
            go_wp2_with fail
            go_quiet (fail)
            go_wp2
            go_ret
            rw [HN.out]
            exact ⟨rfl, below_drewN hw _⟩
          · have HZ' : Hid (∀ j, j < k + 1 → zi S.os j = zi T.os j) := fun j hj => by
              by_cases e : j = k
              · subst e
                simpa using t
              · exact HZ.out j (by omega)
            clear HZ
            go_wp2_with fail
            go_quiet (fail)
            go_wp2
            go_roundw
            case rel => exact ⟨k + 1, by omega, by go_num, below_drewN hbw _, HZ'.out⟩
            case measure => simp [intOf]; omega
        · have HN : Hid (eqS S T = true) := by
            show eqS S T = true
            rw [HE.out.1, HR.out, Bool.true_and, beq_iff_eq]
            exact list_of_zi HE.out.2.2 fun j hj => HZ.out j (by omega)
          clear HZ
          go_wp2
          go_ret
          rw [HN.out]
          exact ⟨rfl, hw⟩

end Go.Proofs.YtkoghgnbolaooaaGreat
