/- Lists of kept states: their copies. -/
import Derived.Test.YtkoghgnbolaooaaGreatRa32
namespace Go.Proofs.YtkoghgnbolaooaaGreat
open Go.ChangeShapes Go.WideShapes Go.ChangeAt Go.RowKit Go.Deep

/-- A kept state lies in five cells of block D from cell j on, its lists where v says. -/
def Cel5 (w : World) (D j : Nat) (N : Int) (S : S4) (v : Value) : Prop := ∃ ra rc oa oc, v = stV S.p ra S.rs.length rc oa S.os.length oc S.c ∧ w.cell? ⟨D, j, none⟩ = some (.int .i64 N) ∧ w.cell? ⟨D, j + 1, none⟩ = some (.int .i64 S.p) ∧ w.cell? ⟨D, j + 2, none⟩ = some (.slice ra S.rs.length rc) ∧ w.cell? ⟨D, j + 3, none⟩ = some (.slice oa S.os.length oc) ∧ w.cell? ⟨D, j + 4, none⟩ = some (.int .i64 S.c)

/-- The copies of n kept states, in block D; their lists behind it. -/
structure OutKept (w : World) (D hi n : Nat) (N : Nat → Int) (S : Nat → S4) (vs : Nat → Value) : Prop where
  cel : ∀ i, i < n → Cel5 w D (i * 5) (N i) (S i) (vs i)
  own : ∀ i, i < n → StOwn w (D + 1) (vs i) (S i).p (S i).rs (S i).os (S i).c
  bd : ∀ i, i < n → ∀ k, hasBlock (vs i) k → k < hi
  apart : ∀ i j, i < j → j < n → ∀ k, hasBlock (vs i) k → ¬ hasBlock (vs j) k
  fr : ∀ j, w.frozen? ⟨D, j, none⟩ = false
  le : hi ≤ w.heap.size
  lt : D < hi
theorem Cel5.blk {w w' : World} {D j : Nat} {N : Int} {S : S4} {v : Value} (h : Cel5 w D j N S v) (hb : w'.heap[D]? = w.heap[D]?) : Cel5 w' D j N S v := by
  obtain ⟨ra, rc, oa, oc, e, h0, h1, h2, h3, h4⟩ := h
  exact ⟨ra, rc, oa, oc, e, (World.cell?_of_block hb).trans h0, (World.cell?_of_block hb).trans h1, (World.cell?_of_block hb).trans h2, (World.cell?_of_block hb).trans h3, (World.cell?_of_block hb).trans h4⟩
theorem OutKept.below {w w' : World} {D hi n B : Nat} {N : Nat → Int} {S : Nat → S4} {vs : Nat → Value} (o : OutKept w D hi n N S vs) (hb : Below B w w') (hB : hi ≤ B) : OutKept w' D hi n N S vs :=
  have hD : w'.heap[D]? = w.heap[D]? := hb.block D (Nat.lt_of_lt_of_le o.lt hB)
  ⟨fun i hi' => (o.cel i hi').blk hD, fun i hi' => (o.own i hi').blk fun k hk => hb.block k (Nat.lt_of_lt_of_le (o.bd i hi' k hk) hB), o.bd, o.apart, fun j => (World.frozen?_of_block hD).trans (o.fr j), Nat.le_trans o.le hb.size, o.lt⟩

theorem OutKept.keep {w w' : World} {D hi n : Nat} {N : Nat → Int} {S : Nat → S4} {vs : Nat → Value} (o : OutKept w D hi n N S vs) (hs : w.heap.size ≤ w'.heap.size) (hb : ∀ k, D ≤ k → k < hi → w'.heap[k]? = w.heap[k]?) : OutKept w' D hi n N S vs :=
  have hD : w'.heap[D]? = w.heap[D]? := hb D (Nat.le_refl _) o.lt
  ⟨fun i hi' => (o.cel i hi').blk hD, fun i hi' => (o.own i hi').blk fun k hk => hb k (by have := ((o.own i hi').lt hk).1; omega) (o.bd i hi' k hk), o.bd, o.apart, fun j => (World.frozen?_of_block hD).trans (o.fr j), Nat.le_trans o.le hs, o.lt⟩

/-- A struct of five cells in block N. -/
def Box5 (w : World) (N : Nat) (v0 v1 v2 v3 v4 : Value) : Prop := w.cell? ⟨N, 0, none⟩ = some v0 ∧ w.cell? ⟨N, 1, none⟩ = some v1 ∧ w.cell? ⟨N, 2, none⟩ = some v2 ∧ w.cell? ⟨N, 3, none⟩ = some v3 ∧ w.cell? ⟨N, 4, none⟩ = some v4
theorem Box5.below {w w' : World} {N : Nat} {v0 v1 v2 v3 v4 : Value} (h : Box5 w N v0 v1 v2 v3 v4) (hb : Below w.heap.size w w') : Box5 w' N v0 v1 v2 v3 v4 := by
  obtain ⟨h0, h1, h2, h3, h4⟩ := h
  have hN := hb.block N (World.block_lt_of_cell? w _ h0)
  exact ⟨(World.cell?_of_block hN).trans h0, (World.cell?_of_block hN).trans h1, (World.cell?_of_block hN).trans h2, (World.cell?_of_block hN).trans h3, (World.cell?_of_block hN).trans h4⟩
theorem Box5.new (w : World) (v0 v1 v2 v3 v4 : Value) (t : TypeId) : Box5 (w.alloc (.cells #[v0, v1, v2, v3, v4] t)) w.heap.size v0 v1 v2 v3 v4 := by
  unfold Box5
  simp
theorem Box5.set5 {w : World} {N : Nat} {z0 z1 z2 z3 z4 : Value} (h : Box5 w N z0 z1 z2 z3 z4) (a b c d e : Value) : Box5 (((((w.setCell ⟨N, 0, none⟩ a).setCell ⟨N, 1, none⟩ b).setCell ⟨N, 2, none⟩ c).setCell ⟨N, 3, none⟩ d).setCell ⟨N, 4, none⟩ e) N a b c d e := by
  obtain ⟨h0, h1, h2, h3, h4⟩ := h
  exact ⟨by go_cell, by go_cell, by go_cell, by go_cell, by go_cell⟩
theorem Box5.setO {w : World} {N M : Nat} {v0 v1 v2 v3 v4 : Value} (h : Box5 w N v0 v1 v2 v3 v4) (hne : M ≠ N) (j : Nat) (u : Value) : Box5 (w.setCell ⟨M, j, none⟩ u) N v0 v1 v2 v3 v4 := by
  obtain ⟨h0, h1, h2, h3, h4⟩ := h
  have hc : ∀ i, (w.setCell ⟨M, j, none⟩ u).cell? ⟨N, i, none⟩ = w.cell? ⟨N, i, none⟩ := fun i => World.cell?_setCell_other _ _ _ _ fun e => hne (by injection e)
  exact ⟨(hc _).trans h0, (hc _).trans h1, (hc _).trans h2, (hc _).trans h3, (hc _).trans h4⟩

theorem StOwn.setK {w : World} {B N : Nat} {v : Value} {p code : Int} {rs os : List Int} (h : StOwn w B v p rs os code) (hN : N < B) (j : Nat) (u : Value) : StOwn (w.setCell ⟨N, j, none⟩ u) B v p rs os code := by
  obtain ⟨vr, vo, e, o1, o2, ha⟩ := h
  exact ⟨vr, vo, e, o1.setBelow hN _, o2.setBelow hN _, ha⟩
theorem infoKpt : (Tryz.prog.info? 53).map (fun i => (i.zero, i.size, i.bytes)) = some (some (kpV 0 0 none 0 0 none 0 0 0), 5, 72) := by kernel_rfl
theorem run_make_kpt (n : Nat) (hn : n ≤ 1048576) (w : World) :
    (Instr.makeSlice 26 (.int .i64 (n : Int)) (.int .i64 (n : Int))).run Tryz.prog w = .ok (.slice (some ⟨w.heap.size, 0, none⟩) n n) (w.alloc (.cells (madeCells (kpV 0 0 none 0 0 none 0 0 0).cells (n * 5)) 53)) := by
  have hinfo := infoKpt
  cases hi : Tryz.prog.info? 53 with
  | none => rw [hi] at hinfo; cases hinfo
  | some i =>
    rw [hi] at hinfo
    simp only [Option.map_some, Option.some.injEq, Prod.mk.injEq] at hinfo
    obtain ⟨hz, hs, hb⟩ := hinfo
    have h := run_make (P := Tryz.prog) w 26 53 i _ Tryz.underlying26 hi hz .i64 .i64 (n : Int) (n : Int) (by omega) (Int.le_refl _) (by rw [hb]; omega) (by omega)
    rw [hs] at h
    simpa using h
theorem madeKpt_row (w : World) (n : Nat) : ∃ f, (w.alloc (.cells (madeCells (kpV 0 0 none 0 0 none 0 0 0).cells (n * 5)) 53)).rowIs w.heap.size 53 (n * 5) f := by
  refine ⟨fun i => (kpV 0 0 none 0 0 none 0 0 0).cells[i % 5]!, _, blk_alloc_new _ _, size_madeCells _ _, fun i hi => ?_⟩
  simp only [madeCells]
  rw [Array.getElem?_map, Array.getElem?_range, if_pos hi]
  rfl

set_option maxRecDepth 100000 in
set_option maxHeartbeats 1000000 in
theorem toKept_any (n p code : Int) (ra oa : Option Addr) (rc oc : Nat) (rs os : List Int) (w : World) (hr : rs.length ≤ 1048576) (ho : os.length ≤ 1048576) (h1 : Sl w ra rs) (h2 : Sl w oa os) :
    Calls Tryz.prog 41 #[kpV n p ra rs.length rc oa os.length oc code] w fun e w' => ∃ ra' rc' oa' oc', e = .returned (kpV n p ra' rs.length rc' oa' os.length oc' code) ∧ StOwn w' w.heap.size (stV p ra' rs.length rc' oa' os.length oc' code) p rs os code ∧ Below w.heap.size w w' := by
  have H1 : Hid (Sl w ra rs) := h1
  have H2 : Hid (Sl w oa os) := h2
  clear h1 h2
  go_enter Tryz.func41, Tryz.ntmps41
  go_wp2_with fail
  have bz : Below w.heap.size w (((w.alloc (.cells #[.int .i64 n, .int .i64 p, .slice ra rs.length rc, .slice oa os.length oc, .int .i64 code] 74)).alloc (.cells #[.int .i64 0, .int .i64 0, .slice none 0 0, .slice none 0 0, .int .i64 0] 53)).alloc (.cells #[.int .i64 n, .int .i64 0, .slice none 0 0, .slice none 0 0, .int .i64 0] 53)) := by go_grown
  have hz : (((w.alloc (.cells #[.int .i64 n, .int .i64 p, .slice ra rs.length rc, .slice oa os.length oc, .int .i64 code] 74)).alloc (.cells #[.int .i64 0, .int .i64 0, .slice none 0 0, .slice none 0 0, .int .i64 0] 53)).alloc (.cells #[.int .i64 n, .int .i64 0, .slice none 0 0, .slice none 0 0, .int .i64 0] 53)).heap.size = w.heap.size + 1 + 1 + 1 := by simp
  have x2 := Box5.new ((w.alloc (.cells #[.int .i64 n, .int .i64 p, .slice ra rs.length rc, .slice oa os.length oc, .int .i64 code] 74)).alloc (.cells #[.int .i64 0, .int .i64 0, .slice none 0 0, .slice none 0 0, .int .i64 0] 53)) (.int .i64 n) (.int .i64 0) (.slice none 0 0) (.slice none 0 0) (.int .i64 0) 53
  have f2 := fun j => new_frozen ((w.alloc (.cells #[.int .i64 n, .int .i64 p, .slice ra rs.length rc, .slice oa os.length oc, .int .i64 code] 74)).alloc (.cells #[.int .i64 0, .int .i64 0, .slice none 0 0, .slice none 0 0, .int .i64 0] 53)) #[.int .i64 n, .int .i64 0, .slice none 0 0, .slice none 0 0, .int .i64 0] 53 j rfl
  have bb := below_alloc ((w.alloc (.cells #[.int .i64 n, .int .i64 p, .slice ra rs.length rc, .slice oa os.length oc, .int .i64 code] 74)).alloc (.cells #[.int .i64 0, .int .i64 0, .slice none 0 0, .slice none 0 0, .int .i64 0] 53)) (.cells #[.int .i64 n, .int .i64 0, .slice none 0 0, .slice none 0 0, .int .i64 0] 53)
  have x1 := (Box5.new (w.alloc (.cells #[.int .i64 n, .int .i64 p, .slice ra rs.length rc, .slice oa os.length oc, .int .i64 code] 74)) (.int .i64 0) (.int .i64 0) (.slice none 0 0) (.slice none 0 0) (.int .i64 0) 53).below bb
  have f1 := fun j => (World.frozen?_of_block (bb.block (w.heap.size + 1) (by simp))).trans (new_frozen (w.alloc (.cells #[.int .i64 n, .int .i64 p, .slice ra rs.length rc, .slice oa os.length oc, .int .i64 code] 74)) #[.int .i64 0, .int .i64 0, .slice none 0 0, .slice none 0 0, .int .i64 0] 53 j (N := w.heap.size + 1) (by simp))
  simp only [World.size_alloc] at x1 x2 f2
  clear bb
  generalize ((w.alloc (.cells #[.int .i64 n, .int .i64 p, .slice ra rs.length rc, .slice oa os.length oc, .int .i64 code] 74)).alloc (.cells #[.int .i64 0, .int .i64 0, .slice none 0 0, .slice none 0 0, .int .i64 0] 53)).alloc (.cells #[.int .i64 n, .int .i64 0, .slice none 0 0, .slice none 0 0, .int .i64 0] 53) = W3 at *
  refine (toState_any p code ra oa rc oc rs os W3 hr ho (H1.out.below bz) (H2.out.below bz)).mono ?_
  rintro e w1 ⟨v1, rfl, o1, b1⟩
  obtain ⟨ra1, rc1, oa1, oc1, rfl, -, -⟩ := o1.read
  obtain ⟨y0, y1, y2, y3, y4⟩ := x1.below b1
  obtain ⟨z0, z1, z2, z3, z4⟩ := x2.below b1
  have g1 : ∀ j, w1.frozen? ⟨w.heap.size + 1, j, none⟩ = false := fun j => (World.frozen?_of_block (b1.block (w.heap.size + 1) (by omega))).trans (f1 j)
  have g2 : ∀ j, w1.frozen? ⟨w.heap.size + 1 + 1, j, none⟩ = false := fun j => (World.frozen?_of_block (b1.block (w.heap.size + 1 + 1) (by omega))).trans (f2 j)
  have BB : Hid (Below w.heap.size w w1) := bz.trans (b1.mono bz.size)
  have O1 : Hid (StOwn w1 W3.heap.size (stV p ra1 rs.length rc1 oa1 os.length oc1 code) p rs os code) := o1
  have HZ : Hid (W3.heap.size = w.heap.size + 1 + 1 + 1) := hz
  clear x1 x2 f1 f2 b1 bz o1 hz
  have n12 : w.heap.size + 1 ≠ w.heap.size + 1 + 1 := by omega
  go_wp2
  refine bodyPost_ret (v := kpV n p ra1 rs.length rc1 oa1 os.length oc1 code) (by simp [results, Tryz.results41, go_sem, y0, y1, y2, y3, y4]) rfl ⟨_, _, _, _, rfl, ?_, ?_⟩
  · have hz := HZ.out
    refine StOwn.mono ?_ (show w.heap.size ≤ W3.heap.size by omega)
    repeat (refine StOwn.setK ?_ (by omega) _ _)
    exact O1.out
  · repeat (refine Below.setCell ?_ (by simp; try omega) _)
    exact BB.out

/-- The first k states of a row that is being filled. -/
structure FillK (w : World) (D k : Nat) (f : Nat → Value) (N : Nat → Int) (S : Nat → S4) (vs : Nat → Value) : Prop where
  cel : ∀ i, i < k → ∃ ra rc oa oc, vs i = stV (S i).p ra (S i).rs.length rc oa (S i).os.length oc (S i).c ∧ f (i * 5) = .int .i64 (N i) ∧ f (i * 5 + 1) = .int .i64 (S i).p ∧ f (i * 5 + 2) = .slice ra (S i).rs.length rc ∧ f (i * 5 + 3) = .slice oa (S i).os.length oc ∧ f (i * 5 + 4) = .int .i64 (S i).c
  own : ∀ i, i < k → StOwn w (D + 1) (vs i) (S i).p (S i).rs (S i).os (S i).c
  apart : ∀ i j, i < j → j < k → ∀ b, hasBlock (vs i) b → ¬ hasBlock (vs j) b
theorem FillK.step {w w1 : World} {D k : Nat} {f : Nat → Value} {N : Nat → Int} {S : Nat → S4} {vs : Nat → Value} (o : FillK w D k f N S vs) (hb : Below w.heap.size w w1) (hD : D < w.heap.size) {ra oa : Option Addr} {rc oc : Nat} (hv : StOwn w1 w.heap.size (stV (S k).p ra (S k).rs.length rc oa (S k).os.length oc (S k).c) (S k).p (S k).rs (S k).os (S k).c) (a b c d z : Value) :
    FillK (((((w1.setCell ⟨D, k * 5, none⟩ z).setCell ⟨D, k * 5 + 1, none⟩ a).setCell ⟨D, k * 5 + 2, none⟩ b).setCell ⟨D, k * 5 + 3, none⟩ c).setCell ⟨D, k * 5 + 4, none⟩ d) D (k + 1)
      (fun i => if i = k * 5 + 4 then .int .i64 (S k).c else if i = k * 5 + 3 then .slice oa (S k).os.length oc else if i = k * 5 + 2 then .slice ra (S k).rs.length rc else if i = k * 5 + 1 then .int .i64 (S k).p else if i = k * 5 then .int .i64 (N k) else f i) N S
      (fun i => if i = k then stV (S k).p ra (S k).rs.length rc oa (S k).os.length oc (S k).c else vs i) := by
  have hs : ∀ g, g ≠ D → (((((w1.setCell ⟨D, k * 5, none⟩ z).setCell ⟨D, k * 5 + 1, none⟩ a).setCell ⟨D, k * 5 + 2, none⟩ b).setCell ⟨D, k * 5 + 3, none⟩ c).setCell ⟨D, k * 5 + 4, none⟩ d).heap[g]? = w1.heap[g]? := fun g hne => (Below.heap_setCell _ _ _ _ hne).trans ((Below.heap_setCell _ _ _ _ hne).trans ((Below.heap_setCell _ _ _ _ hne).trans ((Below.heap_setCell _ _ _ _ hne).trans (Below.heap_setCell _ _ _ _ hne))))
  refine ⟨fun i hi => ?_, fun i hi => ?_, fun i j hij hj g h1 => ?_⟩
  · by_cases e : i = k
    · subst e
      exact ⟨ra, rc, oa, oc, by simp, by simp, by simp, by simp, by simp, by simp⟩
    · obtain ⟨ra', rc', oa', oc', e0, e1, e2, e3, e4, e5⟩ := o.cel i (by omega)
      refine ⟨ra', rc', oa', oc', by simp only [if_neg e]; exact e0, ?_, ?_, ?_, ?_, ?_⟩
      · rw [if_neg (by omega), if_neg (by omega), if_neg (by omega), if_neg (by omega), if_neg (by omega)]; exact e1
      · rw [if_neg (by omega), if_neg (by omega), if_neg (by omega), if_neg (by omega), if_neg (by omega)]; exact e2
      · rw [if_neg (by omega), if_neg (by omega), if_neg (by omega), if_neg (by omega), if_neg (by omega)]; exact e3
      · rw [if_neg (by omega), if_neg (by omega), if_neg (by omega), if_neg (by omega), if_neg (by omega)]; exact e4
      · rw [if_neg (by omega), if_neg (by omega), if_neg (by omega), if_neg (by omega), if_neg (by omega)]; exact e5
  · by_cases e : i = k
    · subst e
      simp only [if_true]
      refine StOwn.blk (hv.mono (by omega)) fun g hg => hs g ?_
      have := (hv.lt hg).1
      omega
    · simp only [if_neg e]
      have ho := o.own i (by omega)
      refine (ho.below hb).blk fun g hg => hs g ?_
      have := (ho.lt hg).1
      omega
  · by_cases e : j = k
    · have hi : i ≠ k := by omega
      simp only [if_neg hi] at h1
      simp only [if_pos e]
      intro h2
      have a1 := ((o.own i (by omega)).lt h1).2
      have a2 := (hv.lt h2).1
      omega
    · have hi : i ≠ k := by omega
      simp only [if_neg hi] at h1
      simp only [if_neg e]
      exact o.apart i j hij (by omega) g h1

set_option maxRecDepth 100000 in
set_option maxHeartbeats 2000000 in
theorem toKeptS_any (a0 : Option Addr) (n cap : Nat) (q : Nat → K9) (W w : World) (hn : n ≤ 1048576) (hl : ∀ i, i < n → (q i).rs.length ≤ 1048576 ∧ (q i).os.length ≤ 1048576) (hA : AllKept W a0 n q) (hW : Below W.heap.size W w) :
    Calls Tryz.prog 20 #[.slice a0 n cap] w fun e w' => e = .returned (.slice (some ⟨w.heap.size, 0, none⟩) n n) ∧ (∃ vs, OutKept w' w.heap.size w'.heap.size n (fun i => (q i).n) (fun i => (q i).s) vs) ∧ Below w.heap.size w w' := by
  have hl' : (n : Int) ≤ 1048576 := by omega
  have hmk := run_make_kpt n hn
  have HA : Hid (AllKept W a0 n q) := hA
  have HW : Hid (Below W.heap.size W w) := hW
  have HL : Hid (∀ i, i < n → (q i).rs.length ≤ 1048576 ∧ (q i).os.length ≤ 1048576) := hl
  clear hA hW hl
  go_enter Tryz.func20, Tryz.ntmps20
  go_wp2_with fail
  clear hmk
  go_loopw [4] (fun i wr => ∃ k : Nat, k ≤ n ∧ i = .int .i64 k ∧ (∃ f, wr.rowIs w.heap.size 53 (n * 5) f ∧ Hid (∃ vs, FillK wr w.heap.size k f (fun i => (q i).n) (fun i => (q i).s) vs)) ∧ Below w.heap.size w wr) (fun i _ => n - (intOf i).toNat)
  case atStart =>
    obtain ⟨f, hf⟩ := madeKpt_row w n
    exact ⟨0, Nat.zero_le _, rfl, ⟨f, hf, fun _ => .int .i64 0, fun i hi => by omega, fun i hi => by omega, fun i j hij hj => by omega⟩, (Below.refl _ _).alloc (Nat.le_refl _) _⟩
  case round =>
    obtain ⟨k, hk, rfl, ⟨f, hrow, HF⟩, hbw⟩ := hrel
    have hs := hrow.lt
    by_cases hlt : k < n
    · have hlt' : (k : Int) < (n : Int) := by omega
      have HB : Hid (AllKept wr a0 n q) := HA.out.below (HW.out.trans (hbw.mono HW.out.size))
      obtain ⟨b, off, rfl, c0, c1, c2, c3, c4⟩ := HB.out.at hlt
      have HR : Hid (wr.rowIs w.heap.size 53 (n * 5) f) := hrow
      clear hrow
      go_wp2_with fail
      refine (toKept_any _ _ _ _ _ _ _ (q k).rs (q k).os _ (HL.out k hlt).1 (HL.out k hlt).2 (HB.out.lst k hlt).1 (HB.out.lst k hlt).2).mono ?_
      rintro e w1 ⟨ra1, rc1, oa1, oc1, rfl, o1, hb1⟩
      have hr1 : w1.rowIs w.heap.size 53 (n * 5) f := HR.out.of_block (hb1.block _ hs)
      have f0 := hr1.frozen
      have g0 := hr1.cell (i := k * 5) (by omega)
      have g4 := hr1.cell (i := k * 5 + 1) (by omega)
      have g1 := hr1.cell (i := k * 5 + 2) (by omega)
      have g2 := hr1.cell (i := k * 5 + 3) (by omega)
      have g3 := hr1.cell (i := k * 5 + 4) (by omega)
      have HR1 : Hid (w1.rowIs w.heap.size 53 (n * 5) f) := hr1
      have HF1 : Hid (∀ a b c d z : Value, ∃ vs, FillK (((((w1.setCell ⟨w.heap.size, k * 5, none⟩ z).setCell ⟨w.heap.size, k * 5 + 1, none⟩ a).setCell ⟨w.heap.size, k * 5 + 2, none⟩ b).setCell ⟨w.heap.size, k * 5 + 3, none⟩ c).setCell ⟨w.heap.size, k * 5 + 4, none⟩ d) w.heap.size (k + 1) (fun i => if i = k * 5 + 4 then .int .i64 (q k).c else if i = k * 5 + 3 then .slice oa1 (q k).os.length oc1 else if i = k * 5 + 2 then .slice ra1 (q k).rs.length rc1 else if i = k * 5 + 1 then .int .i64 (q k).p else if i = k * 5 then .int .i64 (q k).n else f i) (fun i => (q i).n) (fun i => (q i).s) vs) := by
        intro a b c d z
        obtain ⟨vs, o⟩ := HF.out
        exact ⟨_, o.step hb1 hs (N := fun i => (q i).n) (S := fun i => (q i).s) (k := k) o1 a b c d z⟩
      clear hr1 o1 HF HR HB c0 c1 c2 c3 c4
      go_wp2_with fail
      exact ⟨⟨k + 1, by omega, by go_num, ⟨_, ((((HR1.out.set _ _).set _ _).set _ _).set _ _).set _ _, HF1.out _ _ _ _ _⟩, (((((hbw.trans (hb1.mono (Nat.le_of_lt hs))).setCell (Nat.le_refl _) _).setCell (Nat.le_refl _) _).setCell (Nat.le_refl _) _).setCell (Nat.le_refl _) _).setCell (Nat.le_refl _) _⟩, by simp [intOf]; omega⟩
    · have hkl : k = n := by omega
      have HO : Hid (∃ vs, OutKept wr w.heap.size wr.heap.size n (fun i => (q i).n) (fun i => (q i).s) vs) := by
        obtain ⟨vs, o⟩ := HF.out
        rw [hkl] at o
        refine ⟨vs, fun i hi => ?_, o.own, fun i hi b hb => ((o.own i hi).lt hb).2, o.apart, fun j => hrow.frozen j, Nat.le_refl _, hs⟩
        obtain ⟨ra, rc, oa, oc, e0, e1, e2, e3, e4, e5⟩ := o.cel i hi
        exact ⟨ra, rc, oa, oc, e0, by rw [hrow.cell (by omega), e1], by rw [hrow.cell (by omega), e2], by rw [hrow.cell (by omega), e3], by rw [hrow.cell (by omega), e4], by rw [hrow.cell (by omega), e5]⟩
      clear hkl HF hrow
      go_wp2
      go_ret
      exact ⟨rfl, HO.out, hbw⟩

end Go.Proofs.YtkoghgnbolaooaaGreat
