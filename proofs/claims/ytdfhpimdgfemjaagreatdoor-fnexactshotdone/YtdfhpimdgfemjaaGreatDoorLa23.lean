/- Lists of items that may be nil. -/
import Derived.Test.YtdfhpimdgfemjaaGreatDoorLa16
import Derived.Test.YtdfhpimdgfemjaaGreatDoorLa14
namespace Go.Proofs.YtdfhpimdgfemjaaGreatDoor
open Go.ChangeShapes Go.WideShapes Go.ChangeAt Go.RowKit Go.Deep

/-- The copies of n lists: cell i of block D points to block bs i. -/
structure OutInt (w : World) (D hi n : Nat) (ls : Nat → Nat) (bs : Nat → Nat) (h : Nat → Nat → Int) : Prop where
  cel : ∀ i, i < n → w.cell? ⟨D, i, none⟩ = some (.slice (some ⟨bs i, 0, none⟩) (ls i) (ls i))
  bd : ∀ i, i < n → D < bs i ∧ bs i < hi
  row : ∀ i, i < n → ZAt w (bs i) 0 (ls i) (h i)
  fr : ∀ i, i < n → ∀ j, w.frozen? ⟨bs i, j, none⟩ = false
  up : ∀ i j, i < j → j < n → bs i < bs j
  le : hi ≤ w.heap.size
  lt : D < hi
theorem OutInt.below {w w' : World} {D hi n B : Nat} {ls : Nat → Nat} {bs : Nat → Nat} {h : Nat → Nat → Int} (o : OutInt w D hi n ls bs h) (hb : Below B w w') (hB : hi ≤ B) : OutInt w' D hi n ls bs h :=
  ⟨fun i hi' => (hb.cell (p := ⟨D, i, none⟩) (Nat.lt_of_lt_of_le o.lt hB)).trans (o.cel i hi'), o.bd, fun i hi' => (o.row i hi').below hb (Nat.lt_of_lt_of_le (o.bd i hi').2 hB), fun i hi' j => (hb.frozen (p := ⟨bs i, j, none⟩) (Nat.lt_of_lt_of_le (o.bd i hi').2 hB)).trans (o.fr i hi' j), o.up, Nat.le_trans o.le hb.size, o.lt⟩

theorem OutInt.keep {w w' : World} {D hi n : Nat} {ls : Nat → Nat} {bs : Nat → Nat} {h : Nat → Nat → Int} (o : OutInt w D hi n ls bs h) (hs : w.heap.size ≤ w'.heap.size) (hb : ∀ k, D ≤ k → k < hi → w'.heap[k]? = w.heap[k]?) : OutInt w' D hi n ls bs h := by
  refine ⟨fun i hi' => (World.cell?_of_block (hb D (Nat.le_refl _) o.lt)).trans (o.cel i hi'), o.bd, fun i hi' => ?_, fun i hi' j => (World.frozen?_of_block (hb _ (Nat.le_of_lt (o.bd i hi').1) (o.bd i hi').2)).trans (o.fr i hi' j), o.up, Nat.le_trans o.le hs, o.lt⟩
  have hc : ∀ j, w'.cell? ⟨bs i, j, none⟩ = w.cell? ⟨bs i, j, none⟩ := fun j => World.cell?_of_block (hb _ (Nat.le_of_lt (o.bd i hi').1) (o.bd i hi').2)
  intro t ht
  have := o.row i hi' t ht
  simp only [hc]
  exact this

set_option maxRecDepth 100000 in
set_option maxHeartbeats 1000000 in
theorem szIntSS_small (a0 : Option Addr) (n cap : Nat) (aa : Nat → Option Addr) (ls cs : Nat → Nat) (L : Int) (w : World) (hr : RowS w a0 n fun i => .slice (aa i) (ls i) (cs i)) (h : (n : Int) + (sumL ls n : Nat) ≤ L) (hL : L ≤ 1048576) :
    Calls Tryz.prog 132 #[.slice a0 n cap, .int .i64 L] w fun e w' => e = .returned (.int .i64 (L - n - (sumL ls n : Nat))) ∧ w' = w := by
  have hn : (n : Int) ≤ 1048576 := by omega
  have h0 : 0 ≤ L := by omega
  have hn0 : ¬ (L - (n : Int) < 0) := by omega
  have HR : Hid (RowS w a0 n fun i => .slice (aa i) (ls i) (cs i)) := hr
  have HS : Hid ((n : Int) + (sumL ls n : Nat) ≤ L) := h
  clear hr h
  go_enter Tryz.func132, Tryz.ntmps132
  go_wp2_with fail
  go_loopw [1, 5] (fun q i wr => ∃ k : Nat, k ≤ n ∧ i = .int .i64 k ∧ q = .int .i64 (L - n - (sumL ls k : Nat)) ∧ wr = w) (fun _ i _ => n - (intOf i).toNat)
  case atStart => exact ⟨0, Nat.zero_le _, rfl, by simp [sumL], rfl⟩
  case round =>
    obtain ⟨k, hk, rfl, rfl, rfl⟩ := hrel
    by_cases hlt : k < n
    · have hlt' : (k : Int) < (n : Int) := by omega
      obtain ⟨b, off, rfl, ck⟩ := HR.out.at hlt
      have hsl := sumL_at ls hlt
      have hS := HS.out
      have e1 : (L - n - (sumL ls k : Nat)) - (ls k : Int) = L - n - (sumL ls (k + 1) : Nat) := by simp only [sumL]; omega
      have HE : Hid ((L - n - (sumL ls k : Nat)) - (ls k : Int) = L - n - (sumL ls (k + 1) : Nat)) := e1
      have e2 : (ls k : Int) ≤ L - n - (sumL ls k : Nat) := by omega
      have e3 : ¬ (L - n - (sumL ls (k + 1) : Nat) < 0) := by omega
      have e4 : L - n - (sumL ls k : Nat) ≤ 1048576 := by omega
      clear e1 hS hsl
      generalize hy : L - n - (sumL ls (k + 1) : Nat) = Y at *
      go_wp2_with fail
      refine (szIntS_smallL _ _ _ _ _ e2 e4).mono ?_
      rintro e w1 ⟨rfl, rfl⟩
      rw [HE.out]
      clear e2 e4
      go_wp2
      go_roundw
      case rel => exact ⟨k + 1, by omega, by go_num, by rw [← hy], by trivial⟩
      case measure => simp [intOf]; omega
    · have hkl : k = n := by omega
      subst hkl
      go_wp2
      go_ret
      exact ⟨rfl, rfl⟩

set_option maxRecDepth 100000 in
set_option maxHeartbeats 1000000 in
theorem szIntSS_great (a0 : Option Addr) (n cap : Nat) (aa : Nat → Option Addr) (ls cs : Nat → Nat) (L : Int) (w : World) (hr : RowS w a0 n fun i => .slice (aa i) (ls i) (cs i)) (h : L < (n : Int) + (sumL ls n : Nat)) (h0 : 0 ≤ L) (hL : L ≤ 1048576) (hm : n ≤ maxLen) (hl : ∀ i, i < n → ls i ≤ maxLen) :
    Calls Tryz.prog 132 #[.slice a0 n cap, .int .i64 L] w fun e w' => e = .returned (.int .i64 (-1)) ∧ w' = w := by
  have hm' : (n : Int) ≤ 9223372036854775807 := by unfold maxLen at hm; omega
  by_cases hn0 : L - (n : Int) < 0
  · go_enter Tryz.func132, Tryz.ntmps132
    go_wp2
    go_ret
    exact ⟨rfl, rfl⟩
  have hn : (n : Int) ≤ 1048576 := by omega
  have HR : Hid (RowS w a0 n fun i => .slice (aa i) (ls i) (cs i)) := hr
  have HS : Hid (L < (n : Int) + (sumL ls n : Nat)) := h
  have HL : Hid (∀ i, i < n → ls i ≤ maxLen) := hl
  clear hr h hl hm
  go_enter Tryz.func132, Tryz.ntmps132
  go_wp2_with fail
  go_loopw [1, 5] (fun q i wr => ∃ k : Nat, k ≤ n ∧ i = .int .i64 k ∧ q = .int .i64 (L - n - (sumL ls k : Nat)) ∧ 0 ≤ L - n - (sumL ls k : Nat) ∧ wr = w) (fun _ i _ => n - (intOf i).toNat)
  case atStart => exact ⟨0, Nat.zero_le _, rfl, by simp [sumL], by simp only [sumL]; omega, rfl⟩
  case round =>
    obtain ⟨k, hk, rfl, rfl, hp, rfl⟩ := hrel
    by_cases hlt : k < n
    · have hlt' : (k : Int) < (n : Int) := by omega
      obtain ⟨b, off, rfl, ck⟩ := HR.out.at hlt
      have hml := HL.out k hlt
      have e1 : (L - n - (sumL ls k : Nat)) - (ls k : Int) = L - n - (sumL ls (k + 1) : Nat) := by simp only [sumL]; omega
      have HE : Hid ((L - n - (sumL ls k : Nat)) - (ls k : Int) = L - n - (sumL ls (k + 1) : Nat)) := e1
      have e4 : L - n - (sumL ls k : Nat) ≤ 1048576 := by omega
      clear e1
      by_cases hb : (ls k : Int) ≤ L - n - (sumL ls k : Nat)
      · have e3 : 0 ≤ L - n - (sumL ls (k + 1) : Nat) := by have := HE.out; omega
        have e3' : ¬ (L - n - (sumL ls (k + 1) : Nat) < 0) := by omega
        generalize hy : L - n - (sumL ls (k + 1) : Nat) = Y at *
        go_wp2_with fail
        refine (szIntS_smallL _ _ _ _ _ hb e4).mono ?_
        rintro e w1 ⟨rfl, rfl⟩
        rw [HE.out]
        clear hb e4 hml hp
        go_wp2
        go_roundw
        case rel => exact ⟨k + 1, by omega, by go_num, by rw [← hy], by omega, by trivial⟩
        case measure => simp [intOf]; omega
      · have hb' : L - n - (sumL ls k : Nat) < (ls k : Int) := by omega
        go_wp2_with fail
        refine (szIntS_greatL _ _ _ _ _ hb' hp e4 hml).mono ?_
        rintro e w1 ⟨rfl, rfl⟩
        clear hb hb' e4 hml hp HE
        go_wp2
        go_ret
        exact ⟨rfl, rfl⟩
    · have hkl : k = n := by omega
      subst hkl
      have := HS.out
      omega

theorem infoIntS : (Tryz.prog.info? 35).map (fun i => (i.zero, i.size, i.bytes)) = some (some (.slice none 0 0), 1, 24) := by kernel_rfl
theorem run_make_IntS (n : Nat) (hn : n ≤ 1048576) (w : World) :
    (Instr.makeSlice 37 (.int .i64 (n : Int)) (.int .i64 (n : Int))).run Tryz.prog w = .ok (.slice (some ⟨w.heap.size, 0, none⟩) n n) (w.alloc (.cells (madeCells #[.slice none 0 0] n) 35)) := by
  have hinfo := infoIntS
  cases hi : Tryz.prog.info? 35 with
  | none => rw [hi] at hinfo; cases hinfo
  | some i =>
    rw [hi] at hinfo
    simp only [Option.map_some, Option.some.injEq, Prod.mk.injEq] at hinfo
    obtain ⟨hz, hs, hb⟩ := hinfo
    have h := run_make (P := Tryz.prog) w 37 35 i _ Tryz.underlying37 hi hz .i64 .i64 (n : Int) (n : Int) (by omega) (Int.le_refl _) (by rw [hb]; omega) (by omega)
    rw [hs] at h
    simpa [Value.cells] using h
theorem madeIntS_row (w : World) (n : Nat) : (w.alloc (.cells (madeCells #[.slice none 0 0] n) 35)).rowIs w.heap.size 35 n (fun _ => .slice none 0 0) := by
  refine ⟨_, blk_alloc_new _ _, size_madeCells _ _, fun i hi => ?_⟩
  simp only [madeCells]
  rw [Array.getElem?_map, Array.getElem?_range, if_pos hi]
  have : i % 1 = 0 := Nat.mod_one i
  exact congrArg some (by simp [this])

/-- The first k lists of a row that is being filled. -/
structure FillInt (w : World) (D k : Nat) (f : Nat → Value) (ls : Nat → Nat) (bs : Nat → Nat) (h : Nat → Nat → Int) : Prop where
  cel : ∀ i, i < k → f i = .slice (some ⟨bs i, 0, none⟩) (ls i) (ls i)
  bd : ∀ i, i < k → D < bs i ∧ bs i < w.heap.size
  row : ∀ i, i < k → ZAt w (bs i) 0 (ls i) (h i)
  fr : ∀ i, i < k → ∀ j, w.frozen? ⟨bs i, j, none⟩ = false
  up : ∀ i j, i < j → j < k → bs i < bs j
theorem FillInt.step {w w1 : World} {D k : Nat} {f : Nat → Value} {ls : Nat → Nat} {bs : Nat → Nat} {h : Nat → Nat → Int} (o : FillInt w D k f ls bs h) (hb : Below w.heap.size w w1) (hD : D < w.heap.size) (hz : w.heap.size < w1.heap.size) (hr : ZAt w1 w.heap.size 0 (ls k) (h k)) (hf : ∀ j, w1.frozen? ⟨w.heap.size, j, none⟩ = false) (u : Value) :
    FillInt (w1.setCell ⟨D, k, none⟩ u) D (k + 1) (fun i => if i = k then .slice (some ⟨w.heap.size, 0, none⟩) (ls k) (ls k) else f i) ls (fun i => if i = k then w.heap.size else bs i) h := by
  have hs : ∀ b, b ≠ D → (w1.setCell ⟨D, k, none⟩ u).heap[b]? = w1.heap[b]? := fun b hne => Below.heap_setCell _ _ _ _ hne
  have hat : ∀ b n g, b ≠ D → ZAt w1 b 0 n g → ZAt (w1.setCell ⟨D, k, none⟩ u) b 0 n g := fun b n g hne hg => fun i hi => (World.cell?_of_block (hs b hne)).trans (hg i hi)
  refine ⟨fun i hi => ?_, fun i hi => ?_, fun i hi => ?_, fun i hi j => ?_, fun i j hij hj => ?_⟩
  · by_cases e : i = k
    · subst e; simp
    · simp only [if_neg e]; exact o.cel i (by omega)
  · by_cases e : i = k
    · subst e; simp; omega
    · simp only [if_neg e, World.size_setCell]; have := o.bd i (by omega); omega
  · by_cases e : i = k
    · subst e; simp only [if_true]; exact hat _ _ _ (by omega) hr
    · simp only [if_neg e]; have hbd := o.bd i (by omega); exact hat _ _ _ (by omega) ((o.row i (by omega)).below hb hbd.2)
  · by_cases e : i = k
    · subst e; simp only [if_true]; rw [World.frozen?_setCell]; exact hf j
    · simp only [if_neg e]; rw [World.frozen?_setCell]; have hbd := o.bd i (by omega); exact (hb.frozen (p := ⟨bs i, j, none⟩) hbd.2).trans (o.fr i (by omega) j)
  · by_cases e : j = k
    · have hi : i ≠ k := by omega
      simp only [if_neg hi, if_pos e]
      exact (o.bd i (by omega)).2
    · have hi : i ≠ k := by omega
      simp only [if_neg hi, if_neg e]
      exact o.up i j hij (by omega)

/-- Wherever nothing old has turned, each of the lists can be copied. -/
structure AllInt (W : World) (a0 : Option Addr) (n : Nat) (aa : Nat → Option Addr) (ls cs : Nat → Nat) (h : Nat → Nat → Int) : Prop where
  row : RowS W a0 n fun i => .slice (aa i) (ls i) (cs i)
  cop : ∀ i, i < n → CopiesZ W (aa i) (ls i) (cs i) (h i)

set_option maxRecDepth 100000 in
set_option maxHeartbeats 1000000 in
theorem toIntSS_any (a0 : Option Addr) (n cap : Nat) (aa : Nat → Option Addr) (ls cs : Nat → Nat) (h : Nat → Nat → Int) (W w : World) (hn : n ≤ 1048576) (hA : AllInt W a0 n aa ls cs h) (hW : Below W.heap.size W w) :
    Calls Tryz.prog 135 #[.slice a0 n cap] w fun e w' => e = .returned (.slice (some ⟨w.heap.size, 0, none⟩) n n) ∧ (∃ bs, OutInt w' w.heap.size w'.heap.size n ls bs h) ∧ Below w.heap.size w w' := by
  have hl' : (n : Int) ≤ 1048576 := by omega
  have hmk := run_make_IntS n hn
  have HA : Hid (AllInt W a0 n aa ls cs h) := hA
  have HW : Hid (Below W.heap.size W w) := hW
  clear hA hW
  go_enter Tryz.func135, Tryz.ntmps135
  go_wp2_with fail
  clear hmk
  go_loopw [4] (fun i wr => ∃ k : Nat, k ≤ n ∧ i = .int .i64 k ∧ (∃ f, wr.rowIs w.heap.size 35 n f ∧ Hid (∃ bs, FillInt wr w.heap.size k f ls bs h)) ∧ Below w.heap.size w wr) (fun i _ => n - (intOf i).toNat)
  case atStart => exact ⟨0, Nat.zero_le _, rfl, ⟨_, madeIntS_row w n, fun _ => 0, fun i hi => by omega, fun i hi => by omega, fun i hi => by omega, fun i hi => by omega, fun i j hij hj => by omega⟩, (Below.refl _ _).alloc (Nat.le_refl _) _⟩
  case round =>
    obtain ⟨k, hk, rfl, ⟨f, hrow, HF⟩, hbw⟩ := hrel
    have hs := hrow.lt
    by_cases hlt : k < n
    · have hlt' : (k : Int) < (n : Int) := by omega
      have HB : Hid (Below W.heap.size W wr) := HW.out.trans (hbw.mono HW.out.size)
      obtain ⟨b, off, rfl, ck⟩ := (HA.out.row.below HB.out).at hlt
      have HR : Hid (wr.rowIs w.heap.size 35 n f) := hrow
      clear hrow
      go_wp2_with fail
      refine (HA.out.cop k hlt wr HB.out).mono ?_
      rintro e w1 ⟨rfl, hi1, hz1, hb1, hf1⟩
      have hr1 : w1.rowIs w.heap.size 35 n f := HR.out.of_block (hb1.block _ hs)
      have f0 := hr1.frozen k
      have g0 := hr1.cell (i := k) hlt
      have HR1 : Hid (w1.rowIs w.heap.size 35 n f) := hr1
      have HF1 : Hid (∃ bs, FillInt (w1.setCell ⟨w.heap.size, k, none⟩ (.slice (some ⟨wr.heap.size, 0, none⟩) (ls k) (ls k))) w.heap.size (k + 1) (fun i => if i = k then .slice (some ⟨wr.heap.size, 0, none⟩) (ls k) (ls k) else f i) ls bs h) := by
        obtain ⟨bs, o⟩ := HF.out
        exact ⟨_, o.step hb1 hs hz1 hi1 hf1 _⟩
      clear hr1 hi1 HF HR hf1
      go_wp2_with fail
      exact ⟨⟨k + 1, by omega, by go_num, ⟨_, HR1.out.set _ _, HF1.out⟩, (hbw.trans (hb1.mono (Nat.le_of_lt hs))).setCell (Nat.le_refl _) _⟩, by simp [intOf]; omega⟩
    · have hkl : k = n := by omega
      have HO : Hid (∃ bs, OutInt wr w.heap.size wr.heap.size n ls bs h) := by
        obtain ⟨bs, o⟩ := HF.out
        rw [hkl] at o
        exact ⟨bs, fun i hi => by rw [hrow.cell hi, o.cel i hi], o.bd, o.row, o.fr, o.up, Nat.le_refl _, hs⟩
      clear hkl HF hrow
      go_wp2
      go_ret
      exact ⟨rfl, HO.out, hbw⟩

set_option maxRecDepth 100000 in
set_option maxHeartbeats 1000000 in
theorem eqIntSS_same (D1 h1 D2 h2 n c1 c2 : Nat) (ls b1 b2 : Nat → Nat) (h : Nat → Nat → Int) (w : World) (hn : n ≤ 1048576) (hl : ∀ i, i < n → ls i ≤ 1048576) (o1 : OutInt w D1 h1 n ls b1 h) (o2 : OutInt w D2 h2 n ls b2 h) :
    Calls Tryz.prog 112 #[.slice (some ⟨D1, 0, none⟩) n c1, .slice (some ⟨D2, 0, none⟩) n c2] w fun e w' => e = .returned (.bool true) ∧ Below w.heap.size w w' := by
  have hl' : (n : Int) ≤ 1048576 := by omega
  have O1 : Hid (OutInt w D1 h1 n ls b1 h) := o1
  have O2 : Hid (OutInt w D2 h2 n ls b2 h) := o2
  have HL : Hid (∀ i, i < n → ls i ≤ 1048576) := hl
  clear o1 o2 hl
  go_enter Tryz.func112, Tryz.ntmps112
  go_wp2_with fail
  go_loopw [5] (fun i wr => ∃ k : Nat, k ≤ n ∧ i = .int .i64 k ∧ Below w.heap.size w wr) (fun i _ => n - (intOf i).toNat)
  case atStart => exact ⟨0, Nat.zero_le _, rfl, Below.refl _ _⟩
  case round =>
    obtain ⟨k, hk, rfl, hbw⟩ := hrel
    have hs := hbw.size
    by_cases hlt : k < n
    · have P1 : Hid (OutInt wr D1 h1 n ls b1 h) := O1.out.below hbw O1.out.le
      have P2 : Hid (OutInt wr D2 h2 n ls b2 h) := O2.out.below hbw O2.out.le
      have ck := P1.out.cel k hlt
      have dk := P2.out.cel k hlt
      have hlt' : (k : Int) < (n : Int) := by omega
      go_wp2_with fail
      first | (go_region_with (go_at_call 110; refine (eqIntS_sameZ (b1 k) (b2 k) (ls k) (ls k) (ls k) (h k) wr.drew (HL.out k hlt) (Nat.lt_of_lt_of_le (P1.out.bd k hlt).2 P1.out.le) (Nat.lt_of_lt_of_le (P2.out.bd k hlt).2 P2.out.le) (P1.out.row k hlt) (P2.out.row k hlt)).mono ?_; rintro e w1 ⟨rfl, hq1⟩)) | fail
      all_goals
        go_wp2
        go_roundw
        case rel => exact ⟨k + 1, by omega, by go_num, hbw.drew.trans (hq1.mono hs)⟩
        case measure => simp [intOf]; omega
    · go_wp2
      go_ret
      exact ⟨rfl, hbw⟩

set_option maxRecDepth 100000 in
set_option maxHeartbeats 1000000 in
theorem markIntSS_any (D hi n cap : Nat) (ls bs : Nat → Nat) (h : Nat → Nat → Int) (k : Int) (w : World) (hn : n ≤ 1048576) (hl : sumL ls n ≤ 1048576) (k0 : 0 ≤ k) (k1 : k ≤ 50000000) (o : OutInt w D hi n ls bs h) :
    Calls Tryz.prog 122 #[.slice (some ⟨D, 0, none⟩) n cap, .int .i64 k] w fun e w' => e = .returned (.int .i64 (k + (sumL ls n : Nat))) ∧ Touch (fun b => D < b ∧ b < hi) w w' := by
  have hl' : (n : Int) ≤ 1048576 := by omega
  have O : Hid (OutInt w D hi n ls bs h) := o
  have HL : Hid (sumL ls n ≤ 1048576) := hl
  clear o hl
  go_enter Tryz.func122, Tryz.ntmps122
  go_wp2_with fail
  go_loopw [1, 5] (fun q i wr => ∃ j : Nat, j ≤ n ∧ i = .int .i64 j ∧ q = .int .i64 (k + (sumL ls j : Nat)) ∧ Hid (Touch (fun b => ∃ t, t < j ∧ b = bs t) w wr)) (fun _ i _ => n - (intOf i).toNat)
  case atStart => exact ⟨0, Nat.zero_le _, rfl, by simp [sumL], Touch.refl _ _⟩
  case round =>
    obtain ⟨j, hj, rfl, rfl, HT⟩ := hrel
    by_cases hlt : j < n
    · have hlt' : (j : Int) < (n : Int) := by omega
      have dD : ¬ ∃ t, t < j ∧ D = bs t := by
        rintro ⟨t, ht, e⟩
        have := (O.out.bd t (by omega)).1
        omega
      have dJ : ¬ ∃ t, t < j ∧ bs j = bs t := by
        rintro ⟨t, ht, e⟩
        have := O.out.up t j ht hlt
        omega
      have bJ := O.out.bd j hlt
      have le := O.out.le
      have ck : wr.cell? ⟨D, j, none⟩ = some (.slice (some ⟨bs j, 0, none⟩) (ls j) (ls j)) := (HT.out.cell (Nat.lt_of_lt_of_le O.out.lt le) dD j).trans (O.out.cel j hlt)
      have RM : Hid (Room1 wr (bs j) (ls j)) := by
        have hb : wr.heap[bs j]? = w.heap[bs j]? := HT.out.block (bs j) (by omega) dJ
        have hrm : Room1 w (bs j) (ls j) := Room1.of_z (O.out.row j hlt) (O.out.fr j hlt)
        exact ⟨fun i hi => (hrm.1 i hi).elim fun u e => ⟨u, (World.cell?_of_block hb).trans e⟩, fun i => (World.frozen?_of_block hb).trans (hrm.2 i)⟩
      have hsl := sumL_at ls hlt
      have hS := HL.out
      have e1 : k + (sumL ls j : Nat) + (ls j : Int) = k + (sumL ls (j + 1) : Nat) := by simp only [sumL]; omega
      have HE : Hid (k + (sumL ls j : Nat) + (ls j : Int) = k + (sumL ls (j + 1) : Nat)) := e1
      have e2 : 0 ≤ k + (sumL ls j : Nat) := by omega
      have e3 : k + (sumL ls j : Nat) ≤ 100000000 := by omega
      have e4 : ls j ≤ 1048576 := by omega
      clear dD bJ le e1 hS hsl
      go_wp2_with fail
      refine (markIntS_anyZ (bs j) (ls j) (ls j) _ wr e4 e2 e3 RM.out).mono ?_
      rintro e w1 ⟨rfl, g1⟩
      rw [HE.out]
      have HT1 : Hid (Touch (fun b => ∃ t, t < j + 1 ∧ b = bs t) w w1) := (HT.out.mono fun b ⟨t, ht, e⟩ => ⟨t, by omega, e⟩).trans (Touch.of_grown g1 fun b e => ⟨j, by omega, by simpa using e.symm⟩)
      clear HT dJ RM e2 e3 e4 g1
      go_wp2
      go_roundw
      case rel => exact ⟨j + 1, by omega, by go_num, rfl, HT1.out⟩
      case measure => simp [intOf]; omega
    · have hkl : j = n := by omega
      subst hkl
      have HT1 : Hid (Touch (fun b => D < b ∧ b < hi) w wr) := HT.out.mono fun b ⟨t, ht, e⟩ => by
        subst e
        exact O.out.bd t ht
      clear HT
      go_wp2
      go_ret
      exact ⟨rfl, HT1.out⟩

/-- Lists of lists that came in. -/
theorem open_IntSS {H : Type} {enc : TypeId × Value → H} {w : World} {spare : Nat → Bool} {held : Bool} {base : Nat} {a0 : Option Addr} {len cap : Nat} {d : DataW H} {p : List MemPlace}
    (h : DataW.Trod enc Tryz.prog w base spare held 37 (.slice a0 len cap) d p) :
    len ≤ maxLen ∧ ∃ aa ls cs, RowS w a0 len (fun i => .slice (aa i) (ls i) (cs i)) ∧ (∀ i, i < len → ls i ≤ maxLen) ∧ ((∀ i, i < len → ls i ≤ 1048576) → ∃ hh, AllInt w a0 len aa ls cs hh) := by
  obtain ⟨hm, f, hrow, hf⟩ := open_rows Tryz.underlying37 (el := 35) (by kernel_rfl) h
  refine ⟨hm, ?_⟩
  have hpart : ∀ i, i < len → ∃ x : Option Addr × Nat × Nat, f i = .slice x.1 x.2.1 x.2.2 ∧ x.2.1 ≤ maxLen ∧ (x.2.1 ≤ 1048576 → ∃ g, CopiesZ w x.1 x.2.1 x.2.2 g) := by
    intro i hi
    obtain ⟨m, x, hx⟩ := hf i hi
    have hsl : ∃ a l c, f i = .slice a l c := by
      rcases Go.Deep.open_slice Tryz.underlying35 hx with ⟨hcs, _⟩ | ⟨a, len', cap', m, n, D, Pl, hcs, _⟩
      · simp at hcs
        exact ⟨_, _, _, hcs⟩
      · simp at hcs
        exact ⟨_, _, _, hcs⟩
    obtain ⟨a, l, c, e⟩ := hsl
    rw [e] at hx
    obtain ⟨h1, h2⟩ := open_zRow (d := x.1) (p := x.2) (a0 := a) (len := l) (cap := c) ⟨m, by simpa [Value.cells] using hx⟩
    exact ⟨(a, l, c), e, h1, fun hs => copiesZ_of hs h2⟩
  obtain ⟨g, hg⟩ := Go.Deep.choose_lt (α := Option Addr × Nat × Nat) hpart
  refine ⟨fun i => (g i).1, fun i => (g i).2.1, fun i => (g i).2.2, ?_, fun i hi => (hg i hi).2.1, fun hs => ?_⟩
  · rcases hrow with h0 | ⟨b, off, e, hlt, hc⟩
    · exact .inl h0
    · exact .inr ⟨b, off, e, hlt, fun i hi => (hc i hi).trans (by rw [(hg i hi).1])⟩
  · have hq : ∀ i, i < len → ∃ q : Nat → Int, CopiesZ w (g i).1 (g i).2.1 (g i).2.2 q := fun i hi => (hg i hi).2.2 (hs i hi)
    have inh : Inhabited (Nat → Int) := ⟨fun _ => 0⟩
    obtain ⟨hh, hhh⟩ := Go.Deep.choose_lt (α := Nat → Int) hq
    refine ⟨hh, ?_, hhh⟩
    rcases hrow with h0 | ⟨b, off, e, hlt, hc⟩
    · exact .inl h0
    · exact .inr ⟨b, off, e, hlt, fun i hi => (hc i hi).trans (by rw [(hg i hi).1])⟩

end Go.Proofs.YtdfhpimdgfemjaaGreatDoor

namespace Go.Proofs.YtdfhpimdgfemjaaGreatDoor
open Go.RowKit

/-- The events h lie where a points, unless there are none. -/
def EvL (w : World) (a : Option Addr) (len : Nat) (h : Nat → E3) : Prop := len = 0 ∨ ∃ b off, a = some ⟨b, off, none⟩ ∧ b < w.heap.size ∧ EvAt w b off len h
theorem EvL.below {w w' : World} {a : Option Addr} {len : Nat} {h : Nat → E3} (hh : EvL w a len h) (hb : Below w.heap.size w w') : EvL w' a len h := by
  rcases hh with e | ⟨b, off, e, hlt, hc⟩
  · exact .inl e
  · exact .inr ⟨b, off, e, Nat.lt_of_lt_of_le hlt hb.size, hc.below hb hlt⟩
theorem EvL.at {w : World} {a : Option Addr} {len : Nat} {h : Nat → E3} (hh : EvL w a len h) {k : Nat} (hk : k < len) : ∃ b off, a = some ⟨b, off, none⟩ ∧ b < w.heap.size ∧ w.cell? ⟨b, off + k * 3, none⟩ = some (.int .i64 (h k).k) ∧ w.cell? ⟨b, off + k * 3 + 1, none⟩ = some (.int .i64 (h k).q) ∧ w.cell? ⟨b, off + k * 3 + 2, none⟩ = some (.int .i64 (h k).v) := by
  rcases hh with rfl | ⟨b, off, e, hlt, hc⟩
  · omega
  · exact ⟨b, off, e, hlt, hc k hk⟩
theorem EvL.take {w : World} {a : Option Addr} {len : Nat} {h : Nat → E3} (hh : EvL w a len h) {k : Nat} (hk : k ≤ len) : EvL w a k h := by
  rcases hh with rfl | ⟨b, off, e, hlt, hc⟩
  · exact .inl (by omega)
  · exact .inr ⟨b, off, e, hlt, fun i hi => hc i (by omega)⟩
theorem EvL.one {w : World} {b off len : Nat} {h : Nat → E3} (hh : EvL w (some ⟨b, off, none⟩) len h) {k : Nat} (hk : k < len) : EvAt w b off len h ∧ b < w.heap.size := by
  rcases hh with rfl | ⟨b', off', e, hlt, hc⟩
  · omega
  · simp only [Option.some.injEq, Addr.mk.injEq] at e
    obtain ⟨rfl, rfl, -⟩ := e
    exact ⟨hc, hlt⟩

end Go.Proofs.YtdfhpimdgfemjaaGreatDoor

namespace Go.Proofs.YtdfhpimdgfemjaaGreatDoor
open Go.RowKit

/-- The items h lie where a points, unless there are none. -/
def ItL (w : World) (a : Option Addr) (len : Nat) (h : Nat → I2) : Prop := len = 0 ∨ ∃ b off, a = some ⟨b, off, none⟩ ∧ b < w.heap.size ∧ ItAt w b off len h
theorem ItL.below {w w' : World} {a : Option Addr} {len : Nat} {h : Nat → I2} (hh : ItL w a len h) (hb : Below w.heap.size w w') : ItL w' a len h := by
  rcases hh with e | ⟨b, off, e, hlt, hc⟩
  · exact .inl e
  · exact .inr ⟨b, off, e, Nat.lt_of_lt_of_le hlt hb.size, hc.below hb hlt⟩
theorem ItL.at {w : World} {a : Option Addr} {len : Nat} {h : Nat → I2} (hh : ItL w a len h) {k : Nat} (hk : k < len) : ∃ b off, a = some ⟨b, off, none⟩ ∧ b < w.heap.size ∧ w.cell? ⟨b, off + k * 2, none⟩ = some (.bool (h k).m) ∧ w.cell? ⟨b, off + k * 2 + 1, none⟩ = some (.int .i64 (h k).v) := by
  rcases hh with rfl | ⟨b, off, e, hlt, hc⟩
  · omega
  · exact ⟨b, off, e, hlt, hc k hk⟩

end Go.Proofs.YtdfhpimdgfemjaaGreatDoor
