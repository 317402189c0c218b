/- Lists of states that came in. -/
import Derived.Test.YtnfdnnmddadmkaaGreatDoorNc0
import Derived.Test.YtnfdnnmddadmkaaGreatDoorNc19
import Derived.Test.YtnfdnnmddadmkaaGreatDoorNc25
namespace Go.Proofs.YtnfdnnmddadmkaaGreatDoor
set_option maxRecDepth 100000
set_option maxHeartbeats 2000000
open Go.ChangeShapes Go.WideShapes Go.ChangeAt Go.RowKit Go.Deep
structure OutItem (w : World) (D hi n : Nat) (ls : Nat → Nat) (bs : Nat → Nat) (h : Nat → Nat → I2) : Prop where
 cel : ∀ i, i < n → w.cell? ⟨D, i, none⟩ = some (.slice (some ⟨bs i, 0, none⟩) (ls i) (ls i))
 bd : ∀ i, i < n → D < bs i ∧ bs i < hi
 row : ∀ i, i < n → ItAt w (bs i) 0 (ls i) (h i)
 fr : ∀ i, i < n → ∀ j, w.frozen? ⟨bs i, j, none⟩ = false
 up : ∀ i j, i < j → j < n → bs i < bs j
 le : hi ≤ w.heap.size
 lt : D < hi
theorem OutItem.below {w w' : World} {D hi n B : Nat} {ls : Nat → Nat} {bs : Nat → Nat} {h : Nat → Nat → I2} (o : OutItem w D hi n ls bs h) (hb : Below B w w') (hB : hi ≤ B) : OutItem w' D hi n ls bs h :=
 ⟨fun i hi' => (hb.cell (p := ⟨D, i, none⟩) (Nat.lt_of_lt_of_le o.lt hB)).trans (o.cel i hi'), o.bd, fun i hi' => (o.row i hi').below hb (Nat.lt_of_lt_of_le (o.bd i hi').2 hB), fun i hi' j => (hb.frozen (p := ⟨bs i, j, none⟩) (Nat.lt_of_lt_of_le (o.bd i hi').2 hB)).trans (o.fr i hi' j), o.up, Nat.le_trans o.le hb.size, o.lt⟩
theorem OutItem.keep {w w' : World} {D hi n : Nat} {ls : Nat → Nat} {bs : Nat → Nat} {h : Nat → Nat → I2} (o : OutItem w D hi n ls bs h) (hs : w.heap.size ≤ w'.heap.size) (hb : ∀ k, D ≤ k → k < hi → w'.heap[k]? = w.heap[k]?) : OutItem w' D hi n ls bs h := by
 refine ⟨fun i hi' => (World.cell?_of_block (hb D (Nat.le_refl _) o.lt)).trans (o.cel i hi'), o.bd, fun i hi' => ?_, fun i hi' j => (World.frozen?_of_block (hb _ (Nat.le_of_lt (o.bd i hi').1) (o.bd i hi').2)).trans (o.fr i hi' j), o.up, Nat.le_trans o.le hs, o.lt⟩
 have hc : ∀ j, w'.cell? ⟨bs i, j, none⟩ = w.cell? ⟨bs i, j, none⟩ := fun j => World.cell?_of_block (hb _ (Nat.le_of_lt (o.bd i hi').1) (o.bd i hi').2)
 intro t ht
 have := o.row i hi' t ht
 simp only [hc]
 exact this
theorem szItemSS_small (a0 : Option Addr) (n cap : Nat) (aa : Nat → Option Addr) (ls cs : Nat → Nat) (L : Int) (w : World) (hr : RowS w a0 n fun i => .slice (aa i) (ls i) (cs i)) (h : (n : Int) + (sumL ls n : Nat) ≤ L) (hL : L ≤ 1048576) :
  Calls Tryz.prog 60 #[.slice a0 n cap, .int .i64 L] w fun e w' => e = .returned (.int .i64 (L - n - (sumL ls n : Nat))) ∧ w' = w := by
 have hn : (n : Int) ≤ 1048576 := by omega
 have h0 : 0 ≤ L := by omega
 have hn0 : ¬ (L - (n : Int) < 0) := by omega
 have HR : Hid (RowS w a0 n fun i => .slice (aa i) (ls i) (cs i)) := hr
 have HS : Hid ((n : Int) + (sumL ls n : Nat) ≤ L) := h
 clear hr h
 go_enter Tryz.func60, Tryz.ntmps60
 go_wp2_with fail
 go_loopw [1, 5] (fun q i wr => ∃ k : Nat, k ≤ n ∧ i = .int .i64 k ∧ q = .int .i64 (L - n - (sumL ls k : Nat)) ∧ wr = w) (fun _ i _ => n - (intOf i).toNat)
 case atStart => exact ⟨0, Nat.zero_le _, rfl, by simp [sumL], rfl⟩
 case round =>
  obtain ⟨k, hk, rfl, rfl, rfl⟩ := hrel
  by_cases hlt : k < n
  ·have hlt' : (k : Int) < (n : Int) := by omega
   obtain ⟨b, off, rfl, ck⟩ := HR.out.at hlt
   have hsl := sumL_at ls hlt
   have hS := HS.out
   have e1 : (L - n - (sumL ls k : Nat)) - (ls k : Int) = L - n - (sumL ls (k + 1) : Nat) := by simp only [sumL]; omega
   have HE : Hid ((L - n - (sumL ls k : Nat)) - (ls k : Int) = L - n - (sumL ls (k + 1) : Nat)) := e1
   have e2 : (ls k : Int) ≤ L - n - (sumL ls k : Nat) := by omega
   have e3 : ¬ (L - n - (sumL ls (k + 1) : Nat) < 0) := by omega
   have e4 : L - n - (sumL ls k : Nat) ≤ 1048576 := by omega
   clear e1 hS hsl
   generalize hy : L - n - (sumL ls (k + 1) : Nat) = Y at *
   go_wp2_with fail
   refine (szItemS_small _ _ _ _ _ e2 e4).mono ?_
   rintro e w1 ⟨rfl, rfl⟩
   rw [HE.out]
   clear e2 e4
   go_wp2
   go_roundw
   case rel => exact ⟨k + 1, by omega, by go_num, by rw [← hy], by trivial⟩
   case measure => simp [intOf]; omega
  ·have hkl : k = n := by omega
   subst hkl
   go_wp2
   go_ret
   exact ⟨rfl, rfl⟩
theorem szItemSS_great (a0 : Option Addr) (n cap : Nat) (aa : Nat → Option Addr) (ls cs : Nat → Nat) (L : Int) (w : World) (hr : RowS w a0 n fun i => .slice (aa i) (ls i) (cs i)) (h : L < (n : Int) + (sumL ls n : Nat)) (h0 : 0 ≤ L) (hL : L ≤ 1048576) (hm : n ≤ maxLen) (hl : ∀ i, i < n → ls i ≤ maxLen) :
  Calls Tryz.prog 60 #[.slice a0 n cap, .int .i64 L] w fun e w' => e = .returned (.int .i64 (-1)) ∧ w' = w := by
 have hm' : (n : Int) ≤ 9223372036854775807 := by unfold maxLen at hm; omega
 by_cases hn0 : L - (n : Int) < 0
 ·go_enter Tryz.func60, Tryz.ntmps60
  go_wp2
  go_ret
  exact ⟨rfl, rfl⟩
 have hn : (n : Int) ≤ 1048576 := by omega
 have HR : Hid (RowS w a0 n fun i => .slice (aa i) (ls i) (cs i)) := hr
 have HS : Hid (L < (n : Int) + (sumL ls n : Nat)) := h
 have HL : Hid (∀ i, i < n → ls i ≤ maxLen) := hl
 clear hr h hl hm
 go_enter Tryz.func60, Tryz.ntmps60
 go_wp2_with fail
 go_loopw [1, 5] (fun q i wr => ∃ k : Nat, k ≤ n ∧ i = .int .i64 k ∧ q = .int .i64 (L - n - (sumL ls k : Nat)) ∧ 0 ≤ L - n - (sumL ls k : Nat) ∧ wr = w) (fun _ i _ => n - (intOf i).toNat)
 case atStart => exact ⟨0, Nat.zero_le _, rfl, by simp [sumL], by simp only [sumL]; omega, rfl⟩
 case round =>
  obtain ⟨k, hk, rfl, rfl, hp, rfl⟩ := hrel
  by_cases hlt : k < n
  ·have hlt' : (k : Int) < (n : Int) := by omega
   obtain ⟨b, off, rfl, ck⟩ := HR.out.at hlt
   have hml := HL.out k hlt
   have e1 : (L - n - (sumL ls k : Nat)) - (ls k : Int) = L - n - (sumL ls (k + 1) : Nat) := by simp only [sumL]; omega
   have HE : Hid ((L - n - (sumL ls k : Nat)) - (ls k : Int) = L - n - (sumL ls (k + 1) : Nat)) := e1
   have e4 : L - n - (sumL ls k : Nat) ≤ 1048576 := by omega
   clear e1
   by_cases hb : (ls k : Int) ≤ L - n - (sumL ls k : Nat)
   ·have e3 : 0 ≤ L - n - (sumL ls (k + 1) : Nat) := by have := HE.out; omega
    have e3' : ¬ (L - n - (sumL ls (k + 1) : Nat) < 0) := by omega
    generalize hy : L - n - (sumL ls (k + 1) : Nat) = Y at *
    go_wp2_with fail
    refine (szItemS_small _ _ _ _ _ hb e4).mono ?_
    rintro e w1 ⟨rfl, rfl⟩
    rw [HE.out]
    clear hb e4 hml hp
    go_wp2
    go_roundw
    case rel => exact ⟨k + 1, by omega, by go_num, by rw [← hy], by omega, by trivial⟩
    case measure => simp [intOf]; omega
   ·have hb' : L - n - (sumL ls k : Nat) < (ls k : Int) := by omega
    go_wp2_with fail
    refine (szItemS_great _ _ _ _ _ hb' hp e4 hml).mono ?_
    rintro e w1 ⟨rfl, rfl⟩
    clear hb hb' e4 hml hp HE
    go_wp2
    go_ret
    exact ⟨rfl, rfl⟩
  ·have hkl : k = n := by omega
   subst hkl
   have := HS.out
   omega
theorem infoItemS : (Tryz.prog.info? 46).map (fun i => (i.zero, i.size, i.bytes)) = some (some (.slice none 0 0), 1, 24) := by kernel_rfl
theorem run_make_ItemS (n : Nat) (hn : n ≤ 1048576) (w : World) :
  (Instr.makeSlice 26 (.int .i64 (n : Int)) (.int .i64 (n : Int))).run Tryz.prog w = .ok (.slice (some ⟨w.heap.size, 0, none⟩) n n) (w.alloc (.cells (madeCells #[.slice none 0 0] n) 46)) := by
 have hinfo := infoItemS
 cases hi : Tryz.prog.info? 46 with
 | none => rw [hi] at hinfo; cases hinfo
 | some i =>
  rw [hi] at hinfo
  simp only [Option.map_some, Option.some.injEq, Prod.mk.injEq] at hinfo
  obtain ⟨hz, hs, hb⟩ := hinfo
  have h := run_make (P := Tryz.prog) w 26 46 i _ Tryz.underlying26 hi hz .i64 .i64 (n : Int) (n : Int) (by omega) (Int.le_refl _) (by rw [hb]; omega) (by omega)
  rw [hs] at h
  simpa [Value.cells] using h
theorem madeItemS_row (w : World) (n : Nat) : (w.alloc (.cells (madeCells #[.slice none 0 0] n) 46)).rowIs w.heap.size 46 n (fun _ => .slice none 0 0) := by
 refine ⟨_, blk_alloc_new _ _, size_madeCells _ _, fun i hi => ?_⟩
 simp only [madeCells]
 rw [Array.getElem?_map, Array.getElem?_range, if_pos hi]
 have : i % 1 = 0 := Nat.mod_one i
 exact congrArg some (by simp [this])
structure FillItem (w : World) (D k : Nat) (f : Nat → Value) (ls : Nat → Nat) (bs : Nat → Nat) (h : Nat → Nat → I2) : Prop where
 cel : ∀ i, i < k → f i = .slice (some ⟨bs i, 0, none⟩) (ls i) (ls i)
 bd : ∀ i, i < k → D < bs i ∧ bs i < w.heap.size
 row : ∀ i, i < k → ItAt w (bs i) 0 (ls i) (h i)
 fr : ∀ i, i < k → ∀ j, w.frozen? ⟨bs i, j, none⟩ = false
 up : ∀ i j, i < j → j < k → bs i < bs j
theorem FillItem.step {w w1 : World} {D k : Nat} {f : Nat → Value} {ls : Nat → Nat} {bs : Nat → Nat} {h : Nat → Nat → I2} (o : FillItem w D k f ls bs h) (hb : Below w.heap.size w w1) (hD : D < w.heap.size) (hz : w.heap.size < w1.heap.size) (hr : ItAt w1 w.heap.size 0 (ls k) (h k)) (hf : ∀ j, w1.frozen? ⟨w.heap.size, j, none⟩ = false) (u : Value) :
  FillItem (w1.setCell ⟨D, k, none⟩ u) D (k + 1) (fun i => if i = k then .slice (some ⟨w.heap.size, 0, none⟩) (ls k) (ls k) else f i) ls (fun i => if i = k then w.heap.size else bs i) h := by
 have hs : ∀ b, b ≠ D → (w1.setCell ⟨D, k, none⟩ u).heap[b]? = w1.heap[b]? := fun b hne => Below.heap_setCell _ _ _ _ hne
 have hat : ∀ b n g, b ≠ D → ItAt w1 b 0 n g → ItAt (w1.setCell ⟨D, k, none⟩ u) b 0 n g := fun b n g hne hg => fun i hi => by
  have hc : ∀ j, (w1.setCell ⟨D, k, none⟩ u).cell? ⟨b, j, none⟩ = w1.cell? ⟨b, j, none⟩ := fun j => World.cell?_of_block (hs b hne)
  have := hg i hi
  simp only [hc]
  exact this
 refine ⟨fun i hi => ?_, fun i hi => ?_, fun i hi => ?_, fun i hi j => ?_, fun i j hij hj => ?_⟩
 ·by_cases e : i = k
  ·subst e; simp
  ·simp only [if_neg e]; exact o.cel i (by omega)
 ·by_cases e : i = k
  ·subst e; simp; omega
  ·simp only [if_neg e, World.size_setCell]; have := o.bd i (by omega); omega
 ·by_cases e : i = k
  ·subst e; simp only [if_true]; exact hat _ _ _ (by omega) hr
  ·simp only [if_neg e]; have hbd := o.bd i (by omega); exact hat _ _ _ (by omega) ((o.row i (by omega)).below hb hbd.2)
 ·by_cases e : i = k
  ·subst e; simp only [if_true]; rw [World.frozen?_setCell]; exact hf j
  ·simp only [if_neg e]; rw [World.frozen?_setCell]; have hbd := o.bd i (by omega); exact (hb.frozen (p := ⟨bs i, j, none⟩) hbd.2).trans (o.fr i (by omega) j)
 ·by_cases e : j = k
  ·have hi : i ≠ k := by omega
   simp only [if_neg hi, if_pos e]
   exact (o.bd i (by omega)).2
  ·have hi : i ≠ k := by omega
   simp only [if_neg hi, if_neg e]
   exact o.up i j hij (by omega)
structure AllItem (W : World) (a0 : Option Addr) (n : Nat) (aa : Nat → Option Addr) (ls cs : Nat → Nat) (h : Nat → Nat → I2) : Prop where
 row : RowS W a0 n fun i => .slice (aa i) (ls i) (cs i)
 cop : ∀ i, i < n → CopiesT W (aa i) (ls i) (cs i) (h i)
theorem toItemSS_any (a0 : Option Addr) (n cap : Nat) (aa : Nat → Option Addr) (ls cs : Nat → Nat) (h : Nat → Nat → I2) (W w : World) (hn : n ≤ 1048576) (hA : AllItem W a0 n aa ls cs h) (hW : Below W.heap.size W w) :
  Calls Tryz.prog 64 #[.slice a0 n cap] w fun e w' => e = .returned (.slice (some ⟨w.heap.size, 0, none⟩) n n) ∧ (∃ bs, OutItem w' w.heap.size w'.heap.size n ls bs h) ∧ Below w.heap.size w w' := by
 have hl' : (n : Int) ≤ 1048576 := by omega
 have hmk := run_make_ItemS n hn
 have HA : Hid (AllItem W a0 n aa ls cs h) := hA
 have HW : Hid (Below W.heap.size W w) := hW
 clear hA hW
 go_enter Tryz.func64, Tryz.ntmps64
 go_wp2_with fail
 clear hmk
 go_loopw [4] (fun i wr => ∃ k : Nat, k ≤ n ∧ i = .int .i64 k ∧ (∃ f, wr.rowIs w.heap.size 46 n f ∧ Hid (∃ bs, FillItem wr w.heap.size k f ls bs h)) ∧ Below w.heap.size w wr) (fun i _ => n - (intOf i).toNat)
 case atStart => exact ⟨0, Nat.zero_le _, rfl, ⟨_, madeItemS_row w n, fun _ => 0, fun i hi => by omega, fun i hi => by omega, fun i hi => by omega, fun i hi => by omega, fun i j hij hj => by omega⟩, (Below.refl _ _).alloc (Nat.le_refl _) _⟩
 case round =>
  obtain ⟨k, hk, rfl, ⟨f, hrow, HF⟩, hbw⟩ := hrel
  have hs := hrow.lt
  by_cases hlt : k < n
  ·have hlt' : (k : Int) < (n : Int) := by omega
   have HB : Hid (Below W.heap.size W wr) := HW.out.trans (hbw.mono HW.out.size)
   obtain ⟨b, off, rfl, ck⟩ := (HA.out.row.below HB.out).at hlt
   have HR : Hid (wr.rowIs w.heap.size 46 n f) := hrow
   clear hrow
   go_wp2_with fail
   refine (HA.out.cop k hlt wr HB.out).mono ?_
   rintro e w1 ⟨rfl, hi1, hz1, hb1, hf1⟩
   have hr1 : w1.rowIs w.heap.size 46 n f := HR.out.of_block (hb1.block _ hs)
   have f0 := hr1.frozen k
   have g0 := hr1.cell (i := k) hlt
   have HR1 : Hid (w1.rowIs w.heap.size 46 n f) := hr1
   have HF1 : Hid (∃ bs, FillItem (w1.setCell ⟨w.heap.size, k, none⟩ (.slice (some ⟨wr.heap.size, 0, none⟩) (ls k) (ls k))) w.heap.size (k + 1) (fun i => if i = k then .slice (some ⟨wr.heap.size, 0, none⟩) (ls k) (ls k) else f i) ls bs h) := by
    obtain ⟨bs, o⟩ := HF.out
    exact ⟨_, o.step hb1 hs hz1 hi1 hf1 _⟩
   clear hr1 hi1 HF HR hf1
   go_wp2_with fail
   exact ⟨⟨k + 1, by omega, by go_num, ⟨_, HR1.out.set _ _, HF1.out⟩, (hbw.trans (hb1.mono (Nat.le_of_lt hs))).setCell (Nat.le_refl _) _⟩, by simp [intOf]; omega⟩
  ·have hkl : k = n := by omega
   have HO : Hid (∃ bs, OutItem wr w.heap.size wr.heap.size n ls bs h) := by
    obtain ⟨bs, o⟩ := HF.out
    rw [hkl] at o
    exact ⟨bs, fun i hi => by rw [hrow.cell hi, o.cel i hi], o.bd, o.row, o.fr, o.up, Nat.le_refl _, hs⟩
   clear hkl HF hrow
   go_wp2
   go_ret
   exact ⟨rfl, HO.out, hbw⟩
theorem eqItemSS_same (D1 h1 D2 h2 n c1 c2 : Nat) (ls b1 b2 : Nat → Nat) (h : Nat → Nat → I2) (w : World) (hn : n ≤ 1048576) (hl : ∀ i, i < n → ls i ≤ 1048576) (o1 : OutItem w D1 h1 n ls b1 h) (o2 : OutItem w D2 h2 n ls b2 h) :
  Calls Tryz.prog 69 #[.slice (some ⟨D1, 0, none⟩) n c1, .slice (some ⟨D2, 0, none⟩) n c2] w fun e w' => e = .returned (.bool true) ∧ Below w.heap.size w w' := by
 have hl' : (n : Int) ≤ 1048576 := by omega
 have O1 : Hid (OutItem w D1 h1 n ls b1 h) := o1
 have O2 : Hid (OutItem w D2 h2 n ls b2 h) := o2
 have HL : Hid (∀ i, i < n → ls i ≤ 1048576) := hl
 clear o1 o2 hl
 go_enter Tryz.func69, Tryz.ntmps69
 go_wp2_with fail
 go_loopw [5] (fun i wr => ∃ k : Nat, k ≤ n ∧ i = .int .i64 k ∧ Below w.heap.size w wr) (fun i _ => n - (intOf i).toNat)
 case atStart => exact ⟨0, Nat.zero_le _, rfl, Below.refl _ _⟩
 case round =>
  obtain ⟨k, hk, rfl, hbw⟩ := hrel
  have hs := hbw.size
  by_cases hlt : k < n
  ·have P1 : Hid (OutItem wr D1 h1 n ls b1 h) := O1.out.below hbw O1.out.le
   have P2 : Hid (OutItem wr D2 h2 n ls b2 h) := O2.out.below hbw O2.out.le
   have ck := P1.out.cel k hlt
   have dk := P2.out.cel k hlt
   have hlt' : (k : Int) < (n : Int) := by omega
   go_wp2_with fail
   first | (go_region_with (go_at_call 134; refine (eqItemS_same (b1 k) (b2 k) (ls k) (ls k) (ls k) (h k) wr.drew (HL.out k hlt) (Nat.lt_of_lt_of_le (P1.out.bd k hlt).2 P1.out.le) (Nat.lt_of_lt_of_le (P2.out.bd k hlt).2 P2.out.le) (P1.out.row k hlt) (P2.out.row k hlt)).mono ?_; rintro e w1 ⟨rfl, hq1⟩)) | fail
   all_goals
    go_wp2
    go_roundw
    case rel => exact ⟨k + 1, by omega, by go_num, hbw.drew.trans (hq1.mono hs)⟩
    case measure => simp [intOf]; omega
  ·go_wp2
   go_ret
   exact ⟨rfl, hbw⟩
theorem markItemSS_any (D hi n cap : Nat) (ls bs : Nat → Nat) (h : Nat → Nat → I2) (k : Int) (w : World) (hn : n ≤ 1048576) (hl : sumL ls n ≤ 1048576) (k0 : 0 ≤ k) (k1 : k ≤ 50000000) (o : OutItem w D hi n ls bs h) :
  Calls Tryz.prog 74 #[.slice (some ⟨D, 0, none⟩) n cap, .int .i64 k] w fun e w' => e = .returned (.int .i64 (k + 2 * (sumL ls n : Nat))) ∧ Touch (fun b => D < b ∧ b < hi) w w' := by
 have hl' : (n : Int) ≤ 1048576 := by omega
 have O : Hid (OutItem w D hi n ls bs h) := o
 have HL : Hid (sumL ls n ≤ 1048576) := hl
 clear o hl
 go_enter Tryz.func74, Tryz.ntmps74
 go_wp2_with fail
 go_loopw [1, 5] (fun q i wr => ∃ j : Nat, j ≤ n ∧ i = .int .i64 j ∧ q = .int .i64 (k + 2 * (sumL ls j : Nat)) ∧ Hid (Touch (fun b => ∃ t, t < j ∧ b = bs t) w wr)) (fun _ i _ => n - (intOf i).toNat)
 case atStart => exact ⟨0, Nat.zero_le _, rfl, by simp [sumL], Touch.refl _ _⟩
 case round =>
  obtain ⟨j, hj, rfl, rfl, HT⟩ := hrel
  by_cases hlt : j < n
  ·have hlt' : (j : Int) < (n : Int) := by omega
   have dD : ¬ ∃ t, t < j ∧ D = bs t := by
    rintro ⟨t, ht, e⟩
    have := (O.out.bd t (by omega)).1
    omega
   have dJ : ¬ ∃ t, t < j ∧ bs j = bs t := by
    rintro ⟨t, ht, e⟩
    have := O.out.up t j ht hlt
    omega
   have bJ := O.out.bd j hlt
   have le := O.out.le
   have ck : wr.cell? ⟨D, j, none⟩ = some (.slice (some ⟨bs j, 0, none⟩) (ls j) (ls j)) := (HT.out.cell (Nat.lt_of_lt_of_le O.out.lt le) dD j).trans (O.out.cel j hlt)
   have RM : Hid (RoomT wr (bs j) (ls j)) := by
    have hb : wr.heap[bs j]? = w.heap[bs j]? := HT.out.block (bs j) (by omega) dJ
    have hrm : RoomT w (bs j) (ls j) := RoomT.of_it (O.out.row j hlt) (O.out.fr j hlt)
    exact ⟨fun i hi => (hrm.1 i hi).elim fun u e => ⟨u, (World.cell?_of_block hb).trans e⟩, fun i => (World.frozen?_of_block hb).trans (hrm.2 i)⟩
   have hsl := sumL_at ls hlt
   have hS := HL.out
   have e1 : k + 2 * (sumL ls j : Nat) + 2 * (ls j : Int) = k + 2 * (sumL ls (j + 1) : Nat) := by simp only [sumL]; omega
   have HE : Hid (k + 2 * (sumL ls j : Nat) + 2 * (ls j : Int) = k + 2 * (sumL ls (j + 1) : Nat)) := e1
   have e2 : 0 ≤ k + 2 * (sumL ls j : Nat) := by omega
   have e3 : k + 2 * (sumL ls j : Nat) ≤ 100000000 := by omega
   have e4 : ls j ≤ 1048576 := by omega
   clear dD bJ le e1 hS hsl
   go_wp2_with fail
   refine (markItemS_any (bs j) (ls j) (ls j) _ wr e4 e2 e3 RM.out).mono ?_
   rintro e w1 ⟨rfl, g1⟩
   rw [HE.out]
   have HT1 : Hid (Touch (fun b => ∃ t, t < j + 1 ∧ b = bs t) w w1) := (HT.out.mono fun b ⟨t, ht, e⟩ => ⟨t, by omega, e⟩).trans (Touch.of_grown g1 fun b e => ⟨j, by omega, by simpa using e.symm⟩)
   clear HT dJ RM e2 e3 e4 g1
   go_wp2
   go_roundw
   case rel => exact ⟨j + 1, by omega, by go_num, rfl, HT1.out⟩
   case measure => simp [intOf]; omega
  ·have hkl : j = n := by omega
   subst hkl
   have HT1 : Hid (Touch (fun b => D < b ∧ b < hi) w wr) := HT.out.mono fun b ⟨t, ht, e⟩ => by
    subst e
    exact O.out.bd t ht
   clear HT
   go_wp2
   go_ret
   exact ⟨rfl, HT1.out⟩
theorem open_ItemSS {H : Type} {enc : TypeId × Value → H} {w : World} {spare : Nat → Bool} {held : Bool} {base : Nat} {a0 : Option Addr} {len cap : Nat} {d : DataW H} {p : List MemPlace}
  (h : DataW.Trod enc Tryz.prog w base spare held 50 (.slice a0 len cap) d p) :
  len ≤ maxLen ∧ ∃ aa ls cs, RowS w a0 len (fun i => .slice (aa i) (ls i) (cs i)) ∧ (∀ i, i < len → ls i ≤ maxLen) ∧ ((∀ i, i < len → ls i ≤ 1048576) → ∃ hh, AllItem w a0 len aa ls cs hh) := by
 obtain ⟨hm, f, hrow, hf⟩ := open_rows Tryz.underlying50 (el := 167) (by kernel_rfl) h
 refine ⟨hm, ?_⟩
 have hpart : ∀ i, i < len → ∃ x : Option Addr × Nat × Nat, f i = .slice x.1 x.2.1 x.2.2 ∧ x.2.1 ≤ maxLen ∧ (x.2.1 ≤ 1048576 → ∃ g, CopiesT w x.1 x.2.1 x.2.2 g) := by
  intro i hi
  obtain ⟨m, x, hx⟩ := hf i hi
  have hsl : ∃ a l c, f i = .slice a l c := by
   rcases Go.Deep.open_slice Tryz.underlying167 hx with ⟨hcs, _⟩ | ⟨a, len', cap', m, n, D, Pl, hcs, _⟩
   ·simp at hcs
    exact ⟨_, _, _, hcs⟩
   ·simp at hcs
    exact ⟨_, _, _, hcs⟩
  obtain ⟨a, l, c, e⟩ := hsl
  rw [e] at hx
  obtain ⟨h1, h2⟩ := open_itRow (d := x.1) (p := x.2) (a0 := a) (len := l) (cap := c) ⟨m, by simpa [Value.cells] using hx⟩
  exact ⟨(a, l, c), e, h1, fun hs => copiesT_of hs h2⟩
 obtain ⟨g, hg⟩ := Go.Deep.choose_lt (α := Option Addr × Nat × Nat) hpart
 refine ⟨fun i => (g i).1, fun i => (g i).2.1, fun i => (g i).2.2, ?_, fun i hi => (hg i hi).2.1, fun hs => ?_⟩
 ·rcases hrow with h0 | ⟨b, off, e, hlt, hc⟩
  ·exact .inl h0
  ·exact .inr ⟨b, off, e, hlt, fun i hi => (hc i hi).trans (by rw [(hg i hi).1])⟩
 ·have hq : ∀ i, i < len → ∃ q : Nat → I2, CopiesT w (g i).1 (g i).2.1 (g i).2.2 q := fun i hi => (hg i hi).2.2 (hs i hi)
  have inh : Inhabited (Nat → I2) := ⟨fun _ => ⟨false, 0⟩⟩
  obtain ⟨hh, hhh⟩ := Go.Deep.choose_lt (α := Nat → I2) hq
  refine ⟨hh, ?_, hhh⟩
  rcases hrow with h0 | ⟨b, off, e, hlt, hc⟩
  ·exact .inl h0
  ·exact .inr ⟨b, off, e, hlt, fun i hi => (hc i hi).trans (by rw [(hg i hi).1])⟩
theorem ownsRow_blk {w w' : World} {B size n : Nat} {e : TypeId} {v : Value} {xs : List Value} (h : w.ownsRow B e size v n xs) (hb : ∀ k, v.ownBlock = some k → w'.heap[k]? = w.heap[k]?) : w'.ownsRow B e size v n xs := by
 obtain ⟨h0, h⟩ := h
 refine ⟨h0, ?_⟩
 rcases h with h | ⟨g, cap, cur, rfl, h1, h2, h3⟩
 ·exact .inl h
 ·exact .inr ⟨g, cap, cur, rfl, h1, (hb g rfl).trans h2, h3⟩
theorem OwnI.blk {w w' : World} {B : Nat} {v : Value} {xs : List Int} (h : OwnI w B v xs) (hb : ∀ k, v.ownBlock = some k → w'.heap[k]? = w.heap[k]?) : OwnI w' B v xs := ownsRow_blk h hb
theorem StOwn.blk {w w' : World} {B : Nat} {v : Value} {p code : Int} {rs os : List Int} (h : StOwn w B v p rs os code) (hb : ∀ k, hasBlock v k → w'.heap[k]? = w.heap[k]?) : StOwn w' B v p rs os code := by
 obtain ⟨vr, vo, rfl, h1, h2, h3⟩ := h
 exact ⟨vr, vo, rfl, h1.blk fun k hk => hb k ((hasBlock_iff _ _ _ _ _).2 (.inl hk)), h2.blk fun k hk => hb k ((hasBlock_iff _ _ _ _ _).2 (.inr hk)), h3⟩
def Cel4 (w : World) (D j : Nat) (S : S4) (v : Value) : Prop := ∃ ra rc oa oc, v = stV S.p ra S.rs.length rc oa S.os.length oc S.c ∧ w.cell? ⟨D, j, none⟩ = some (.int .i64 S.p) ∧ w.cell? ⟨D, j + 1, none⟩ = some (.slice ra S.rs.length rc) ∧ w.cell? ⟨D, j + 2, none⟩ = some (.slice oa S.os.length oc) ∧ w.cell? ⟨D, j + 3, none⟩ = some (.int .i64 S.c)
structure OutState (w : World) (D hi n : Nat) (S : Nat → S4) (vs : Nat → Value) : Prop where
 cel : ∀ i, i < n → Cel4 w D (i * 4) (S i) (vs i)
 own : ∀ i, i < n → StOwn w (D + 1) (vs i) (S i).p (S i).rs (S i).os (S i).c
 bd : ∀ i, i < n → ∀ k, hasBlock (vs i) k → k < hi
 apart : ∀ i j, i < j → j < n → ∀ k, hasBlock (vs i) k → ¬ hasBlock (vs j) k
 fr : ∀ j, w.frozen? ⟨D, j, none⟩ = false
 le : hi ≤ w.heap.size
 lt : D < hi
theorem Cel4.blk {w w' : World} {D j : Nat} {S : S4} {v : Value} (h : Cel4 w D j S v) (hb : w'.heap[D]? = w.heap[D]?) : Cel4 w' D j S v := by
 obtain ⟨ra, rc, oa, oc, e, h0, h1, h2, h3⟩ := h
 exact ⟨ra, rc, oa, oc, e, (World.cell?_of_block hb).trans h0, (World.cell?_of_block hb).trans h1, (World.cell?_of_block hb).trans h2, (World.cell?_of_block hb).trans h3⟩
theorem OutState.below {w w' : World} {D hi n B : Nat} {S : Nat → S4} {vs : Nat → Value} (o : OutState w D hi n S vs) (hb : Below B w w') (hB : hi ≤ B) : OutState w' D hi n S vs :=
 have hD : w'.heap[D]? = w.heap[D]? := hb.block D (Nat.lt_of_lt_of_le o.lt hB)
 ⟨fun i hi' => (o.cel i hi').blk hD, fun i hi' => (o.own i hi').blk fun k hk => hb.block k (Nat.lt_of_lt_of_le (o.bd i hi' k hk) hB), o.bd, o.apart, fun j => (World.frozen?_of_block hD).trans (o.fr j), Nat.le_trans o.le hb.size, o.lt⟩
theorem OutState.keep {w w' : World} {D hi n : Nat} {S : Nat → S4} {vs : Nat → Value} (o : OutState w D hi n S vs) (hs : w.heap.size ≤ w'.heap.size) (hb : ∀ k, D ≤ k → k < hi → w'.heap[k]? = w.heap[k]?) : OutState w' D hi n S vs :=
 have hD : w'.heap[D]? = w.heap[D]? := hb D (Nat.le_refl _) o.lt
 ⟨fun i hi' => (o.cel i hi').blk hD, fun i hi' => (o.own i hi').blk fun k hk => hb k (by have := ((o.own i hi').lt hk).1; omega) (o.bd i hi' k hk), o.bd, o.apart, fun j => (World.frozen?_of_block hD).trans (o.fr j), Nat.le_trans o.le hs, o.lt⟩
theorem infoSta : (Tryz.prog.info? 93).map (fun i => (i.zero, i.size, i.bytes)) = some (some (stV 0 none 0 0 none 0 0 0), 4, 64) := by kernel_rfl
theorem run_make_sta (n : Nat) (hn : n ≤ 1048576) (w : World) :
  (Instr.makeSlice 25 (.int .i64 (n : Int)) (.int .i64 (n : Int))).run Tryz.prog w = .ok (.slice (some ⟨w.heap.size, 0, none⟩) n n) (w.alloc (.cells (madeCells (stV 0 none 0 0 none 0 0 0).cells (n * 4)) 93)) := by
 have hinfo := infoSta
 cases hi : Tryz.prog.info? 93 with
 | none => rw [hi] at hinfo; cases hinfo
 | some i =>
  rw [hi] at hinfo
  simp only [Option.map_some, Option.some.injEq, Prod.mk.injEq] at hinfo
  obtain ⟨hz, hs, hb⟩ := hinfo
  have h := run_make (P := Tryz.prog) w 25 93 i _ Tryz.underlying25 hi hz .i64 .i64 (n : Int) (n : Int) (by omega) (Int.le_refl _) (by rw [hb]; omega) (by omega)
  rw [hs] at h
  simpa using h
theorem madeSta_row (w : World) (n : Nat) : ∃ f, (w.alloc (.cells (madeCells (stV 0 none 0 0 none 0 0 0).cells (n * 4)) 93)).rowIs w.heap.size 93 (n * 4) f := by
 refine ⟨fun i => (stV 0 none 0 0 none 0 0 0).cells[i % 4]!, _, blk_alloc_new _ _, size_madeCells _ _, fun i hi => ?_⟩
 simp only [madeCells]
 rw [Array.getElem?_map, Array.getElem?_range, if_pos hi]
 rfl
structure FillS (w : World) (D k : Nat) (f : Nat → Value) (S : Nat → S4) (vs : Nat → Value) : Prop where
 cel : ∀ i, i < k → ∃ ra rc oa oc, vs i = stV (S i).p ra (S i).rs.length rc oa (S i).os.length oc (S i).c ∧ f (i * 4) = .int .i64 (S i).p ∧ f (i * 4 + 1) = .slice ra (S i).rs.length rc ∧ f (i * 4 + 2) = .slice oa (S i).os.length oc ∧ f (i * 4 + 3) = .int .i64 (S i).c
 own : ∀ i, i < k → StOwn w (D + 1) (vs i) (S i).p (S i).rs (S i).os (S i).c
 apart : ∀ i j, i < j → j < k → ∀ b, hasBlock (vs i) b → ¬ hasBlock (vs j) b
theorem FillS.step {w w1 : World} {D k : Nat} {f : Nat → Value} {S : Nat → S4} {vs : Nat → Value} (o : FillS w D k f S vs) (hb : Below w.heap.size w w1) (hD : D < w.heap.size) {ra oa : Option Addr} {rc oc : Nat} (hv : StOwn w1 w.heap.size (stV (S k).p ra (S k).rs.length rc oa (S k).os.length oc (S k).c) (S k).p (S k).rs (S k).os (S k).c) (a b c d : Value) :
  FillS ((((w1.setCell ⟨D, k * 4, none⟩ a).setCell ⟨D, k * 4 + 1, none⟩ b).setCell ⟨D, k * 4 + 2, none⟩ c).setCell ⟨D, k * 4 + 3, none⟩ d) D (k + 1)
   (fun i => if i = k * 4 + 3 then .int .i64 (S k).c else if i = k * 4 + 2 then .slice oa (S k).os.length oc else if i = k * 4 + 1 then .slice ra (S k).rs.length rc else if i = k * 4 then .int .i64 (S k).p else f i) S
   (fun i => if i = k then stV (S k).p ra (S k).rs.length rc oa (S k).os.length oc (S k).c else vs i) := by
 have hs : ∀ g, g ≠ D → ((((w1.setCell ⟨D, k * 4, none⟩ a).setCell ⟨D, k * 4 + 1, none⟩ b).setCell ⟨D, k * 4 + 2, none⟩ c).setCell ⟨D, k * 4 + 3, none⟩ d).heap[g]? = w1.heap[g]? := fun g hne => (Below.heap_setCell _ _ _ _ hne).trans ((Below.heap_setCell _ _ _ _ hne).trans ((Below.heap_setCell _ _ _ _ hne).trans (Below.heap_setCell _ _ _ _ hne)))
 refine ⟨fun i hi => ?_, fun i hi => ?_, fun i j hij hj g h1 => ?_⟩
 ·by_cases e : i = k
  ·subst e
   exact ⟨ra, rc, oa, oc, by simp, by simp, by simp, by simp, by simp⟩
  ·obtain ⟨ra', rc', oa', oc', e0, e1, e2, e3, e4⟩ := o.cel i (by omega)
   refine ⟨ra', rc', oa', oc', by simp only [if_neg e]; exact e0, ?_, ?_, ?_, ?_⟩
   ·rw [if_neg (by omega), if_neg (by omega), if_neg (by omega), if_neg (by omega)]; exact e1
   ·rw [if_neg (by omega), if_neg (by omega), if_neg (by omega), if_neg (by omega)]; exact e2
   ·rw [if_neg (by omega), if_neg (by omega), if_neg (by omega), if_neg (by omega)]; exact e3
   ·rw [if_neg (by omega), if_neg (by omega), if_neg (by omega), if_neg (by omega)]; exact e4
 ·by_cases e : i = k
  ·subst e
   simp only [if_true]
   refine StOwn.blk (hv.mono (by omega)) fun g hg => hs g ?_
   have := (hv.lt hg).1
   omega
  ·simp only [if_neg e]
   have ho := o.own i (by omega)
   refine (ho.below hb).blk fun g hg => hs g ?_
   have := (ho.lt hg).1
   omega
 ·by_cases e : j = k
  ·have hi : i ≠ k := by omega
   simp only [if_neg hi] at h1
   simp only [if_pos e]
   intro h2
   have a1 := ((o.own i (by omega)).lt h1).2
   have a2 := (hv.lt h2).1
   omega
  ·have hi : i ≠ k := by omega
   simp only [if_neg hi] at h1
   simp only [if_neg e]
   exact o.apart i j hij (by omega) g h1
theorem toStateS_any (a0 : Option Addr) (n cap : Nat) (q : Nat → St8) (W w : World) (hn : n ≤ 1048576) (hl : ∀ i, i < n → (q i).rs.length ≤ 1048576 ∧ (q i).os.length ≤ 1048576) (hA : AllState W a0 n q) (hW : Below W.heap.size W w) :
  Calls Tryz.prog 63 #[.slice a0 n cap] w fun e w' => e = .returned (.slice (some ⟨w.heap.size, 0, none⟩) n n) ∧ (∃ vs, OutState w' w.heap.size w'.heap.size n (fun i => (q i).s) vs) ∧ Below w.heap.size w w' := by
 have hl' : (n : Int) ≤ 1048576 := by omega
 have hmk := run_make_sta n hn
 have HA : Hid (AllState W a0 n q) := hA
 have HW : Hid (Below W.heap.size W w) := hW
 have HL : Hid (∀ i, i < n → (q i).rs.length ≤ 1048576 ∧ (q i).os.length ≤ 1048576) := hl
 clear hA hW hl
 go_enter Tryz.func63, Tryz.ntmps63
 go_wp2_with fail
 clear hmk
 go_loopw [4] (fun i wr => ∃ k : Nat, k ≤ n ∧ i = .int .i64 k ∧ (∃ f, wr.rowIs w.heap.size 93 (n * 4) f ∧ Hid (∃ vs, FillS wr w.heap.size k f (fun i => (q i).s) vs)) ∧ Below w.heap.size w wr) (fun i _ => n - (intOf i).toNat)
 case atStart =>
  obtain ⟨f, hf⟩ := madeSta_row w n
  exact ⟨0, Nat.zero_le _, rfl, ⟨f, hf, fun _ => .int .i64 0, fun i hi => by omega, fun i hi => by omega, fun i j hij hj => by omega⟩, (Below.refl _ _).alloc (Nat.le_refl _) _⟩
 case round =>
  obtain ⟨k, hk, rfl, ⟨f, hrow, HF⟩, hbw⟩ := hrel
  have hs := hrow.lt
  by_cases hlt : k < n
  ·have hlt' : (k : Int) < (n : Int) := by omega
   have HB : Hid (AllState wr a0 n q) := HA.out.below (HW.out.trans (hbw.mono HW.out.size))
   obtain ⟨b, off, rfl, c0, c1, c2, c3⟩ := HB.out.at hlt
   have HR : Hid (wr.rowIs w.heap.size 93 (n * 4) f) := hrow
   clear hrow
   go_wp2_with fail
   refine (toState_any _ _ _ _ _ _ (q k).rs (q k).os _ (HL.out k hlt).1 (HL.out k hlt).2 (HB.out.lst k hlt).1 (HB.out.lst k hlt).2).mono ?_
   rintro e w1 ⟨v1, rfl, o1, hb1⟩
   obtain ⟨ra1, rc1, oa1, oc1, rfl, -, -⟩ := o1.read
   have hr1 : w1.rowIs w.heap.size 93 (n * 4) f := HR.out.of_block (hb1.block _ hs)
   have f0 := hr1.frozen
   have g0 := hr1.cell (i := k * 4) (by omega)
   have g1 := hr1.cell (i := k * 4 + 1) (by omega)
   have g2 := hr1.cell (i := k * 4 + 2) (by omega)
   have g3 := hr1.cell (i := k * 4 + 3) (by omega)
   have HR1 : Hid (w1.rowIs w.heap.size 93 (n * 4) f) := hr1
   have HF1 : Hid (∀ a b c d : Value, ∃ vs, FillS ((((w1.setCell ⟨w.heap.size, k * 4, none⟩ a).setCell ⟨w.heap.size, k * 4 + 1, none⟩ b).setCell ⟨w.heap.size, k * 4 + 2, none⟩ c).setCell ⟨w.heap.size, k * 4 + 3, none⟩ d) w.heap.size (k + 1) (fun i => if i = k * 4 + 3 then .int .i64 (q k).c else if i = k * 4 + 2 then .slice oa1 (q k).os.length oc1 else if i = k * 4 + 1 then .slice ra1 (q k).rs.length rc1 else if i = k * 4 then .int .i64 (q k).p else f i) (fun i => (q i).s) vs) := by
    intro a b c d
    obtain ⟨vs, o⟩ := HF.out
    exact ⟨_, o.step hb1 hs (S := fun i => (q i).s) (k := k) o1 a b c d⟩
   clear hr1 o1 HF HR HB c0 c1 c2 c3
   go_wp2_with fail
   exact ⟨⟨k + 1, by omega, by go_num, ⟨_, (((HR1.out.set _ _).set _ _).set _ _).set _ _, HF1.out _ _ _ _⟩, ((((hbw.trans (hb1.mono (Nat.le_of_lt hs))).setCell (Nat.le_refl _) _).setCell (Nat.le_refl _) _).setCell (Nat.le_refl _) _).setCell (Nat.le_refl _) _⟩, by simp [intOf]; omega⟩
  ·have hkl : k = n := by omega
   have HO : Hid (∃ vs, OutState wr w.heap.size wr.heap.size n (fun i => (q i).s) vs) := by
    obtain ⟨vs, o⟩ := HF.out
    rw [hkl] at o
    refine ⟨vs, fun i hi => ?_, o.own, fun i hi b hb => ((o.own i hi).lt hb).2, o.apart, fun j => hrow.frozen j, Nat.le_refl _, hs⟩
    obtain ⟨ra, rc, oa, oc, e0, e1, e2, e3, e4⟩ := o.cel i hi
    exact ⟨ra, rc, oa, oc, e0, by rw [hrow.cell (by omega), e1], by rw [hrow.cell (by omega), e2], by rw [hrow.cell (by omega), e3], by rw [hrow.cell (by omega), e4]⟩
   clear hkl HF hrow
   go_wp2
   go_ret
   exact ⟨rfl, HO.out, hbw⟩
theorem eqStateS_same (D1 h1 D2 h2 n c1 c2 : Nat) (S : Nat → S4) (v1 v2 : Nat → Value) (w : World) (hn : n ≤ 1048576) (hl : ∀ i, i < n → (S i).rs.length ≤ 1048576 ∧ (S i).os.length ≤ 1048576) (o1 : OutState w D1 h1 n S v1) (o2 : OutState w D2 h2 n S v2) :
  Calls Tryz.prog 68 #[.slice (some ⟨D1, 0, none⟩) n c1, .slice (some ⟨D2, 0, none⟩) n c2] w fun e w' => e = .returned (.bool true) ∧ Below w.heap.size w w' := by
 have hl' : (n : Int) ≤ 1048576 := by omega
 have O1 : Hid (OutState w D1 h1 n S v1) := o1
 have O2 : Hid (OutState w D2 h2 n S v2) := o2
 have HL : Hid (∀ i, i < n → (S i).rs.length ≤ 1048576 ∧ (S i).os.length ≤ 1048576) := hl
 clear o1 o2 hl
 go_enter Tryz.func68, Tryz.ntmps68
 go_wp2_with fail
 go_loopw [5] (fun i wr => ∃ k : Nat, k ≤ n ∧ i = .int .i64 k ∧ Below w.heap.size w wr) (fun i _ => n - (intOf i).toNat)
 case atStart => exact ⟨0, Nat.zero_le _, rfl, Below.refl _ _⟩
 case round =>
  obtain ⟨k, hk, rfl, hbw⟩ := hrel
  have hs := hbw.size
  by_cases hlt : k < n
  ·have P1 : Hid (OutState wr D1 h1 n S v1) := O1.out.below hbw O1.out.le
   have P2 : Hid (OutState wr D2 h2 n S v2) := O2.out.below hbw O2.out.le
   obtain ⟨ra, rc, oa, oc, e1, a0, a1, a2, a3⟩ := P1.out.cel k hlt
   obtain ⟨ra', rc', oa', oc', e2, b0, b1, b2, b3⟩ := P2.out.cel k hlt
   have hsl1 : Sl wr ra (S k).rs ∧ Sl wr oa (S k).os := by
    obtain ⟨x1, x2, x3, x4, e, s1, s2⟩ := (P1.out.own k hlt).read
    rw [e1] at e
    simp only [Value.agg.injEq, Array.mk.injEq, List.cons.injEq, Value.slice.injEq, and_true, true_and] at e
    obtain ⟨⟨rfl, rfl⟩, rfl, rfl⟩ := e
    exact ⟨s1, s2⟩
   have hsl2 : Sl wr ra' (S k).rs ∧ Sl wr oa' (S k).os := by
    obtain ⟨x1, x2, x3, x4, e, s1, s2⟩ := (P2.out.own k hlt).read
    rw [e2] at e
    simp only [Value.agg.injEq, Array.mk.injEq, List.cons.injEq, Value.slice.injEq, and_true, true_and] at e
    obtain ⟨⟨rfl, rfl⟩, rfl, rfl⟩ := e
    exact ⟨s1, s2⟩
   have H1 : Hid (Sl wr ra (S k).rs ∧ Sl wr oa (S k).os) := hsl1
   have H2 : Hid (Sl wr ra' (S k).rs ∧ Sl wr oa' (S k).os) := hsl2
   have hlt' : (k : Int) < (n : Int) := by omega
   clear hsl1 hsl2 e1 e2
   go_wp2_with fail
   first | (go_region_with (go_at_call 133; refine (eqState_same _ _ ra oa ra' oa' rc oc rc' oc' (S k).rs (S k).os wr.drew (HL.out k hlt).1 (HL.out k hlt).2 H1.out.1 H1.out.2 H2.out.1 H2.out.2).mono ?_; rintro e w1 ⟨rfl, hq1⟩)) | fail
   all_goals
    go_wp2
    go_roundw
    case rel => exact ⟨k + 1, by omega, by go_num, hbw.drew.trans (hq1.mono hs)⟩
    case measure => simp [intOf]; omega
  ·go_wp2
   go_ret
   exact ⟨rfl, hbw⟩
structure MkS (w wr : World) (D j : Nat) (vs : Nat → Value) : Prop where
 tch : Touch (fun b => b = D ∨ ∃ t, t < j ∧ hasBlock (vs t) b) w wr
 cel : ∀ i, j * 4 ≤ i → wr.cell? ⟨D, i, none⟩ = w.cell? ⟨D, i, none⟩
 fr : ∀ i, wr.frozen? ⟨D, i, none⟩ = false
theorem markStateS_any (D hi n cap : Nat) (S : Nat → S4) (vs : Nat → Value) (k : Int) (w : World) (hn : n ≤ 1048576) (hl : sumL (lenS S) n ≤ 1048576) (k0 : 0 ≤ k) (k1 : k ≤ 50000000) (o : OutState w D hi n S vs) :
  Calls Tryz.prog 73 #[.slice (some ⟨D, 0, none⟩) n cap, .int .i64 k] w fun e w' => e = .returned (.int .i64 (k + (2 * n + sumL (lenS S) n : Nat))) ∧ Touch (fun b => D ≤ b ∧ b < hi) w w' := by
 have hl' : (n : Int) ≤ 1048576 := by omega
 have O : Hid (OutState w D hi n S vs) := o
 have HL : Hid (sumL (lenS S) n ≤ 1048576) := hl
 clear o hl
 go_enter Tryz.func73, Tryz.ntmps73
 go_wp2_with fail
 go_loopw [1, 5] (fun q i wr => ∃ j : Nat, j ≤ n ∧ i = .int .i64 j ∧ q = .int .i64 (k + (2 * j + sumL (lenS S) j : Nat)) ∧ Hid (MkS w wr D j vs)) (fun _ i _ => n - (intOf i).toNat)
 case atStart => exact ⟨0, Nat.zero_le _, rfl, by simp [sumL], Touch.refl _ _, fun _ _ => rfl, O.out.fr⟩
 case round =>
  obtain ⟨j, hj, rfl, rfl, HT⟩ := hrel
  by_cases hlt : j < n
  ·have hlt' : (j : Int) < (n : Int) := by omega
   obtain ⟨ra, rc, oa, oc, ev, a0, a1, a2, a3⟩ := O.out.cel j hlt
   have c0 := (HT.out.cel (j * 4) (by omega)).trans a0
   have c1 := (HT.out.cel (j * 4 + 1) (by omega)).trans a1
   have c2 := (HT.out.cel (j * 4 + 2) (by omega)).trans a2
   have c3 := (HT.out.cel (j * 4 + 3) (by omega)).trans a3
   have fz := HT.out.fr
   have hD : D < wr.heap.size := Nat.lt_of_lt_of_le O.out.lt (Nat.le_trans O.out.le HT.out.tch.size)
   have how := O.out.own j hlt
   have howr : StOwn wr (D + 1) (vs j) (S j).p (S j).rs (S j).os (S j).c := how.blk fun b hb => HT.out.tch.block b (how.lt hb).2 (by
    rintro (e | ⟨t, ht, h1⟩)
    ·have := (how.lt hb).1
     omega
    ·exact O.out.apart t j ht hlt b h1 hb)
   have hbd : ∀ b, hasBlock (vs j) b → D + 1 ≤ b := fun b hb => (how.lt hb).1
   rw [ev] at howr hbd
   obtain ⟨vr, vo, e, w1r, w1o, wap⟩ := howr
   simp only [Value.agg.injEq, Array.mk.injEq, List.cons.injEq, and_true, true_and] at e
   obtain ⟨rfl, rfl⟩ := e
   have OR : Hid (OwnI wr (D + 1) (.slice ra (S j).rs.length rc) (S j).rs) := w1r
   have OO : Hid (OwnI wr (D + 1) (.slice oa (S j).os.length oc) (S j).os) := w1o
   have AP : Hid (∀ b, (Value.slice ra (S j).rs.length rc).ownBlock = some b → (Value.slice oa (S j).os.length oc).ownBlock ≠ some b) := wap
   have HV : Hid (vs j = stV (S j).p ra (S j).rs.length rc oa (S j).os.length oc (S j).c) := ev
   have hsl := sumL_at (lenS S) hlt
   have hS := HL.out
   have hlk : lenS S j = (S j).rs.length + (S j).os.length := rfl
   have r1 : (S j).rs.length ≤ 1048576 := by omega
   have r2 : (S j).os.length ≤ 1048576 := by omega
   generalize hx : k + (2 * j + sumL (lenS S) j : Nat) = X at *
   have x0 : 0 ≤ X := by omega
   have x1 : X ≤ 60000000 := by omega
   have HN : Hid (X + 1 + (S j).rs.length + (S j).os.length + 1 = k + (2 * (j + 1) + sumL (lenS S) (j + 1) : Nat)) := by
    show X + 1 + (S j).rs.length + (S j).os.length + 1 = k + (2 * (j + 1) + sumL (lenS S) (j + 1) : Nat)
    simp only [sumL]
    omega
   have rI : ((S j).rs.length : Int) ≤ 1048576 := by omega
   have oI : ((S j).os.length : Int) ≤ 1048576 := by omega
   clear a0 a1 a2 a3 ev wap w1r w1o how hsl hS hlk hx
   go_wp2_with fail
   refine (markIntS_any ra rc (D + 1) (S j).rs _ _ r1 (by omega) (by omega) (OR.out.setBelow (by simp) _)).mono ?_
   rintro e w1 ⟨rfl, -, g1⟩
   have nR : some D ≠ (Value.slice ra (S j).rs.length rc).ownBlock := fun e => by
    have := (OR.out.lt D e.symm).1
    omega
   have nO : some D ≠ (Value.slice oa (S j).os.length oc).ownBlock := fun e => by
    have := (OO.out.lt D e.symm).1
    omega
   obtain ⟨d1, f1⟩ := gcell g1 (b := D) (by simpa using hD) nR
   have OO1 : Hid (OwnI w1 (D + 1) (.slice oa (S j).os.length oc) (S j).os) := own_apart (OO.out.setBelow (by simp) _) g1 AP.out
   have hD1 : D < w1.heap.size := by have := g1.size; simp at this; omega
   have G1 : Hid (World.grownBy (wr.setCell ⟨D, j * 4, none⟩ (.int .i64 X)) w1 (Value.slice ra (S j).rs.length rc).ownBlock) := g1
   clear g1
   go_wp2_with fail
   refine (markIntS_any oa oc (D + 1) (S j).os _ _ r2 (by omega) (by omega) OO1.out).mono ?_
   rintro e w2 ⟨rfl, -, g2⟩
   obtain ⟨d2, f2⟩ := gcell g2 (b := D) hD1 nO
   have HT2 : Hid (∀ u, MkS w (w2.setCell ⟨D, j * 4 + 3, none⟩ u) D (j + 1) vs) := by
    intro u
    have t0 : Touch (fun b => b = D ∨ ∃ t, t < j + 1 ∧ hasBlock (vs t) b) w wr := HT.out.tch.mono (by
     rintro b (e | ⟨t, ht, h1⟩)
     ·exact .inl e
     ·exact .inr ⟨t, by omega, h1⟩)
    have t1 : Touch (fun b => b = D ∨ ∃ t, t < j + 1 ∧ hasBlock (vs t) b) wr (wr.setCell ⟨D, j * 4, none⟩ (.int .i64 X)) := Touch.of_set _ (.inl rfl) _
    have t2 : Touch (fun b => b = D ∨ ∃ t, t < j + 1 ∧ hasBlock (vs t) b) (wr.setCell ⟨D, j * 4, none⟩ (.int .i64 X)) w1 := Touch.of_grown G1.out fun b e => .inr ⟨j, by omega, by
     rw [HV.out]
     exact (hasBlock_iff _ _ _ _ _).2 (.inl e)⟩
    have t3 : Touch (fun b => b = D ∨ ∃ t, t < j + 1 ∧ hasBlock (vs t) b) w1 w2 := Touch.of_grown g2 fun b e => .inr ⟨j, by omega, by
     rw [HV.out]
     exact (hasBlock_iff _ _ _ _ _).2 (.inr e)⟩
    refine ⟨(((t0.trans t1).trans t2).trans t3).trans (Touch.of_set _ (.inl rfl) _), fun i hi => ?_, fun i => ?_⟩
    ·have s1 : ∀ (W : World) (o : Nat) (u : Value), o ≠ i → (W.setCell ⟨D, o, none⟩ u).cell? ⟨D, i, none⟩ = W.cell? ⟨D, i, none⟩ := fun W o u h => World.cell?_setCell_other _ _ _ _ fun e => h (by injection e)
     rw [s1 _ _ _ (by omega), d2, d1, s1 _ _ _ (by omega)]
     exact HT.out.cel i (by omega)
    ·rw [World.frozen?_setCell, f2, f1, World.frozen?_setCell]
     exact HT.out.fr i
   clear g2 G1 OO1 OO OR AP HV HT
   go_wp2
   go_roundw
   case rel => exact ⟨j + 1, by omega, by go_num, by rw [HN.out], HT2.out _⟩
   case measure => simp [intOf]; omega
  ·have hkl : j = n := by omega
   subst hkl
   have HT1 : Hid (Touch (fun b => D ≤ b ∧ b < hi) w wr) := HT.out.tch.mono (by
    rintro b (e | ⟨t, ht, h1⟩)
    ·subst e
     exact ⟨Nat.le_refl _, O.out.lt⟩
    ·exact ⟨by have := ((O.out.own t ht).lt h1).1; omega, O.out.bd t ht b h1⟩)
   clear HT
   go_wp2
   go_ret
   exact ⟨rfl, HT1.out⟩
theorem open_stateCells {H : Type} {enc : TypeId × Value → H} {w : World} {base fuel : Nat} {held : Bool} {c0 c1 c2 c3 : Value} {x : DataW H × List MemPlace}
  (hf' : DataW.trod enc Tryz.prog w base (fun _ => true) held fuel 165 [c0, c1, c2, c3] = some x) :
  ∃ q : St8, (c0 = .int .i64 q.p ∧ c1 = .slice q.ra q.rs.length q.rc ∧ c2 = .slice q.oa q.os.length q.oc ∧ c3 = .int .i64 q.c) ∧ (q.rs.length ≤ maxLen ∧ q.os.length ≤ maxLen) ∧ Sl w q.ra q.rs ∧ Sl w q.oa q.os := by
 obtain ⟨xs, m, -, -, -, hl, hx⟩ := DataW.trod_struct Tryz.underlying165 hf'
 have hl : xs.length = 4 := hl
 have q0 : DataW.trod enc Tryz.prog w base (fun _ => true) held m 3 [c0] = xs[0]? := by simpa [cellsInt] using hx 0 _ rfl
 have q1 : DataW.trod enc Tryz.prog w base (fun _ => true) held m 44 [c1] = xs[1]? := by simpa [cellsInts] using hx 1 _ rfl
 have q2 : DataW.trod enc Tryz.prog w base (fun _ => true) held m 44 [c2] = xs[2]? := by simpa [cellsInts] using hx 2 _ rfl
 have q3 : DataW.trod enc Tryz.prog w base (fun _ => true) held m 3 [c3] = xs[3]? := by simpa [cellsInt] using hx 3 _ rfl
 rw [List.getElem?_eq_getElem (by omega)] at q0 q1 q2 q3
 obtain ⟨z0, e0, -, -⟩ := DataW.trod_int Tryz.underlying3 q0
 obtain ⟨z3, e3, -, -⟩ := DataW.trod_int Tryz.underlying3 q3
 obtain ⟨ra, rc, rs, rfl, hr, h1⟩ := open_intRow q1
 obtain ⟨oa, oc, os, rfl, ho, h2⟩ := open_intRow q2
 simp only [List.cons.injEq, and_true] at e0 e3
 subst e0 e3
 exact ⟨⟨z0, ra, rc, rs, oa, oc, os, z3⟩, ⟨rfl, rfl, rfl, rfl⟩, ⟨hr, ho⟩, h1, h2⟩
theorem open_StateS {H : Type} {enc : TypeId × Value → H} {w : World} {held : Bool} {base : Nat} {a0 : Option Addr} {len cap : Nat} {d : DataW H} {p : List MemPlace}
  (h : DataW.Trod enc Tryz.prog w base (fun _ => true) held 49 (.slice a0 len cap) d p) :
  len ≤ maxLen ∧ ∃ q, AllState w a0 len q ∧ ∀ i, i < len → (q i).rs.length ≤ maxLen ∧ (q i).os.length ≤ maxLen := by
 obtain ⟨fuel, hf⟩ := h
 have inh : Inhabited St8 := ⟨⟨0, none, 0, [], none, 0, [], 0⟩⟩
 rcases Go.Deep.open_slice Tryz.underlying49 hf with ⟨hcs, _⟩ | ⟨a, len', cap', m, n, D, Pl, hcs, _, hl, hm, hmm, _, hx⟩
 ·simp [Value.cells] at hcs
  obtain ⟨_, rfl, _⟩ := hcs
  exact ⟨Nat.zero_le _, fun _ => default, ⟨.inl rfl, fun i hi => by omega⟩, fun i hi => by omega⟩
 ·simp [Value.cells] at hcs
  obtain ⟨rfl, rfl, rfl⟩ := hcs
  refine ⟨Nat.le_trans hl hm, ?_⟩
  have hle : len ≤ m := by rw [hmm]; split <;> omega
  rw [cellsLawState] at hx
  obtain ⟨b, off, spot⟩ := a
  have hcell : ∀ i, i < len → ∃ q : St8, (w.cell? (Addr.add (Addr.add ⟨b, off, spot⟩ (i * 4)) 0) = some (.int .i64 q.p) ∧ w.cell? (Addr.add (Addr.add ⟨b, off, spot⟩ (i * 4)) 1) = some (.slice q.ra q.rs.length q.rc) ∧ w.cell? (Addr.add (Addr.add ⟨b, off, spot⟩ (i * 4)) 2) = some (.slice q.oa q.os.length q.oc) ∧ w.cell? (Addr.add (Addr.add ⟨b, off, spot⟩ (i * 4)) 3) = some (.int .i64 q.c)) ∧ (q.rs.length ≤ maxLen ∧ q.os.length ≤ maxLen) ∧ Sl w q.ra q.rs ∧ Sl w q.oa q.os := by
   intro i hi
   obtain ⟨cs', h1, h2⟩ := hx i (by omega)
   obtain ⟨_, hlen, hc⟩ := World.cells?_some h1
   match cs', hlen with
   | [c0, c1, c2, c3], _ =>
    obtain ⟨q, ⟨rfl, rfl, rfl, rfl⟩, hb, hs⟩ := open_stateCells h2
    exact ⟨q, ⟨hc 0 (by omega), hc 1 (by omega), hc 2 (by omega), hc 3 (by omega)⟩, hb, hs⟩
  obtain ⟨g, hg⟩ := Go.Deep.choose_lt (α := St8) hcell
  refine ⟨g, ⟨?_, fun i hi => (hg i hi).2.2⟩, fun i hi => (hg i hi).2.1⟩
  by_cases h0 : len = 0
  ·exact .inl h0
  have hspot : spot = none := by
   have hx0 := (hg 0 (by omega)).1.1
   simpa [Addr.add] using World.cell?_spot hx0
  subst hspot
  have hI : ∀ i, i < len → w.cell? ⟨b, off + i * 4, none⟩ = some (.int .i64 (g i).p) ∧ w.cell? ⟨b, off + i * 4 + 1, none⟩ = some (.slice (g i).ra (g i).rs.length (g i).rc) ∧ w.cell? ⟨b, off + i * 4 + 2, none⟩ = some (.slice (g i).oa (g i).os.length (g i).oc) ∧ w.cell? ⟨b, off + i * 4 + 3, none⟩ = some (.int .i64 (g i).c) := by
   intro i hi
   obtain ⟨⟨q0, q1, q2, q3⟩, -⟩ := hg i hi
   rw [addr_addO, addr_addO] at q0 q1 q2 q3
   exact ⟨q0, q1, q2, q3⟩
  exact .inr ⟨b, off, rfl, cell_lt (hI 0 (by omega)).1, hI⟩
end Go.Proofs.YtnfdnnmddadmkaaGreatDoor
