/- The walk of the program's canRow, which takes back what it has put. -/
import Derived.Test.YtjbocfjeobkclaaGreatDoorCc0
import Derived.Test.YtjbocfjeobkclaaGreatDoorCc15
import Derived.Test.YtjbocfjeobkclaaGreatDoorCc16
import Derived.Test.YtjbocfjeobkclaaGreatDoorCc18
import Derived.Test.YtjbocfjeobkclaaGreatDoorCc12
import Derived.Defers
import Derived.Deep.LoopGhost
import Derived.Deep.Cut
import Derived.Deep.MidRow
import Derived.Laws.EntriesVeiled
namespace Go.Proofs.YtjbocfjeobkclaaGreatDoor
set_option maxRecDepth 100000
set_option maxHeartbeats 2000000
open Go.ChangeShapes Go.WideShapes Go.ChangeAt Go.RowKit Go.Deep
structure OutItem (w : World) (D hi n : Nat) (ls : Nat → Nat) (bs : Nat → Nat) (h : Nat → Nat → I2) : Prop where
 cel : ∀ i, i < n → w.cell? ⟨D, i, none⟩ = some (.slice (some ⟨bs i, 0, none⟩) (ls i) (ls i))
 bd : ∀ i, i < n → D < bs i ∧ bs i < hi
 row : ∀ i, i < n → ItAt w (bs i) 0 (ls i) (h i)
 fr : ∀ i, i < n → ∀ j, w.frozen? ⟨bs i, j, none⟩ = false
 up : ∀ i j, i < j → j < n → bs i < bs j
 le : hi ≤ w.heap.size
 lt : D < hi
theorem OutItem.below {w w' : World} {D hi n B : Nat} {ls : Nat → Nat} {bs : Nat → Nat} {h : Nat → Nat → I2} (o : OutItem w D hi n ls bs h) (hb : Below B w w') (hB : hi ≤ B) : OutItem w' D hi n ls bs h :=
 ⟨fun i hi' => (hb.cell (p := ⟨D, i, none⟩) (Nat.lt_of_lt_of_le o.lt hB)).trans (o.cel i hi'), o.bd, fun i hi' => (o.row i hi').below hb (Nat.lt_of_lt_of_le (o.bd i hi').2 hB), fun i hi' j => (hb.frozen (p := ⟨bs i, j, none⟩) (Nat.lt_of_lt_of_le (o.bd i hi').2 hB)).trans (o.fr i hi' j), o.up, Nat.le_trans o.le hb.size, o.lt⟩
theorem OutItem.keep {w w' : World} {D hi n : Nat} {ls : Nat → Nat} {bs : Nat → Nat} {h : Nat → Nat → I2} (o : OutItem w D hi n ls bs h) (hs : w.heap.size ≤ w'.heap.size) (hb : ∀ k, D ≤ k → k < hi → w'.heap[k]? = w.heap[k]?) : OutItem w' D hi n ls bs h := by
 refine ⟨fun i hi' => (World.cell?_of_block (hb D (Nat.le_refl _) o.lt)).trans (o.cel i hi'), o.bd, fun i hi' => ?_, fun i hi' j => (World.frozen?_of_block (hb _ (Nat.le_of_lt (o.bd i hi').1) (o.bd i hi').2)).trans (o.fr i hi' j), o.up, Nat.le_trans o.le hs, o.lt⟩
 have hc : ∀ j, w'.cell? ⟨bs i, j, none⟩ = w.cell? ⟨bs i, j, none⟩ := fun j => World.cell?_of_block (hb _ (Nat.le_of_lt (o.bd i hi').1) (o.bd i hi').2)
 intro t ht
 have := o.row i hi' t ht
 simp only [hc]
 exact this
theorem szItemSS_small (a0 : Option Addr) (n cap : Nat) (aa : Nat → Option Addr) (ls cs : Nat → Nat) (L : Int) (w : World) (hr : RowS w a0 n fun i => .slice (aa i) (ls i) (cs i)) (h : (n : Int) + (sumL ls n : Nat) ≤ L) (hL : L ≤ 1048576) :
  Calls Tryz.prog 21 #[.slice a0 n cap, .int .i64 L] w fun e w' => e = .returned (.int .i64 (L - n - (sumL ls n : Nat))) ∧ w' = w := by
 have hn : (n : Int) ≤ 1048576 := by omega
 have h0 : 0 ≤ L := by omega
 have hn0 : ¬ (L - (n : Int) < 0) := by omega
 have HR : Hid (RowS w a0 n fun i => .slice (aa i) (ls i) (cs i)) := hr
 have HS : Hid ((n : Int) + (sumL ls n : Nat) ≤ L) := h
 clear hr h
 go_enter Tryz.func21, Tryz.ntmps21
 go_wp2_with fail
 go_loopw [1, 5] (fun q i wr => ∃ k : Nat, k ≤ n ∧ i = .int .i64 k ∧ q = .int .i64 (L - n - (sumL ls k : Nat)) ∧ wr = w) (fun _ i _ => n - (intOf i).toNat)
 case atStart => exact ⟨0, Nat.zero_le _, rfl, by simp [sumL], rfl⟩
 case round =>
  obtain ⟨k, hk, rfl, rfl, rfl⟩ := hrel
  by_cases hlt : k < n
  ·have hlt' : (k : Int) < (n : Int) := by omega
   obtain ⟨b, off, rfl, ck⟩ := HR.out.at hlt
   have hsl := sumL_at ls hlt
   have hS := HS.out
   have e1 : (L - n - (sumL ls k : Nat)) - (ls k : Int) = L - n - (sumL ls (k + 1) : Nat) := by simp only [sumL]; omega
   have HE : Hid ((L - n - (sumL ls k : Nat)) - (ls k : Int) = L - n - (sumL ls (k + 1) : Nat)) := e1
   have e2 : (ls k : Int) ≤ L - n - (sumL ls k : Nat) := by omega
   have e3 : ¬ (L - n - (sumL ls (k + 1) : Nat) < 0) := by omega
   have e4 : L - n - (sumL ls k : Nat) ≤ 1048576 := by omega
   clear e1 hS hsl
   generalize hy : L - n - (sumL ls (k + 1) : Nat) = Y at *
   go_wp2_with fail
   refine (szItemS_small _ _ _ _ _ e2 e4).mono ?_
   rintro e w1 ⟨rfl, rfl⟩
   rw [HE.out]
   clear e2 e4
   go_wp2
   go_roundw
   case rel => exact ⟨k + 1, by omega, by go_num, by rw [← hy], by trivial⟩
   case measure => simp [intOf]; omega
  ·have hkl : k = n := by omega
   subst hkl
   go_wp2
   go_ret
   exact ⟨rfl, rfl⟩
theorem szItemSS_great (a0 : Option Addr) (n cap : Nat) (aa : Nat → Option Addr) (ls cs : Nat → Nat) (L : Int) (w : World) (hr : RowS w a0 n fun i => .slice (aa i) (ls i) (cs i)) (h : L < (n : Int) + (sumL ls n : Nat)) (h0 : 0 ≤ L) (hL : L ≤ 1048576) (hm : n ≤ maxLen) (hl : ∀ i, i < n → ls i ≤ maxLen) :
  Calls Tryz.prog 21 #[.slice a0 n cap, .int .i64 L] w fun e w' => e = .returned (.int .i64 (-1)) ∧ w' = w := by
 have hm' : (n : Int) ≤ 9223372036854775807 := by unfold maxLen at hm; omega
 by_cases hn0 : L - (n : Int) < 0
 ·go_enter Tryz.func21, Tryz.ntmps21
  go_wp2
  go_ret
  exact ⟨rfl, rfl⟩
 have hn : (n : Int) ≤ 1048576 := by omega
 have HR : Hid (RowS w a0 n fun i => .slice (aa i) (ls i) (cs i)) := hr
 have HS : Hid (L < (n : Int) + (sumL ls n : Nat)) := h
 have HL : Hid (∀ i, i < n → ls i ≤ maxLen) := hl
 clear hr h hl hm
 go_enter Tryz.func21, Tryz.ntmps21
 go_wp2_with fail
 go_loopw [1, 5] (fun q i wr => ∃ k : Nat, k ≤ n ∧ i = .int .i64 k ∧ q = .int .i64 (L - n - (sumL ls k : Nat)) ∧ 0 ≤ L - n - (sumL ls k : Nat) ∧ wr = w) (fun _ i _ => n - (intOf i).toNat)
 case atStart => exact ⟨0, Nat.zero_le _, rfl, by simp [sumL], by simp only [sumL]; omega, rfl⟩
 case round =>
  obtain ⟨k, hk, rfl, rfl, hp, rfl⟩ := hrel
  by_cases hlt : k < n
  ·have hlt' : (k : Int) < (n : Int) := by omega
   obtain ⟨b, off, rfl, ck⟩ := HR.out.at hlt
   have hml := HL.out k hlt
   have e1 : (L - n - (sumL ls k : Nat)) - (ls k : Int) = L - n - (sumL ls (k + 1) : Nat) := by simp only [sumL]; omega
   have HE : Hid ((L - n - (sumL ls k : Nat)) - (ls k : Int) = L - n - (sumL ls (k + 1) : Nat)) := e1
   have e4 : L - n - (sumL ls k : Nat) ≤ 1048576 := by omega
   clear e1
   by_cases hb : (ls k : Int) ≤ L - n - (sumL ls k : Nat)
   ·have e3 : 0 ≤ L - n - (sumL ls (k + 1) : Nat) := by have := HE.out; omega
    have e3' : ¬ (L - n - (sumL ls (k + 1) : Nat) < 0) := by omega
    generalize hy : L - n - (sumL ls (k + 1) : Nat) = Y at *
    go_wp2_with fail
    refine (szItemS_small _ _ _ _ _ hb e4).mono ?_
    rintro e w1 ⟨rfl, rfl⟩
    rw [HE.out]
    clear hb e4 hml hp
    go_wp2
    go_roundw
    case rel => exact ⟨k + 1, by omega, by go_num, by rw [← hy], by omega, by trivial⟩
    case measure => simp [intOf]; omega
   ·have hb' : L - n - (sumL ls k : Nat) < (ls k : Int) := by omega
    go_wp2_with fail
    refine (szItemS_great _ _ _ _ _ hb' hp e4 hml).mono ?_
    rintro e w1 ⟨rfl, rfl⟩
    clear hb hb' e4 hml hp HE
    go_wp2
    go_ret
    exact ⟨rfl, rfl⟩
  ·have hkl : k = n := by omega
   subst hkl
   have := HS.out
   omega
theorem infoItemS : (Tryz.prog.info? 96).map (fun i => (i.zero, i.size, i.bytes)) = some (some (.slice none 0 0), 1, 24) := by kernel_rfl
theorem run_make_ItemS (n : Nat) (hn : n ≤ 1048576) (w : World) :
  (Instr.makeSlice 33 (.int .i64 (n : Int)) (.int .i64 (n : Int))).run Tryz.prog w = .ok (.slice (some ⟨w.heap.size, 0, none⟩) n n) (w.alloc (.cells (madeCells #[.slice none 0 0] n) 96)) := by
 have hinfo := infoItemS
 cases hi : Tryz.prog.info? 96 with
 | none => rw [hi] at hinfo; cases hinfo
 | some i =>
  rw [hi] at hinfo
  simp only [Option.map_some, Option.some.injEq, Prod.mk.injEq] at hinfo
  obtain ⟨hz, hs, hb⟩ := hinfo
  have h := run_make (P := Tryz.prog) w 33 96 i _ Tryz.underlying33 hi hz .i64 .i64 (n : Int) (n : Int) (by omega) (Int.le_refl _) (by rw [hb]; omega) (by omega)
  rw [hs] at h
  simpa [Value.cells] using h
theorem madeItemS_row (w : World) (n : Nat) : (w.alloc (.cells (madeCells #[.slice none 0 0] n) 96)).rowIs w.heap.size 96 n (fun _ => .slice none 0 0) := by
 refine ⟨_, blk_alloc_new _ _, size_madeCells _ _, fun i hi => ?_⟩
 simp only [madeCells]
 rw [Array.getElem?_map, Array.getElem?_range, if_pos hi]
 have : i % 1 = 0 := Nat.mod_one i
 exact congrArg some (by simp [this])
structure FillItem (w : World) (D k : Nat) (f : Nat → Value) (ls : Nat → Nat) (bs : Nat → Nat) (h : Nat → Nat → I2) : Prop where
 cel : ∀ i, i < k → f i = .slice (some ⟨bs i, 0, none⟩) (ls i) (ls i)
 bd : ∀ i, i < k → D < bs i ∧ bs i < w.heap.size
 row : ∀ i, i < k → ItAt w (bs i) 0 (ls i) (h i)
 fr : ∀ i, i < k → ∀ j, w.frozen? ⟨bs i, j, none⟩ = false
 up : ∀ i j, i < j → j < k → bs i < bs j
theorem FillItem.step {w w1 : World} {D k : Nat} {f : Nat → Value} {ls : Nat → Nat} {bs : Nat → Nat} {h : Nat → Nat → I2} (o : FillItem w D k f ls bs h) (hb : Below w.heap.size w w1) (hD : D < w.heap.size) (hz : w.heap.size < w1.heap.size) (hr : ItAt w1 w.heap.size 0 (ls k) (h k)) (hf : ∀ j, w1.frozen? ⟨w.heap.size, j, none⟩ = false) (u : Value) :
  FillItem (w1.setCell ⟨D, k, none⟩ u) D (k + 1) (fun i => if i = k then .slice (some ⟨w.heap.size, 0, none⟩) (ls k) (ls k) else f i) ls (fun i => if i = k then w.heap.size else bs i) h := by
 have hs : ∀ b, b ≠ D → (w1.setCell ⟨D, k, none⟩ u).heap[b]? = w1.heap[b]? := fun b hne => Below.heap_setCell _ _ _ _ hne
 have hat : ∀ b n g, b ≠ D → ItAt w1 b 0 n g → ItAt (w1.setCell ⟨D, k, none⟩ u) b 0 n g := fun b n g hne hg => fun i hi => by
  have hc : ∀ j, (w1.setCell ⟨D, k, none⟩ u).cell? ⟨b, j, none⟩ = w1.cell? ⟨b, j, none⟩ := fun j => World.cell?_of_block (hs b hne)
  have := hg i hi
  simp only [hc]
  exact this
 refine ⟨fun i hi => ?_, fun i hi => ?_, fun i hi => ?_, fun i hi j => ?_, fun i j hij hj => ?_⟩
 ·by_cases e : i = k
  ·subst e; simp
  ·simp only [if_neg e]; exact o.cel i (by omega)
 ·by_cases e : i = k
  ·subst e; simp; omega
  ·simp only [if_neg e, World.size_setCell]; have := o.bd i (by omega); omega
 ·by_cases e : i = k
  ·subst e; simp only [if_true]; exact hat _ _ _ (by omega) hr
  ·simp only [if_neg e]; have hbd := o.bd i (by omega); exact hat _ _ _ (by omega) ((o.row i (by omega)).below hb hbd.2)
 ·by_cases e : i = k
  ·subst e; simp only [if_true]; rw [World.frozen?_setCell]; exact hf j
  ·simp only [if_neg e]; rw [World.frozen?_setCell]; have hbd := o.bd i (by omega); exact (hb.frozen (p := ⟨bs i, j, none⟩) hbd.2).trans (o.fr i (by omega) j)
 ·by_cases e : j = k
  ·have hi : i ≠ k := by omega
   simp only [if_neg hi, if_pos e]
   exact (o.bd i (by omega)).2
  ·have hi : i ≠ k := by omega
   simp only [if_neg hi, if_neg e]
   exact o.up i j hij (by omega)
structure AllItem (W : World) (a0 : Option Addr) (n : Nat) (aa : Nat → Option Addr) (ls cs : Nat → Nat) (h : Nat → Nat → I2) : Prop where
 row : RowS W a0 n fun i => .slice (aa i) (ls i) (cs i)
 cop : ∀ i, i < n → CopiesT W (aa i) (ls i) (cs i) (h i)
theorem toItemSS_any (a0 : Option Addr) (n cap : Nat) (aa : Nat → Option Addr) (ls cs : Nat → Nat) (h : Nat → Nat → I2) (W w : World) (hn : n ≤ 1048576) (hA : AllItem W a0 n aa ls cs h) (hW : Below W.heap.size W w) :
  Calls Tryz.prog 27 #[.slice a0 n cap] w fun e w' => e = .returned (.slice (some ⟨w.heap.size, 0, none⟩) n n) ∧ (∃ bs, OutItem w' w.heap.size w'.heap.size n ls bs h) ∧ Below w.heap.size w w' := by
 have hl' : (n : Int) ≤ 1048576 := by omega
 have hmk := run_make_ItemS n hn
 have HA : Hid (AllItem W a0 n aa ls cs h) := hA
 have HW : Hid (Below W.heap.size W w) := hW
 clear hA hW
 go_enter Tryz.func27, Tryz.ntmps27
 go_wp2_with fail
 clear hmk
 go_loopw [4] (fun i wr => ∃ k : Nat, k ≤ n ∧ i = .int .i64 k ∧ (∃ f, wr.rowIs w.heap.size 96 n f ∧ Hid (∃ bs, FillItem wr w.heap.size k f ls bs h)) ∧ Below w.heap.size w wr) (fun i _ => n - (intOf i).toNat)
 case atStart => exact ⟨0, Nat.zero_le _, rfl, ⟨_, madeItemS_row w n, fun _ => 0, fun i hi => by omega, fun i hi => by omega, fun i hi => by omega, fun i hi => by omega, fun i j hij hj => by omega⟩, (Below.refl _ _).alloc (Nat.le_refl _) _⟩
 case round =>
  obtain ⟨k, hk, rfl, ⟨f, hrow, HF⟩, hbw⟩ := hrel
  have hs := hrow.lt
  by_cases hlt : k < n
  ·have hlt' : (k : Int) < (n : Int) := by omega
   have HB : Hid (Below W.heap.size W wr) := HW.out.trans (hbw.mono HW.out.size)
   obtain ⟨b, off, rfl, ck⟩ := (HA.out.row.below HB.out).at hlt
   have HR : Hid (wr.rowIs w.heap.size 96 n f) := hrow
   clear hrow
   go_wp2_with fail
   refine (HA.out.cop k hlt wr HB.out).mono ?_
   rintro e w1 ⟨rfl, hi1, hz1, hb1, hf1⟩
   have hr1 : w1.rowIs w.heap.size 96 n f := HR.out.of_block (hb1.block _ hs)
   have f0 := hr1.frozen k
   have g0 := hr1.cell (i := k) hlt
   have HR1 : Hid (w1.rowIs w.heap.size 96 n f) := hr1
   have HF1 : Hid (∃ bs, FillItem (w1.setCell ⟨w.heap.size, k, none⟩ (.slice (some ⟨wr.heap.size, 0, none⟩) (ls k) (ls k))) w.heap.size (k + 1) (fun i => if i = k then .slice (some ⟨wr.heap.size, 0, none⟩) (ls k) (ls k) else f i) ls bs h) := by
    obtain ⟨bs, o⟩ := HF.out
    exact ⟨_, o.step hb1 hs hz1 hi1 hf1 _⟩
   clear hr1 hi1 HF HR hf1
   go_wp2_with fail
   exact ⟨⟨k + 1, by omega, by go_num, ⟨_, HR1.out.set _ _, HF1.out⟩, (hbw.trans (hb1.mono (Nat.le_of_lt hs))).setCell (Nat.le_refl _) _⟩, by simp [intOf]; omega⟩
  ·have hkl : k = n := by omega
   have HO : Hid (∃ bs, OutItem wr w.heap.size wr.heap.size n ls bs h) := by
    obtain ⟨bs, o⟩ := HF.out
    rw [hkl] at o
    exact ⟨bs, fun i hi => by rw [hrow.cell hi, o.cel i hi], o.bd, o.row, o.fr, o.up, Nat.le_refl _, hs⟩
   clear hkl HF hrow
   go_wp2
   go_ret
   exact ⟨rfl, HO.out, hbw⟩
theorem eqItemSS_same (D1 h1 D2 h2 n c1 c2 : Nat) (ls b1 b2 : Nat → Nat) (h : Nat → Nat → I2) (w : World) (hn : n ≤ 1048576) (hl : ∀ i, i < n → ls i ≤ 1048576) (o1 : OutItem w D1 h1 n ls b1 h) (o2 : OutItem w D2 h2 n ls b2 h) :
  Calls Tryz.prog 34 #[.slice (some ⟨D1, 0, none⟩) n c1, .slice (some ⟨D2, 0, none⟩) n c2] w fun e w' => e = .returned (.bool true) ∧ Below w.heap.size w w' := by
 have hl' : (n : Int) ≤ 1048576 := by omega
 have O1 : Hid (OutItem w D1 h1 n ls b1 h) := o1
 have O2 : Hid (OutItem w D2 h2 n ls b2 h) := o2
 have HL : Hid (∀ i, i < n → ls i ≤ 1048576) := hl
 clear o1 o2 hl
 go_enter Tryz.func34, Tryz.ntmps34
 go_wp2_with fail
 go_loopw [5] (fun i wr => ∃ k : Nat, k ≤ n ∧ i = .int .i64 k ∧ Below w.heap.size w wr) (fun i _ => n - (intOf i).toNat)
 case atStart => exact ⟨0, Nat.zero_le _, rfl, Below.refl _ _⟩
 case round =>
  obtain ⟨k, hk, rfl, hbw⟩ := hrel
  have hs := hbw.size
  by_cases hlt : k < n
  ·have P1 : Hid (OutItem wr D1 h1 n ls b1 h) := O1.out.below hbw O1.out.le
   have P2 : Hid (OutItem wr D2 h2 n ls b2 h) := O2.out.below hbw O2.out.le
   have ck := P1.out.cel k hlt
   have dk := P2.out.cel k hlt
   have hlt' : (k : Int) < (n : Int) := by omega
   go_wp2_with fail
   first | (go_region_with (go_at_call 63; refine (eqItemS_same (b1 k) (b2 k) (ls k) (ls k) (ls k) (h k) wr.drew (HL.out k hlt) (Nat.lt_of_lt_of_le (P1.out.bd k hlt).2 P1.out.le) (Nat.lt_of_lt_of_le (P2.out.bd k hlt).2 P2.out.le) (P1.out.row k hlt) (P2.out.row k hlt)).mono ?_; rintro e w1 ⟨rfl, hq1⟩)) | fail
   all_goals
    go_wp2
    go_roundw
    case rel => exact ⟨k + 1, by omega, by go_num, hbw.drew.trans (hq1.mono hs)⟩
    case measure => simp [intOf]; omega
  ·go_wp2
   go_ret
   exact ⟨rfl, hbw⟩
theorem markItemSS_any (D hi n cap : Nat) (ls bs : Nat → Nat) (h : Nat → Nat → I2) (k : Int) (w : World) (hn : n ≤ 1048576) (hl : sumL ls n ≤ 1048576) (k0 : 0 ≤ k) (k1 : k ≤ 50000000) (o : OutItem w D hi n ls bs h) :
  Calls Tryz.prog 38 #[.slice (some ⟨D, 0, none⟩) n cap, .int .i64 k] w fun e w' => e = .returned (.int .i64 (k + 2 * (sumL ls n : Nat))) ∧ Touch (fun b => D < b ∧ b < hi) w w' := by
 have hl' : (n : Int) ≤ 1048576 := by omega
 have O : Hid (OutItem w D hi n ls bs h) := o
 have HL : Hid (sumL ls n ≤ 1048576) := hl
 clear o hl
 go_enter Tryz.func38, Tryz.ntmps38
 go_wp2_with fail
 go_loopw [1, 5] (fun q i wr => ∃ j : Nat, j ≤ n ∧ i = .int .i64 j ∧ q = .int .i64 (k + 2 * (sumL ls j : Nat)) ∧ Hid (Touch (fun b => ∃ t, t < j ∧ b = bs t) w wr)) (fun _ i _ => n - (intOf i).toNat)
 case atStart => exact ⟨0, Nat.zero_le _, rfl, by simp [sumL], Touch.refl _ _⟩
 case round =>
  obtain ⟨j, hj, rfl, rfl, HT⟩ := hrel
  by_cases hlt : j < n
  ·have hlt' : (j : Int) < (n : Int) := by omega
   have dD : ¬ ∃ t, t < j ∧ D = bs t := by
    rintro ⟨t, ht, e⟩
    have := (O.out.bd t (by omega)).1
    omega
   have dJ : ¬ ∃ t, t < j ∧ bs j = bs t := by
    rintro ⟨t, ht, e⟩
    have := O.out.up t j ht hlt
    omega
   have bJ := O.out.bd j hlt
   have le := O.out.le
   have ck : wr.cell? ⟨D, j, none⟩ = some (.slice (some ⟨bs j, 0, none⟩) (ls j) (ls j)) := (HT.out.cell (Nat.lt_of_lt_of_le O.out.lt le) dD j).trans (O.out.cel j hlt)
   have RM : Hid (RoomT wr (bs j) (ls j)) := by
    have hb : wr.heap[bs j]? = w.heap[bs j]? := HT.out.block (bs j) (by omega) dJ
    have hrm : RoomT w (bs j) (ls j) := RoomT.of_it (O.out.row j hlt) (O.out.fr j hlt)
    exact ⟨fun i hi => (hrm.1 i hi).elim fun u e => ⟨u, (World.cell?_of_block hb).trans e⟩, fun i => (World.frozen?_of_block hb).trans (hrm.2 i)⟩
   have hsl := sumL_at ls hlt
   have hS := HL.out
   have e1 : k + 2 * (sumL ls j : Nat) + 2 * (ls j : Int) = k + 2 * (sumL ls (j + 1) : Nat) := by simp only [sumL]; omega
   have HE : Hid (k + 2 * (sumL ls j : Nat) + 2 * (ls j : Int) = k + 2 * (sumL ls (j + 1) : Nat)) := e1
   have e2 : 0 ≤ k + 2 * (sumL ls j : Nat) := by omega
   have e3 : k + 2 * (sumL ls j : Nat) ≤ 100000000 := by omega
   have e4 : ls j ≤ 1048576 := by omega
   clear dD bJ le e1 hS hsl
   go_wp2_with fail
   refine (markItemS_any (bs j) (ls j) (ls j) _ wr e4 e2 e3 RM.out).mono ?_
   rintro e w1 ⟨rfl, g1⟩
   rw [HE.out]
   have HT1 : Hid (Touch (fun b => ∃ t, t < j + 1 ∧ b = bs t) w w1) := (HT.out.mono fun b ⟨t, ht, e⟩ => ⟨t, by omega, e⟩).trans (Touch.of_grown g1 fun b e => ⟨j, by omega, by simpa using e.symm⟩)
   clear HT dJ RM e2 e3 e4 g1
   go_wp2
   go_roundw
   case rel => exact ⟨j + 1, by omega, by go_num, rfl, HT1.out⟩
   case measure => simp [intOf]; omega
  ·have hkl : j = n := by omega
   subst hkl
   have HT1 : Hid (Touch (fun b => D < b ∧ b < hi) w wr) := HT.out.mono fun b ⟨t, ht, e⟩ => by
    subst e
    exact O.out.bd t ht
   clear HT
   go_wp2
   go_ret
   exact ⟨rfl, HT1.out⟩
theorem open_ItemSS {H : Type} {enc : TypeId × Value → H} {w : World} {spare : Nat → Bool} {held : Bool} {base : Nat} {a0 : Option Addr} {len cap : Nat} {d : DataW H} {p : List MemPlace}
  (h : DataW.Trod enc Tryz.prog w base spare held 24 (.slice a0 len cap) d p) :
  len ≤ maxLen ∧ ∃ aa ls cs, RowS w a0 len (fun i => .slice (aa i) (ls i) (cs i)) ∧ (∀ i, i < len → ls i ≤ maxLen) ∧ ((∀ i, i < len → ls i ≤ 1048576) → ∃ hh, AllItem w a0 len aa ls cs hh) := by
 obtain ⟨hm, f, hrow, hf⟩ := open_rows Tryz.underlying24 (el := 82) (by kernel_rfl) h
 refine ⟨hm, ?_⟩
 have hpart : ∀ i, i < len → ∃ x : Option Addr × Nat × Nat, f i = .slice x.1 x.2.1 x.2.2 ∧ x.2.1 ≤ maxLen ∧ (x.2.1 ≤ 1048576 → ∃ g, CopiesT w x.1 x.2.1 x.2.2 g) := by
  intro i hi
  obtain ⟨m, x, hx⟩ := hf i hi
  have hsl : ∃ a l c, f i = .slice a l c := by
   rcases Go.Deep.open_slice Tryz.underlying82 hx with ⟨hcs, _⟩ | ⟨a, len', cap', m, n, D, Pl, hcs, _⟩
   ·simp at hcs
    exact ⟨_, _, _, hcs⟩
   ·simp at hcs
    exact ⟨_, _, _, hcs⟩
  obtain ⟨a, l, c, e⟩ := hsl
  rw [e] at hx
  obtain ⟨h1, h2⟩ := open_itRow (d := x.1) (p := x.2) (a0 := a) (len := l) (cap := c) ⟨m, by simpa [Value.cells] using hx⟩
  exact ⟨(a, l, c), e, h1, fun hs => copiesT_of hs h2⟩
 obtain ⟨g, hg⟩ := Go.Deep.choose_lt (α := Option Addr × Nat × Nat) hpart
 refine ⟨fun i => (g i).1, fun i => (g i).2.1, fun i => (g i).2.2, ?_, fun i hi => (hg i hi).2.1, fun hs => ?_⟩
 ·rcases hrow with h0 | ⟨b, off, e, hlt, hc⟩
  ·exact .inl h0
  ·exact .inr ⟨b, off, e, hlt, fun i hi => (hc i hi).trans (by rw [(hg i hi).1])⟩
 ·have hq : ∀ i, i < len → ∃ q : Nat → I2, CopiesT w (g i).1 (g i).2.1 (g i).2.2 q := fun i hi => (hg i hi).2.2 (hs i hi)
  have inh : Inhabited (Nat → I2) := ⟨fun _ => ⟨false, 0⟩⟩
  obtain ⟨hh, hhh⟩ := Go.Deep.choose_lt (α := Nat → I2) hq
  refine ⟨hh, ?_, hhh⟩
  rcases hrow with h0 | ⟨b, off, e, hlt, hc⟩
  ·exact .inl h0
  ·exact .inr ⟨b, off, e, hlt, fun i hi => (hc i hi).trans (by rw [(hg i hi).1])⟩
theorem open_stateCells {H : Type} {enc : TypeId × Value → H} {w : World} {base fuel : Nat} {held : Bool} {c0 c1 c2 c3 : Value} {x : DataW H × List MemPlace}
  (hf' : DataW.trod enc Tryz.prog w base (fun _ => true) held fuel 80 [c0, c1, c2, c3] = some x) :
  ∃ q : St8, (c0 = .int .i64 q.p ∧ c1 = .slice q.ra q.rs.length q.rc ∧ c2 = .slice q.oa q.os.length q.oc ∧ c3 = .int .i64 q.c) ∧ (q.rs.length ≤ maxLen ∧ q.os.length ≤ maxLen) ∧ Sl w q.ra q.rs ∧ Sl w q.oa q.os := by
 obtain ⟨xs, m, -, -, -, hl, hx⟩ := DataW.trod_struct Tryz.underlying80 hf'
 have hl : xs.length = 4 := hl
 have q0 : DataW.trod enc Tryz.prog w base (fun _ => true) held m 3 [c0] = xs[0]? := by simpa [cellsInt] using hx 0 _ rfl
 have q1 : DataW.trod enc Tryz.prog w base (fun _ => true) held m 29 [c1] = xs[1]? := by simpa [cellsInts] using hx 1 _ rfl
 have q2 : DataW.trod enc Tryz.prog w base (fun _ => true) held m 29 [c2] = xs[2]? := by simpa [cellsInts] using hx 2 _ rfl
 have q3 : DataW.trod enc Tryz.prog w base (fun _ => true) held m 3 [c3] = xs[3]? := by simpa [cellsInt] using hx 3 _ rfl
 rw [List.getElem?_eq_getElem (by omega)] at q0 q1 q2 q3
 obtain ⟨z0, e0, -, -⟩ := DataW.trod_int Tryz.underlying3 q0
 obtain ⟨z3, e3, -, -⟩ := DataW.trod_int Tryz.underlying3 q3
 obtain ⟨ra, rc, rs, rfl, hr, h1⟩ := open_intRow q1
 obtain ⟨oa, oc, os, rfl, ho, h2⟩ := open_intRow q2
 simp only [List.cons.injEq, and_true] at e0 e3
 subst e0 e3
 exact ⟨⟨z0, ra, rc, rs, oa, oc, os, z3⟩, ⟨rfl, rfl, rfl, rfl⟩, ⟨hr, ho⟩, h1, h2⟩
theorem open_StateS {H : Type} {enc : TypeId × Value → H} {w : World} {held : Bool} {base : Nat} {a0 : Option Addr} {len cap : Nat} {d : DataW H} {p : List MemPlace}
  (h : DataW.Trod enc Tryz.prog w base (fun _ => true) held 23 (.slice a0 len cap) d p) :
  len ≤ maxLen ∧ ∃ q, AllState w a0 len q ∧ ∀ i, i < len → (q i).rs.length ≤ maxLen ∧ (q i).os.length ≤ maxLen := by
 obtain ⟨fuel, hf⟩ := h
 have inh : Inhabited St8 := ⟨⟨0, none, 0, [], none, 0, [], 0⟩⟩
 rcases Go.Deep.open_slice Tryz.underlying23 hf with ⟨hcs, _⟩ | ⟨a, len', cap', m, n, D, Pl, hcs, _, hl, hm, hmm, _, hx⟩
 ·simp [Value.cells] at hcs
  obtain ⟨_, rfl, _⟩ := hcs
  exact ⟨Nat.zero_le _, fun _ => default, ⟨.inl rfl, fun i hi => by omega⟩, fun i hi => by omega⟩
 ·simp [Value.cells] at hcs
  obtain ⟨rfl, rfl, rfl⟩ := hcs
  refine ⟨Nat.le_trans hl hm, ?_⟩
  have hle : len ≤ m := by rw [hmm]; split <;> omega
  rw [cellsLawState] at hx
  obtain ⟨b, off, spot⟩ := a
  have hcell : ∀ i, i < len → ∃ q : St8, (w.cell? (Addr.add (Addr.add ⟨b, off, spot⟩ (i * 4)) 0) = some (.int .i64 q.p) ∧ w.cell? (Addr.add (Addr.add ⟨b, off, spot⟩ (i * 4)) 1) = some (.slice q.ra q.rs.length q.rc) ∧ w.cell? (Addr.add (Addr.add ⟨b, off, spot⟩ (i * 4)) 2) = some (.slice q.oa q.os.length q.oc) ∧ w.cell? (Addr.add (Addr.add ⟨b, off, spot⟩ (i * 4)) 3) = some (.int .i64 q.c)) ∧ (q.rs.length ≤ maxLen ∧ q.os.length ≤ maxLen) ∧ Sl w q.ra q.rs ∧ Sl w q.oa q.os := by
   intro i hi
   obtain ⟨cs', h1, h2⟩ := hx i (by omega)
   obtain ⟨_, hlen, hc⟩ := World.cells?_some h1
   match cs', hlen with
   | [c0, c1, c2, c3], _ =>
    obtain ⟨q, ⟨rfl, rfl, rfl, rfl⟩, hb, hs⟩ := open_stateCells h2
    exact ⟨q, ⟨hc 0 (by omega), hc 1 (by omega), hc 2 (by omega), hc 3 (by omega)⟩, hb, hs⟩
  obtain ⟨g, hg⟩ := Go.Deep.choose_lt (α := St8) hcell
  refine ⟨g, ⟨?_, fun i hi => (hg i hi).2.2⟩, fun i hi => (hg i hi).2.1⟩
  by_cases h0 : len = 0
  ·exact .inl h0
  have hspot : spot = none := by
   have hx0 := (hg 0 (by omega)).1.1
   simpa [Addr.add] using World.cell?_spot hx0
  subst hspot
  have hI : ∀ i, i < len → w.cell? ⟨b, off + i * 4, none⟩ = some (.int .i64 (g i).p) ∧ w.cell? ⟨b, off + i * 4 + 1, none⟩ = some (.slice (g i).ra (g i).rs.length (g i).rc) ∧ w.cell? ⟨b, off + i * 4 + 2, none⟩ = some (.slice (g i).oa (g i).os.length (g i).oc) ∧ w.cell? ⟨b, off + i * 4 + 3, none⟩ = some (.int .i64 (g i).c) := by
   intro i hi
   obtain ⟨⟨q0, q1, q2, q3⟩, -⟩ := hg i hi
   rw [addr_addO, addr_addO] at q0 q1 q2 q3
   exact ⟨q0, q1, q2, q3⟩
  exact .inr ⟨b, off, rfl, cell_lt (hI 0 (by omega)).1, hI⟩
open Go.Sort
theorem Touch.set {P : Nat → Prop} {w w' : World} (h : Touch P w w') {a : Addr} (ha : P a.block) (u : Value) : Touch P w (w'.setCell a u) := h.trans (Touch.of_set w' ha u)
theorem Touch.sets {P : Nat → Prop} {b : Nat} (hb : P b) : ∀ (vs : List Value) (o : Nat) {w w' : World}, Touch P w w' → Touch P w (w'.setCells b o vs)
 | [], _, _, _, h => h
 | v :: r, o, _, _, h => Touch.sets hb r (o + 1) (h.set (a := ⟨b, o, none⟩) hb v)
theorem infoHis : (Tryz.prog.info? 103).map (·.size) = some 21 := by kernel_rfl
theorem rowBack (X Bf Hb : Nat) (w : World) (cs : List Value) (hl : cs.length = 21) (h1 : ∀ v ∈ cs, v.oneCell' = true) (hB : w.rangeAt Bf 0 cs) (hT : w.there X 4 21) (hH : w.cell? ⟨Hb, 0, none⟩ = some (.pointer (some ⟨X, 4, none⟩))) (u : FrameMode) :
  CallsD Tryz.prog 107 #[.pointer (some ⟨Bf, 0, none⟩), .pointer (some ⟨Hb, 0, none⟩)] u w fun e u' w' => u' = u ∧ (e = .returned (.tuple #[]) ∧ Touch (fun b => b = X) w w') := by
 have HB : Hid (w.rangeAt Bf 0 cs) := hB
 have HT : Hid (w.there X 4 cs.toArray.size) := by rw [show cs.toArray.size = 21 by simp [hl]]; exact hT
 have HI : Hid ((Tryz.prog.info? 103).map (·.size) = some cs.length) := by rw [hl]; exact infoHis
 have HO : Hid (cs.toArray.all (·.oneCell') = true) := all_oneCell_toArray h1
 clear hB hT h1 hl
 go_enter_d Tryz.func107, Tryz.ntmps107
 go_wp2_with (first | (refine wpList_load_mid rfl 103 (.tmp 0) rfl Bf 0 rfl cs _ HB.out Tryz.underlying103 rfl HI.out ?_) | (refine wpList_store_mid rfl 103 (.tmp 4) (.tmp 3) rfl X 4 cs.toArray rfl rfl HT.out (by simpa using HI.out) HO.out ?_))
 go_end0
 exact ⟨rfl, Touch.sets (P := fun b => b = X) rfl _ _ (Touch.refl _ _)⟩
def hisL (ha : Option Addr) (hc : Nat) (y : Hs) (d : Nat → Nat) : List Value :=
 [.slice ha y.n hc, .int .i64 (d 0), .int .i64 (d 1), .int .i64 (d 2), .int .i64 (d 3),
  .int .i64 (y.opn d 0 0), .int .i64 (y.opn d 0 1), .int .i64 (y.opn d 0 2), .int .i64 (y.opn d 0 3), .int .i64 (y.opn d 1 0), .int .i64 (y.opn d 1 1), .int .i64 (y.opn d 1 2), .int .i64 (y.opn d 1 3),
  .int .i64 (y.opn d 2 0), .int .i64 (y.opn d 2 1), .int .i64 (y.opn d 2 2), .int .i64 (y.opn d 2 3), .int .i64 (y.opn d 3 0), .int .i64 (y.opn d 3 1), .int .i64 (y.opn d 3 2), .int .i64 (y.opn d 3 3)]
theorem HisP.range {w : World} {X : Nat} {ha : Option Addr} {hc : Nat} {y : Hs} {d : Nat → Nat} (h : HisP w X ha hc y d) : w.rangeAt X 4 (hisL ha hc y d) := by
 intro j v hj
 have hl : j < 21 := by
  have := (List.getElem?_eq_some_iff.1 hj).1
  simpa [hisL] using this
 match j, hl, hj with
 | 0, _, hj => rw [← hj]; exact h.c4
 | 1, _, hj => rw [← hj]; exact h.pt 0 (by omega)
 | 2, _, hj => rw [← hj]; exact h.pt 1 (by omega)
 | 3, _, hj => rw [← hj]; exact h.pt 2 (by omega)
 | 4, _, hj => rw [← hj]; exact h.pt 3 (by omega)
 | 5, _, hj => rw [← hj]; exact h.op 0 0 (by omega) (by omega)
 | 6, _, hj => rw [← hj]; exact h.op 0 1 (by omega) (by omega)
 | 7, _, hj => rw [← hj]; exact h.op 0 2 (by omega) (by omega)
 | 8, _, hj => rw [← hj]; exact h.op 0 3 (by omega) (by omega)
 | 9, _, hj => rw [← hj]; exact h.op 1 0 (by omega) (by omega)
 | 10, _, hj => rw [← hj]; exact h.op 1 1 (by omega) (by omega)
 | 11, _, hj => rw [← hj]; exact h.op 1 2 (by omega) (by omega)
 | 12, _, hj => rw [← hj]; exact h.op 1 3 (by omega) (by omega)
 | 13, _, hj => rw [← hj]; exact h.op 2 0 (by omega) (by omega)
 | 14, _, hj => rw [← hj]; exact h.op 2 1 (by omega) (by omega)
 | 15, _, hj => rw [← hj]; exact h.op 2 2 (by omega) (by omega)
 | 16, _, hj => rw [← hj]; exact h.op 2 3 (by omega) (by omega)
 | 17, _, hj => rw [← hj]; exact h.op 3 0 (by omega) (by omega)
 | 18, _, hj => rw [← hj]; exact h.op 3 1 (by omega) (by omega)
 | 19, _, hj => rw [← hj]; exact h.op 3 2 (by omega) (by omega)
 | 20, _, hj => rw [← hj]; exact h.op 3 3 (by omega) (by omega)
theorem hisL_one {ha : Option Addr} {hc : Nat} {y : Hs} {d : Nat → Nat} : ∀ v ∈ hisL ha hc y d, v.oneCell' = true := by
 intro v hv
 simp only [hisL, List.mem_cons, List.not_mem_nil, or_false] at hv
 rcases hv with rfl | rfl | rfl | rfl | rfl | rfl | rfl | rfl | rfl | rfl | rfl | rfl | rfl | rfl | rfl | rfl | rfl | rfl | rfl | rfl | rfl <;> rfl
theorem HisP.thereX {w : World} {X : Nat} {ha : Option Addr} {hc : Nat} {y : Hs} {d : Nat → Nat} (h : HisP w X ha hc y d) : w.there X 4 21 := fun j hj => ⟨h.range.isSome j (by simpa [hisL] using hj), h.fr _⟩
theorem sumL_same {d e : Nat → Nat} : ∀ {n : Nat}, (∀ i, i < n → d i = e i) → sumL d n = sumL e n
 | 0, _ => rfl
 | n + 1, h => by
  show sumL d n + d n = sumL e n + e n
  rw [sumL_same fun i hi => h i (by omega), h n (by omega)]
theorem sumL_zero : ∀ n, sumL (fun _ => 0) n = 0
 | 0 => rfl
 | n + 1 => sumL_zero n
theorem sumL_up {d : Nat → Nat} {k : Nat} : ∀ {n : Nat}, k < n → sumL (up d k) n = sumL d n + 1
 | 0, h => by omega
 | n + 1, h => by
  show sumL (up d k) n + up d k n = sumL d n + d n + 1
  by_cases e : k = n
  ·subst e
   rw [up_same]
   have : sumL (up d k) k = sumL d k := sumL_same fun i hi => up_other (by omega)
   omega
  ·rw [sumL_up (by omega), up_other (by omega)]
   omega
theorem sumL_le {d l : Nat → Nat} (h : ∀ i, d i ≤ l i) : ∀ n, sumL d n ≤ sumL l n
 | 0 => Nat.le_refl _
 | n + 1 => by
  have := sumL_le h n
  have := h n
  show sumL d n + d n ≤ sumL l n + l n
  omega
structure Rw (w0 W wr : World) (X Bf Hb : Nat) (ha : Option Addr) (hc : Nat) (y : Hs) (cs : List Value) (d : Nat → Nat) : Prop where
 pu : y.Put d
 hp : HisP wr X ha hc y d
 be : Below w0.heap.size w0 wr
 hb : wr.cell? ⟨Hb, 0, none⟩ = some (.pointer (some ⟨X, 4, none⟩))
 bf : wr.rangeAt Bf 0 cs
theorem rangeAt_touch {P : Nat → Prop} {w w' : World} {b o : Nat} {cs : List Value} (h : w.rangeAt b o cs) (t : Touch P w w') (hb : ¬ P b) : w'.rangeAt b o cs := fun j v hv => by
 have := h j v hv
 rw [t.cell (World.block_lt_of_cell? w _ this) hb]
 exact this
theorem Rw.touch {w0 W wr w' : World} {X Bf Hb : Nat} {ha : Option Addr} {hc : Nat} {y : Hs} {cs : List Value} {d d' : Nat → Nat} (h : Rw w0 W wr X Bf Hb ha hc y cs d) (t : Touch (fun b => b = X) wr w') (hX : w0.heap.size ≤ X) (hB : Bf ≠ X) (hH : Hb ≠ X) (pu : y.Put d') (hp : HisP w' X ha hc y d') : Rw w0 W w' X Bf Hb ha hc y cs d' :=
 ⟨pu, hp, h.be.trans (t.below h.be.size fun b e => by omega), (t.cell (World.block_lt_of_cell? wr _ h.hb) hH 0).trans h.hb, rangeAt_touch h.bf t hB⟩
theorem canRow_any (X : Nat) (ha : Option Addr) (hc : Nat) (hA : Nat → Option Addr) (hC : Nat → Nat) (y : Hs) (w0 w : World) (hE : HisE w0 ha hA hC y) (hb : Below w0.heap.size w0 w) (hX : w0.heap.size ≤ X) (hP : HisP w X ha hc y (fun _ => 0)) (h4 : y.n ≤ 4) (hp : y.Peers) (hl : ∀ i, i < y.n → y.l i ≤ 200) :
  Calls Tryz.prog 88 #[.pointer (some ⟨X, 4, none⟩)] w fun e w' => e = .returned (.bool (qB y.Row)) ∧ Below w0.heap.size w0 w' := by
 have HE : Hid (HisE w0 ha hA hC y) := hE
 have HH : Hid (y.Peers ∧ (∀ i, i < y.n → y.l i ≤ 200) ∧ w0.heap.size ≤ X) := ⟨hp, hl, hX⟩
 have zX := hP.lt
 obtain ⟨cs, hcs, hlen, hone⟩ : ∃ cs, w.rangeAt X 4 cs ∧ cs.length = 21 ∧ ∀ v ∈ cs, v.oneCell' = true := ⟨_, hP.range, rfl, hisL_one⟩
 have hsz : cs.toArray.size = 21 := by simpa using hlen
 have HL21 : Hid (cs.length = 21 ∧ ∀ v ∈ cs, v.oneCell' = true) := ⟨hlen, hone⟩
 have HI : Hid ((Tryz.prog.info? 103).map (·.size) = some cs.length) := by rw [hlen]; exact infoHis
 have HR : Hid ((w.alloc (.cells #[.pointer (some ⟨X, 4, none⟩)] 142)).rangeAt X 4 cs) := World.rangeAt_alloc hcs _
 have HO : Hid (cs.toArray.all (·.oneCell') = true) := all_oneCell_toArray hone
 have hmf : ∀ (fn : Fn) (first cap : Array Value) (w : World), (Instr.makeFunc fn first cap).run Tryz.prog w = .ok (.func fn first cap) w := fun _ _ _ _ => rfl
 have HT : Hid (((w.alloc (.cells #[.pointer (some ⟨X, 4, none⟩)] 142)).alloc (zQ0)).there (w.heap.size + 1) 0 cs.toArray.size) := fun j hj => by
  have hj' : j < 21 := by rw [← hsz]; exact hj
  refine ⟨?_, new_frozen _ _ _ _ (by simp)⟩
  rw [Nat.zero_add, new_cell _ _ _ j (by simp), Array.getElem?_eq_getElem (by simpa using hj')]
  rfl
 have tw : Touch (fun b => b = w.heap.size + 1) w (((w.alloc (.cells #[.pointer (some ⟨X, 4, none⟩)] 142)).alloc (zQ0)).setCells (w.heap.size + 1) 0 cs) := Touch.sets (P := fun b => b = w.heap.size + 1) rfl _ _ (Touch.of_below ((below_alloc _ _).trans ((below_alloc _ _).mono (by simp))))
 have HRw : Hid (Rw w0 w (((w.alloc (.cells #[.pointer (some ⟨X, 4, none⟩)] 142)).alloc (zQ0)).setCells (w.heap.size + 1) 0 cs) X (w.heap.size + 1) w.heap.size ha hc y cs (fun _ => 0)) := by
  refine ⟨.start, hP.blk (tw.block X zX (by omega)), hb.trans (tw.below hb.size fun b e => by have := hb.size; omega), ?_, World.rangeAt_setCells_same _ _ _ _ (by simpa using HT.out)⟩
  rw [World.cell?_setCells_out _ _ _ _ _ (fun e => absurd e (by simp)), World.cell?_alloc_lt _ _ _ (by simp)]
  exact new_cell _ _ _ 0 rfl
 have HX : Hid (X < w.heap.size) := zX
 clear hE hp hl hX tw hb hP zX hlen hsz hcs hone
 go_enter_defers Tryz.func88, Tryz.ntmps88
 have h0 := HRw.out.hb
 go_wp2_with (first | (refine wpList_load_mid rfl 103 (.tmp 6) rfl X 4 rfl cs _ HR.out Tryz.underlying103 rfl HI.out ?_) | (refine wpList_store_mid rfl 103 (.tmp 3) (.tmp 7) rfl (w.heap.size + 1) 0 cs.toArray rfl rfl HT.out (by simpa using HI.out) HO.out ?_))
 clear HR HT HI HO
 generalize ((w.alloc (.cells #[.pointer (some ⟨X, 4, none⟩)] 142)).alloc (zQ0)).setCells (w.heap.size + 1) 0 cs = W1 at *
 have nX : Hid (w.heap.size + 1 ≠ X ∧ w.heap.size ≠ X) := by
  have := HX.out
  exact ⟨by omega, by omega⟩
 refine (next_any X ha hc hA hC y (fun _ => 0) W1 (HE.out.below HRw.out.be) HRw.out.hp h4 HH.out.1 HH.out.2.1 HRw.out.pu.le).mono ?_
 rintro e w1 ⟨q1, hor⟩
 have HNx : Hid (Rw w0 w w1 X (w.heap.size + 1) w.heap.size ha hc y cs (fun _ => 0)) := HRw.out.touch (Touch.of_below q1) HH.out.2.2 nX.out.1 nX.out.2 HRw.out.pu (HRw.out.hp.below q1)
 obtain ⟨z, rfl, HOr⟩ : ∃ z : Int, e = .returned (.int .i64 z) ∧ Hid ((∃ k, k < y.n ∧ y.Can (fun _ => 0) k ∧ z = (k : Nat)) ∨ (z = -1 ∧ ∀ p, p < y.n → ¬ y.Can (fun _ => 0) p)) := by
  rcases hor with ⟨k, hk, hcan, rfl⟩ | ⟨rfl, hn⟩
  ·exact ⟨_, rfl, .inl ⟨k, hk, hcan, rfl⟩⟩
  ·exact ⟨_, rfl, .inr ⟨rfl, hn⟩⟩
 clear hor q1 h0 HRw
 go_wp2_with fail
 go_loopg [4] (sumL y.l y.n) (fun k p wr => ∃ d z, k = sumL y.l y.n - sumL d y.n ∧ p = .int .i64 z ∧ Rw w0 w wr X (w.heap.size + 1) w.heap.size ha hc y cs d ∧ Hid ((∃ k, k < y.n ∧ y.Can d k ∧ z = (k : Nat)) ∨ (z = -1 ∧ ∀ p, p < y.n → ¬ y.Can d p)))
 case atStart => exact ⟨_, z, by simp [sumL_zero], rfl, HNx.out, HOr.out⟩
 case round =>
  clear HNx HOr
  obtain ⟨d, zz, hgk, rfl, rw0, HOr⟩ := hrel
  have HRr : Hid (Rw w0 w wr X (w.heap.size + 1) w.heap.size ha hc y cs d) := rw0
  have h1 := rw0.hb
  have HG : Hid (gk = sumL y.l y.n - sumL d y.n) := hgk
  clear rw0 hgk
  rcases HOr.out with ⟨k, hk, hcan, rfl⟩ | ⟨rfl, hst⟩
  ·have HCn : Hid (y.Can d k) := hcan
   have hz : ¬ (k : Int) = -1 := by omega
   have hz' : ((k : Int) == -1) = false := by simp
   clear HOr hcan
   go_wp2_with fail
   refine (putOne_any X ha hc hA hC y d k wr (HE.out.below HRr.out.be) HRr.out.hp h4 hk HH.out.1 HH.out.2.1 HRr.out.pu.le HCn.out.1).mono ?_
   rintro e w1 ⟨rfl, hp1, t1⟩
   have hpu : y.Put (up d k) := .next HRr.out.pu hk HCn.out
   have HN : Hid (Rw w0 w w1 X (w.heap.size + 1) w.heap.size ha hc y cs (up d k)) := HRr.out.touch t1 HH.out.2.2 nX.out.1 nX.out.2 hpu hp1
   have HM : Hid (sumL y.l y.n - sumL (up d k) y.n < gk) := by
    have h2 := sumL_up (d := d) hk
    have h3 := sumL_le hpu.le y.n
    have h4 := HG.out
    show sumL y.l y.n - sumL (up d k) y.n < gk
    omega
   clear hp1 t1 hpu h1 HRr HG hz hz'
   generalize up d k = d2 at *
   have h1 := HN.out.hb
   go_wp2_with fail
   refine (next_any X ha hc hA hC y d2 w1 (HE.out.below HN.out.be) HN.out.hp h4 HH.out.1 HH.out.2.1 HN.out.pu.le).mono ?_
   rintro e w2 ⟨q2, hor⟩
   have HN2 : Hid (Rw w0 w w2 X (w.heap.size + 1) w.heap.size ha hc y cs d2) := HN.out.touch (Touch.of_below q2) HH.out.2.2 nX.out.1 nX.out.2 HN.out.pu (HN.out.hp.below q2)
   obtain ⟨z, rfl, HOr⟩ : ∃ z : Int, e = .returned (.int .i64 z) ∧ Hid ((∃ k, k < y.n ∧ y.Can d2 k ∧ z = (k : Nat)) ∨ (z = -1 ∧ ∀ p, p < y.n → ¬ y.Can d2 p)) := by
    rcases hor with ⟨k, hk, hcan, rfl⟩ | ⟨rfl, hn⟩
    ·exact ⟨_, rfl, .inl ⟨k, hk, hcan, rfl⟩⟩
    ·exact ⟨_, rfl, .inr ⟨rfl, hn⟩⟩
   clear hor q2 h1 HN
   go_wp2
   go_roundg (sumL y.l y.n - sumL d2 y.n)
   case measure => exact HM.out
   case rel => exact ⟨d2, z, rfl, rfl, HN2.out, HOr.out⟩
  ·have HRow : Hid (qB (y.All d) = qB y.Row) := by
    show qB (y.All d) = qB y.Row
    have hi := Hs.row_iff HRr.out.pu HH.out.1 hst
    by_cases hr : y.Row
    ·rw [qB_true hr, qB_true (hi.1 hr)]
    ·rw [qB_false hr, qB_false (fun h => hr (hi.2 h))]
   have HN : Hid (Rw w0 w wr X (w.heap.size + 1) w.heap.size ha hc y cs d) := HRr.out
   clear hst HG HOr HRr
   go_wp2_with fail
   refine (allPut_any X ha hc hA hC y d wr (HE.out.below HN.out.be) HN.out.hp h4 HH.out.2.1 HN.out.pu.le).mono ?_
   rintro e w2 ⟨rfl, b2⟩
   rw [HRow.out]
   have B2 : Hid (Below wr.heap.size wr w2) := b2
   clear b2 h1
   have HB2 : Hid (Below w0.heap.size w0 w2 ∧ w2.rangeAt (w.heap.size + 1) 0 cs ∧ w2.there X 4 21 ∧ w2.cell? ⟨w.heap.size, 0, none⟩ = some (.pointer (some ⟨X, 4, none⟩))) :=
    ⟨HN.out.be.trans (B2.out.mono HN.out.be.size), rangeAt_touch (P := fun _ => False) HN.out.bf (Touch.of_below B2.out) (fun h => h), (HN.out.hp.below B2.out).thereX, (B2.out.cell (p := ⟨w.heap.size, 0, none⟩) (World.block_lt_of_cell? wr _ HN.out.hb)).trans HN.out.hb⟩
   go_wp2
   refine leaves_cons (f := 107) (args := #[.pointer (some ⟨w.heap.size + 1, 0, none⟩), .pointer (some ⟨w.heap.size, 0, none⟩)]) (by simp) (by simp [go_sem]) ?_
   refine (rowBack X (w.heap.size + 1) w.heap.size w2 cs HL21.out.1 HL21.out.2 HB2.out.2.1 HB2.out.2.2.1 HB2.out.2.2.2 .returning).mono ?_
   rintro e u' w3 ⟨rfl, rfl, t3⟩
   exact ⟨_, results_tmp rfl _ _ _, rfl, HB2.out.1.trans (t3.below HB2.out.1.size fun b e => by have := HH.out.2.2; omega)⟩
end Go.Proofs.YtjbocfjeobkclaaGreatDoor
