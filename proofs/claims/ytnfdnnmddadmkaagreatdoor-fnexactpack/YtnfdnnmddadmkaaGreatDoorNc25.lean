/- The walks of the program's rows of events: putOne, next, allPut. -/
import Derived.Test.YtnfdnnmddadmkaaGreatDoorNc0
import Derived.Test.YtnfdnnmddadmkaaGreatDoorNc19
import Derived.Test.YtnfdnnmddadmkaaGreatDoorNc13
import Derived.Test.YtnfdnnmddadmkaaGreatDoorNc24
import Derived.Lib.QuietBelow
import Derived.BigRegion
import Derived.BigQuiet
namespace Go.Proofs.YtnfdnnmddadmkaaGreatDoor
set_option maxRecDepth 100000
set_option maxHeartbeats 2000000
open Go.ChangeShapes Go.WideShapes Go.ChangeAt Go.RowKit Go.Deep
theorem szInsS_smallL (a0 : Option Addr) (len cap : Nat) (L : Int) (w : World) (h : (len : Int) ≤ L) (hL : L ≤ 1048576) :
  Calls Tryz.prog 124 #[.slice a0 len cap, .int .i64 L] w fun e w' => e = .returned (.int .i64 (L - (len : Int))) ∧ w' = w := by
 have h1 : (len : Int) ≤ 1048576 := by omega
 have h2 : 0 ≤ L := by omega
 have h3 : ¬ (L - (len : Int) < 0) := by omega
 go_enter Tryz.func124, Tryz.ntmps124
 go_wp2
 go_ret
 exact ⟨rfl, rfl⟩
theorem szInsS_greatL (a0 : Option Addr) (len cap : Nat) (L : Int) (w : World) (h : L < (len : Int)) (h0 : 0 ≤ L) (hL : L ≤ 1048576) (hm : len ≤ maxLen) :
  Calls Tryz.prog 124 #[.slice a0 len cap, .int .i64 L] w fun e w' => e = .returned (.int .i64 (-1)) ∧ w' = w := by
 unfold maxLen at hm
 have h2 : (len : Int) ≤ 9223372036854775807 := by omega
 have h3 : L - (len : Int) < 0 := by omega
 go_enter Tryz.func124, Tryz.ntmps124
 go_wp2
 go_ret
 exact ⟨rfl, rfl⟩
structure OutIns (w : World) (D hi n : Nat) (ls : Nat → Nat) (bs : Nat → Nat) (h : Nat → Nat → I5) : Prop where
 cel : ∀ i, i < n → w.cell? ⟨D, i, none⟩ = some (.slice (some ⟨bs i, 0, none⟩) (ls i) (ls i))
 bd : ∀ i, i < n → D < bs i ∧ bs i < hi
 row : ∀ i, i < n → InsAt w (bs i) 0 (ls i) (h i)
 fr : ∀ i, i < n → ∀ j, w.frozen? ⟨bs i, j, none⟩ = false
 up : ∀ i j, i < j → j < n → bs i < bs j
 le : hi ≤ w.heap.size
 lt : D < hi
theorem OutIns.below {w w' : World} {D hi n B : Nat} {ls : Nat → Nat} {bs : Nat → Nat} {h : Nat → Nat → I5} (o : OutIns w D hi n ls bs h) (hb : Below B w w') (hB : hi ≤ B) : OutIns w' D hi n ls bs h :=
 ⟨fun i hi' => (hb.cell (p := ⟨D, i, none⟩) (Nat.lt_of_lt_of_le o.lt hB)).trans (o.cel i hi'), o.bd, fun i hi' => (o.row i hi').below hb (Nat.lt_of_lt_of_le (o.bd i hi').2 hB), fun i hi' j => (hb.frozen (p := ⟨bs i, j, none⟩) (Nat.lt_of_lt_of_le (o.bd i hi').2 hB)).trans (o.fr i hi' j), o.up, Nat.le_trans o.le hb.size, o.lt⟩
theorem OutIns.keep {w w' : World} {D hi n : Nat} {ls : Nat → Nat} {bs : Nat → Nat} {h : Nat → Nat → I5} (o : OutIns w D hi n ls bs h) (hs : w.heap.size ≤ w'.heap.size) (hb : ∀ k, D ≤ k → k < hi → w'.heap[k]? = w.heap[k]?) : OutIns w' D hi n ls bs h := by
 refine ⟨fun i hi' => (World.cell?_of_block (hb D (Nat.le_refl _) o.lt)).trans (o.cel i hi'), o.bd, fun i hi' => ?_, fun i hi' j => (World.frozen?_of_block (hb _ (Nat.le_of_lt (o.bd i hi').1) (o.bd i hi').2)).trans (o.fr i hi' j), o.up, Nat.le_trans o.le hs, o.lt⟩
 have hc : ∀ j, w'.cell? ⟨bs i, j, none⟩ = w.cell? ⟨bs i, j, none⟩ := fun j => World.cell?_of_block (hb _ (Nat.le_of_lt (o.bd i hi').1) (o.bd i hi').2)
 intro t ht
 have := o.row i hi' t ht
 simp only [hc]
 exact this
theorem szInsSS_small (a0 : Option Addr) (n cap : Nat) (aa : Nat → Option Addr) (ls cs : Nat → Nat) (L : Int) (w : World) (hr : RowS w a0 n fun i => .slice (aa i) (ls i) (cs i)) (h : (n : Int) + (sumL ls n : Nat) ≤ L) (hL : L ≤ 1048576) :
  Calls Tryz.prog 58 #[.slice a0 n cap, .int .i64 L] w fun e w' => e = .returned (.int .i64 (L - n - (sumL ls n : Nat))) ∧ w' = w := by
 have hn : (n : Int) ≤ 1048576 := by omega
 have h0 : 0 ≤ L := by omega
 have hn0 : ¬ (L - (n : Int) < 0) := by omega
 have HR : Hid (RowS w a0 n fun i => .slice (aa i) (ls i) (cs i)) := hr
 have HS : Hid ((n : Int) + (sumL ls n : Nat) ≤ L) := h
 clear hr h
 go_enter Tryz.func58, Tryz.ntmps58
 go_wp2_with fail
 go_loopw [1, 5] (fun q i wr => ∃ k : Nat, k ≤ n ∧ i = .int .i64 k ∧ q = .int .i64 (L - n - (sumL ls k : Nat)) ∧ wr = w) (fun _ i _ => n - (intOf i).toNat)
 case atStart => exact ⟨0, Nat.zero_le _, rfl, by simp [sumL], rfl⟩
 case round =>
  obtain ⟨k, hk, rfl, rfl, rfl⟩ := hrel
  by_cases hlt : k < n
  ·have hlt' : (k : Int) < (n : Int) := by omega
   obtain ⟨b, off, rfl, ck⟩ := HR.out.at hlt
   have hsl := sumL_at ls hlt
   have hS := HS.out
   have e1 : (L - n - (sumL ls k : Nat)) - (ls k : Int) = L - n - (sumL ls (k + 1) : Nat) := by simp only [sumL]; omega
   have HE : Hid ((L - n - (sumL ls k : Nat)) - (ls k : Int) = L - n - (sumL ls (k + 1) : Nat)) := e1
   have e2 : (ls k : Int) ≤ L - n - (sumL ls k : Nat) := by omega
   have e3 : ¬ (L - n - (sumL ls (k + 1) : Nat) < 0) := by omega
   have e4 : L - n - (sumL ls k : Nat) ≤ 1048576 := by omega
   clear e1 hS hsl
   generalize hy : L - n - (sumL ls (k + 1) : Nat) = Y at *
   go_wp2_with fail
   refine (szInsS_smallL _ _ _ _ _ e2 e4).mono ?_
   rintro e w1 ⟨rfl, rfl⟩
   rw [HE.out]
   clear e2 e4
   go_wp2
   go_roundw
   case rel => exact ⟨k + 1, by omega, by go_num, by rw [← hy], by trivial⟩
   case measure => simp [intOf]; omega
  ·have hkl : k = n := by omega
   subst hkl
   go_wp2
   go_ret
   exact ⟨rfl, rfl⟩
theorem szInsSS_great (a0 : Option Addr) (n cap : Nat) (aa : Nat → Option Addr) (ls cs : Nat → Nat) (L : Int) (w : World) (hr : RowS w a0 n fun i => .slice (aa i) (ls i) (cs i)) (h : L < (n : Int) + (sumL ls n : Nat)) (h0 : 0 ≤ L) (hL : L ≤ 1048576) (hm : n ≤ maxLen) (hl : ∀ i, i < n → ls i ≤ maxLen) :
  Calls Tryz.prog 58 #[.slice a0 n cap, .int .i64 L] w fun e w' => e = .returned (.int .i64 (-1)) ∧ w' = w := by
 have hm' : (n : Int) ≤ 9223372036854775807 := by unfold maxLen at hm; omega
 by_cases hn0 : L - (n : Int) < 0
 ·go_enter Tryz.func58, Tryz.ntmps58
  go_wp2
  go_ret
  exact ⟨rfl, rfl⟩
 have hn : (n : Int) ≤ 1048576 := by omega
 have HR : Hid (RowS w a0 n fun i => .slice (aa i) (ls i) (cs i)) := hr
 have HS : Hid (L < (n : Int) + (sumL ls n : Nat)) := h
 have HL : Hid (∀ i, i < n → ls i ≤ maxLen) := hl
 clear hr h hl hm
 go_enter Tryz.func58, Tryz.ntmps58
 go_wp2_with fail
 go_loopw [1, 5] (fun q i wr => ∃ k : Nat, k ≤ n ∧ i = .int .i64 k ∧ q = .int .i64 (L - n - (sumL ls k : Nat)) ∧ 0 ≤ L - n - (sumL ls k : Nat) ∧ wr = w) (fun _ i _ => n - (intOf i).toNat)
 case atStart => exact ⟨0, Nat.zero_le _, rfl, by simp [sumL], by simp only [sumL]; omega, rfl⟩
 case round =>
  obtain ⟨k, hk, rfl, rfl, hp, rfl⟩ := hrel
  by_cases hlt : k < n
  ·have hlt' : (k : Int) < (n : Int) := by omega
   obtain ⟨b, off, rfl, ck⟩ := HR.out.at hlt
   have hml := HL.out k hlt
   have e1 : (L - n - (sumL ls k : Nat)) - (ls k : Int) = L - n - (sumL ls (k + 1) : Nat) := by simp only [sumL]; omega
   have HE : Hid ((L - n - (sumL ls k : Nat)) - (ls k : Int) = L - n - (sumL ls (k + 1) : Nat)) := e1
   have e4 : L - n - (sumL ls k : Nat) ≤ 1048576 := by omega
   clear e1
   by_cases hb : (ls k : Int) ≤ L - n - (sumL ls k : Nat)
   ·have e3 : 0 ≤ L - n - (sumL ls (k + 1) : Nat) := by have := HE.out; omega
    have e3' : ¬ (L - n - (sumL ls (k + 1) : Nat) < 0) := by omega
    generalize hy : L - n - (sumL ls (k + 1) : Nat) = Y at *
    go_wp2_with fail
    refine (szInsS_smallL _ _ _ _ _ hb e4).mono ?_
    rintro e w1 ⟨rfl, rfl⟩
    rw [HE.out]
    clear hb e4 hml hp
    go_wp2
    go_roundw
    case rel => exact ⟨k + 1, by omega, by go_num, by rw [← hy], by omega, by trivial⟩
    case measure => simp [intOf]; omega
   ·have hb' : L - n - (sumL ls k : Nat) < (ls k : Int) := by omega
    go_wp2_with fail
    refine (szInsS_greatL _ _ _ _ _ hb' hp e4 hml).mono ?_
    rintro e w1 ⟨rfl, rfl⟩
    clear hb hb' e4 hml hp HE
    go_wp2
    go_ret
    exact ⟨rfl, rfl⟩
  ·have hkl : k = n := by omega
   subst hkl
   have := HS.out
   omega
theorem infoInsS : (Tryz.prog.info? 121).map (fun i => (i.zero, i.size, i.bytes)) = some (some (.slice none 0 0), 1, 24) := by kernel_rfl
theorem run_make_InsS (n : Nat) (hn : n ≤ 1048576) (w : World) :
  (Instr.makeSlice 24 (.int .i64 (n : Int)) (.int .i64 (n : Int))).run Tryz.prog w = .ok (.slice (some ⟨w.heap.size, 0, none⟩) n n) (w.alloc (.cells (madeCells #[.slice none 0 0] n) 121)) := by
 have hinfo := infoInsS
 cases hi : Tryz.prog.info? 121 with
 | none => rw [hi] at hinfo; cases hinfo
 | some i =>
  rw [hi] at hinfo
  simp only [Option.map_some, Option.some.injEq, Prod.mk.injEq] at hinfo
  obtain ⟨hz, hs, hb⟩ := hinfo
  have h := run_make (P := Tryz.prog) w 24 121 i _ Tryz.underlying24 hi hz .i64 .i64 (n : Int) (n : Int) (by omega) (Int.le_refl _) (by rw [hb]; omega) (by omega)
  rw [hs] at h
  simpa [Value.cells] using h
theorem madeInsS_row (w : World) (n : Nat) : (w.alloc (.cells (madeCells #[.slice none 0 0] n) 121)).rowIs w.heap.size 121 n (fun _ => .slice none 0 0) := by
 refine ⟨_, blk_alloc_new _ _, size_madeCells _ _, fun i hi => ?_⟩
 simp only [madeCells]
 rw [Array.getElem?_map, Array.getElem?_range, if_pos hi]
 have : i % 1 = 0 := Nat.mod_one i
 exact congrArg some (by simp [this])
structure FillIns (w : World) (D k : Nat) (f : Nat → Value) (ls : Nat → Nat) (bs : Nat → Nat) (h : Nat → Nat → I5) : Prop where
 cel : ∀ i, i < k → f i = .slice (some ⟨bs i, 0, none⟩) (ls i) (ls i)
 bd : ∀ i, i < k → D < bs i ∧ bs i < w.heap.size
 row : ∀ i, i < k → InsAt w (bs i) 0 (ls i) (h i)
 fr : ∀ i, i < k → ∀ j, w.frozen? ⟨bs i, j, none⟩ = false
 up : ∀ i j, i < j → j < k → bs i < bs j
theorem FillIns.step {w w1 : World} {D k : Nat} {f : Nat → Value} {ls : Nat → Nat} {bs : Nat → Nat} {h : Nat → Nat → I5} (o : FillIns w D k f ls bs h) (hb : Below w.heap.size w w1) (hD : D < w.heap.size) (hz : w.heap.size < w1.heap.size) (hr : InsAt w1 w.heap.size 0 (ls k) (h k)) (hf : ∀ j, w1.frozen? ⟨w.heap.size, j, none⟩ = false) (u : Value) :
  FillIns (w1.setCell ⟨D, k, none⟩ u) D (k + 1) (fun i => if i = k then .slice (some ⟨w.heap.size, 0, none⟩) (ls k) (ls k) else f i) ls (fun i => if i = k then w.heap.size else bs i) h := by
 have hs : ∀ b, b ≠ D → (w1.setCell ⟨D, k, none⟩ u).heap[b]? = w1.heap[b]? := fun b hne => Below.heap_setCell _ _ _ _ hne
 have hat : ∀ b n g, b ≠ D → InsAt w1 b 0 n g → InsAt (w1.setCell ⟨D, k, none⟩ u) b 0 n g := fun b n g hne hg => fun i hi => by
  have hc : ∀ j, (w1.setCell ⟨D, k, none⟩ u).cell? ⟨b, j, none⟩ = w1.cell? ⟨b, j, none⟩ := fun j => World.cell?_of_block (hs b hne)
  have := hg i hi
  simp only [hc]
  exact this
 refine ⟨fun i hi => ?_, fun i hi => ?_, fun i hi => ?_, fun i hi j => ?_, fun i j hij hj => ?_⟩
 ·by_cases e : i = k
  ·subst e; simp
  ·simp only [if_neg e]; exact o.cel i (by omega)
 ·by_cases e : i = k
  ·subst e; simp; omega
  ·simp only [if_neg e, World.size_setCell]; have := o.bd i (by omega); omega
 ·by_cases e : i = k
  ·subst e; simp only [if_true]; exact hat _ _ _ (by omega) hr
  ·simp only [if_neg e]; have hbd := o.bd i (by omega); exact hat _ _ _ (by omega) ((o.row i (by omega)).below hb hbd.2)
 ·by_cases e : i = k
  ·subst e; simp only [if_true]; rw [World.frozen?_setCell]; exact hf j
  ·simp only [if_neg e]; rw [World.frozen?_setCell]; have hbd := o.bd i (by omega); exact (hb.frozen (p := ⟨bs i, j, none⟩) hbd.2).trans (o.fr i (by omega) j)
 ·by_cases e : j = k
  ·have hi : i ≠ k := by omega
   simp only [if_neg hi, if_pos e]
   exact (o.bd i (by omega)).2
  ·have hi : i ≠ k := by omega
   simp only [if_neg hi, if_neg e]
   exact o.up i j hij (by omega)
structure AllIns (W : World) (a0 : Option Addr) (n : Nat) (aa : Nat → Option Addr) (ls cs : Nat → Nat) (h : Nat → Nat → I5) : Prop where
 row : RowS W a0 n fun i => .slice (aa i) (ls i) (cs i)
 cop : ∀ i, i < n → CopiesF W (aa i) (ls i) (cs i) (h i)
theorem toInsSS_any (a0 : Option Addr) (n cap : Nat) (aa : Nat → Option Addr) (ls cs : Nat → Nat) (h : Nat → Nat → I5) (W w : World) (hn : n ≤ 1048576) (hA : AllIns W a0 n aa ls cs h) (hW : Below W.heap.size W w) :
  Calls Tryz.prog 62 #[.slice a0 n cap] w fun e w' => e = .returned (.slice (some ⟨w.heap.size, 0, none⟩) n n) ∧ (∃ bs, OutIns w' w.heap.size w'.heap.size n ls bs h) ∧ Below w.heap.size w w' := by
 have hl' : (n : Int) ≤ 1048576 := by omega
 have hmk := run_make_InsS n hn
 have HA : Hid (AllIns W a0 n aa ls cs h) := hA
 have HW : Hid (Below W.heap.size W w) := hW
 clear hA hW
 go_enter Tryz.func62, Tryz.ntmps62
 go_wp2_with fail
 clear hmk
 go_loopw [4] (fun i wr => ∃ k : Nat, k ≤ n ∧ i = .int .i64 k ∧ (∃ f, wr.rowIs w.heap.size 121 n f ∧ Hid (∃ bs, FillIns wr w.heap.size k f ls bs h)) ∧ Below w.heap.size w wr) (fun i _ => n - (intOf i).toNat)
 case atStart => exact ⟨0, Nat.zero_le _, rfl, ⟨_, madeInsS_row w n, fun _ => 0, fun i hi => by omega, fun i hi => by omega, fun i hi => by omega, fun i hi => by omega, fun i j hij hj => by omega⟩, (Below.refl _ _).alloc (Nat.le_refl _) _⟩
 case round =>
  obtain ⟨k, hk, rfl, ⟨f, hrow, HF⟩, hbw⟩ := hrel
  have hs := hrow.lt
  by_cases hlt : k < n
  ·have hlt' : (k : Int) < (n : Int) := by omega
   have HB : Hid (Below W.heap.size W wr) := HW.out.trans (hbw.mono HW.out.size)
   obtain ⟨b, off, rfl, ck⟩ := (HA.out.row.below HB.out).at hlt
   have HR : Hid (wr.rowIs w.heap.size 121 n f) := hrow
   clear hrow
   go_wp2_with fail
   refine (HA.out.cop k hlt wr HB.out).mono ?_
   rintro e w1 ⟨rfl, hi1, hz1, hb1, hf1⟩
   have hr1 : w1.rowIs w.heap.size 121 n f := HR.out.of_block (hb1.block _ hs)
   have f0 := hr1.frozen k
   have g0 := hr1.cell (i := k) hlt
   have HR1 : Hid (w1.rowIs w.heap.size 121 n f) := hr1
   have HF1 : Hid (∃ bs, FillIns (w1.setCell ⟨w.heap.size, k, none⟩ (.slice (some ⟨wr.heap.size, 0, none⟩) (ls k) (ls k))) w.heap.size (k + 1) (fun i => if i = k then .slice (some ⟨wr.heap.size, 0, none⟩) (ls k) (ls k) else f i) ls bs h) := by
    obtain ⟨bs, o⟩ := HF.out
    exact ⟨_, o.step hb1 hs hz1 hi1 hf1 _⟩
   clear hr1 hi1 HF HR hf1
   go_wp2_with fail
   exact ⟨⟨k + 1, by omega, by go_num, ⟨_, HR1.out.set _ _, HF1.out⟩, (hbw.trans (hb1.mono (Nat.le_of_lt hs))).setCell (Nat.le_refl _) _⟩, by simp [intOf]; omega⟩
  ·have hkl : k = n := by omega
   have HO : Hid (∃ bs, OutIns wr w.heap.size wr.heap.size n ls bs h) := by
    obtain ⟨bs, o⟩ := HF.out
    rw [hkl] at o
    exact ⟨bs, fun i hi => by rw [hrow.cell hi, o.cel i hi], o.bd, o.row, o.fr, o.up, Nat.le_refl _, hs⟩
   clear hkl HF hrow
   go_wp2
   go_ret
   exact ⟨rfl, HO.out, hbw⟩
theorem eqInsSS_same (D1 h1 D2 h2 n c1 c2 : Nat) (ls b1 b2 : Nat → Nat) (h : Nat → Nat → I5) (w : World) (hn : n ≤ 1048576) (hl : ∀ i, i < n → ls i ≤ 1048576) (o1 : OutIns w D1 h1 n ls b1 h) (o2 : OutIns w D2 h2 n ls b2 h) :
  Calls Tryz.prog 67 #[.slice (some ⟨D1, 0, none⟩) n c1, .slice (some ⟨D2, 0, none⟩) n c2] w fun e w' => e = .returned (.bool true) ∧ Below w.heap.size w w' := by
 have hl' : (n : Int) ≤ 1048576 := by omega
 have O1 : Hid (OutIns w D1 h1 n ls b1 h) := o1
 have O2 : Hid (OutIns w D2 h2 n ls b2 h) := o2
 have HL : Hid (∀ i, i < n → ls i ≤ 1048576) := hl
 clear o1 o2 hl
 go_enter Tryz.func67, Tryz.ntmps67
 go_wp2_with fail
 go_loopw [5] (fun i wr => ∃ k : Nat, k ≤ n ∧ i = .int .i64 k ∧ Below w.heap.size w wr) (fun i _ => n - (intOf i).toNat)
 case atStart => exact ⟨0, Nat.zero_le _, rfl, Below.refl _ _⟩
 case round =>
  obtain ⟨k, hk, rfl, hbw⟩ := hrel
  have hs := hbw.size
  by_cases hlt : k < n
  ·have P1 : Hid (OutIns wr D1 h1 n ls b1 h) := O1.out.below hbw O1.out.le
   have P2 : Hid (OutIns wr D2 h2 n ls b2 h) := O2.out.below hbw O2.out.le
   have ck := P1.out.cel k hlt
   have dk := P2.out.cel k hlt
   have hlt' : (k : Int) < (n : Int) := by omega
   go_wp2_with fail
   first | (go_region_with (go_at_call 132; refine (eqInsS_same (b1 k) (b2 k) (ls k) (ls k) (ls k) (h k) wr.drew (HL.out k hlt) (Nat.lt_of_lt_of_le (P1.out.bd k hlt).2 P1.out.le) (Nat.lt_of_lt_of_le (P2.out.bd k hlt).2 P2.out.le) (P1.out.row k hlt) (P2.out.row k hlt)).mono ?_; rintro e w1 ⟨rfl, hq1⟩)) | fail
   all_goals
    go_wp2
    go_roundw
    case rel => exact ⟨k + 1, by omega, by go_num, hbw.drew.trans (hq1.mono hs)⟩
    case measure => simp [intOf]; omega
  ·go_wp2
   go_ret
   exact ⟨rfl, hbw⟩
theorem markInsSS_any (D hi n cap : Nat) (ls bs : Nat → Nat) (h : Nat → Nat → I5) (k : Int) (w : World) (hn : n ≤ 1048576) (hl : sumL ls n ≤ 1048576) (k0 : 0 ≤ k) (k1 : k ≤ 50000000) (o : OutIns w D hi n ls bs h) :
  Calls Tryz.prog 72 #[.slice (some ⟨D, 0, none⟩) n cap, .int .i64 k] w fun e w' => e = .returned (.int .i64 (k + 5 * (sumL ls n : Nat))) ∧ Touch (fun b => D < b ∧ b < hi) w w' := by
 have hl' : (n : Int) ≤ 1048576 := by omega
 have O : Hid (OutIns w D hi n ls bs h) := o
 have HL : Hid (sumL ls n ≤ 1048576) := hl
 clear o hl
 go_enter Tryz.func72, Tryz.ntmps72
 go_wp2_with fail
 go_loopw [1, 5] (fun q i wr => ∃ j : Nat, j ≤ n ∧ i = .int .i64 j ∧ q = .int .i64 (k + 5 * (sumL ls j : Nat)) ∧ Hid (Touch (fun b => ∃ t, t < j ∧ b = bs t) w wr)) (fun _ i _ => n - (intOf i).toNat)
 case atStart => exact ⟨0, Nat.zero_le _, rfl, by simp [sumL], Touch.refl _ _⟩
 case round =>
  obtain ⟨j, hj, rfl, rfl, HT⟩ := hrel
  by_cases hlt : j < n
  ·have hlt' : (j : Int) < (n : Int) := by omega
   have dD : ¬ ∃ t, t < j ∧ D = bs t := by
    rintro ⟨t, ht, e⟩
    have := (O.out.bd t (by omega)).1
    omega
   have dJ : ¬ ∃ t, t < j ∧ bs j = bs t := by
    rintro ⟨t, ht, e⟩
    have := O.out.up t j ht hlt
    omega
   have bJ := O.out.bd j hlt
   have le := O.out.le
   have ck : wr.cell? ⟨D, j, none⟩ = some (.slice (some ⟨bs j, 0, none⟩) (ls j) (ls j)) := (HT.out.cell (Nat.lt_of_lt_of_le O.out.lt le) dD j).trans (O.out.cel j hlt)
   have RM : Hid (Room wr (bs j) (ls j)) := by
    have hb : wr.heap[bs j]? = w.heap[bs j]? := HT.out.block (bs j) (by omega) dJ
    have hrm : Room w (bs j) (ls j) := Room.of_ins (O.out.row j hlt) (O.out.fr j hlt)
    exact ⟨fun i hi => (hrm.1 i hi).elim fun u e => ⟨u, (World.cell?_of_block hb).trans e⟩, fun i => (World.frozen?_of_block hb).trans (hrm.2 i)⟩
   have hsl := sumL_at ls hlt
   have hS := HL.out
   have e1 : k + 5 * (sumL ls j : Nat) + 5 * (ls j : Int) = k + 5 * (sumL ls (j + 1) : Nat) := by simp only [sumL]; omega
   have HE : Hid (k + 5 * (sumL ls j : Nat) + 5 * (ls j : Int) = k + 5 * (sumL ls (j + 1) : Nat)) := e1
   have e2 : 0 ≤ k + 5 * (sumL ls j : Nat) := by omega
   have e3 : k + 5 * (sumL ls j : Nat) ≤ 100000000 := by omega
   have e4 : ls j ≤ 1048576 := by omega
   clear dD bJ le e1 hS hsl
   go_wp2_with fail
   refine (markInsS_any (bs j) (ls j) (ls j) _ wr e4 e2 e3 RM.out).mono ?_
   rintro e w1 ⟨rfl, g1⟩
   rw [HE.out]
   have HT1 : Hid (Touch (fun b => ∃ t, t < j + 1 ∧ b = bs t) w w1) := (HT.out.mono fun b ⟨t, ht, e⟩ => ⟨t, by omega, e⟩).trans (Touch.of_grown g1 fun b e => ⟨j, by omega, by simpa using e.symm⟩)
   clear HT dJ RM e2 e3 e4 g1
   go_wp2
   go_roundw
   case rel => exact ⟨j + 1, by omega, by go_num, rfl, HT1.out⟩
   case measure => simp [intOf]; omega
  ·have hkl : j = n := by omega
   subst hkl
   have HT1 : Hid (Touch (fun b => D < b ∧ b < hi) w wr) := HT.out.mono fun b ⟨t, ht, e⟩ => by
    subst e
    exact O.out.bd t ht
   clear HT
   go_wp2
   go_ret
   exact ⟨rfl, HT1.out⟩
theorem open_InsSS {H : Type} {enc : TypeId × Value → H} {w : World} {spare : Nat → Bool} {held : Bool} {base : Nat} {a0 : Option Addr} {len cap : Nat} {d : DataW H} {p : List MemPlace}
  (h : DataW.Trod enc Tryz.prog w base spare held 48 (.slice a0 len cap) d p) :
  len ≤ maxLen ∧ ∃ aa ls cs, RowS w a0 len (fun i => .slice (aa i) (ls i) (cs i)) ∧ (∀ i, i < len → ls i ≤ maxLen) ∧ ((∀ i, i < len → ls i ≤ 1048576) → ∃ hh, AllIns w a0 len aa ls cs hh) := by
 obtain ⟨hm, f, hrow, hf⟩ := open_rows Tryz.underlying48 (el := 163) (by kernel_rfl) h
 refine ⟨hm, ?_⟩
 have hpart : ∀ i, i < len → ∃ x : Option Addr × Nat × Nat, f i = .slice x.1 x.2.1 x.2.2 ∧ x.2.1 ≤ maxLen ∧ (x.2.1 ≤ 1048576 → ∃ g, CopiesF w x.1 x.2.1 x.2.2 g) := by
  intro i hi
  obtain ⟨m, x, hx⟩ := hf i hi
  have hsl : ∃ a l c, f i = .slice a l c := by
   rcases Go.Deep.open_slice Tryz.underlying163 hx with ⟨hcs, _⟩ | ⟨a, len', cap', m, n, D, Pl, hcs, _⟩
   ·simp at hcs
    exact ⟨_, _, _, hcs⟩
   ·simp at hcs
    exact ⟨_, _, _, hcs⟩
  obtain ⟨a, l, c, e⟩ := hsl
  rw [e] at hx
  obtain ⟨h1, h2⟩ := open_insRow (d := x.1) (p := x.2) (a0 := a) (len := l) (cap := c) ⟨m, by simpa [Value.cells] using hx⟩
  exact ⟨(a, l, c), e, h1, fun hs => copiesF_of hs h2⟩
 obtain ⟨g, hg⟩ := Go.Deep.choose_lt (α := Option Addr × Nat × Nat) hpart
 refine ⟨fun i => (g i).1, fun i => (g i).2.1, fun i => (g i).2.2, ?_, fun i hi => (hg i hi).2.1, fun hs => ?_⟩
 ·rcases hrow with h0 | ⟨b, off, e, hlt, hc⟩
  ·exact .inl h0
  ·exact .inr ⟨b, off, e, hlt, fun i hi => (hc i hi).trans (by rw [(hg i hi).1])⟩
 ·have hq : ∀ i, i < len → ∃ q : Nat → I5, CopiesF w (g i).1 (g i).2.1 (g i).2.2 q := fun i hi => (hg i hi).2.2 (hs i hi)
  have inh : Inhabited (Nat → I5) := ⟨fun _ => ⟨0, 0, 0, 0, 0⟩⟩
  obtain ⟨hh, hhh⟩ := Go.Deep.choose_lt (α := Nat → I5) hq
  refine ⟨hh, ?_, hhh⟩
  rcases hrow with h0 | ⟨b, off, e, hlt, hc⟩
  ·exact .inl h0
  ·exact .inr ⟨b, off, e, hlt, fun i hi => (hc i hi).trans (by rw [(hg i hi).1])⟩
structure St8 where
 p : Int
 ra : Option Addr
 rc : Nat
 rs : List Int
 oa : Option Addr
 oc : Nat
 os : List Int
 c : Int
def St8.s (x : St8) : S4 := ⟨x.p, x.rs, x.os, x.c⟩
def lenS (S : Nat → S4) (i : Nat) : Nat := (S i).rs.length + (S i).os.length
structure AllState (W : World) (a0 : Option Addr) (n : Nat) (q : Nat → St8) : Prop where
 row : n = 0 ∨ ∃ b off, a0 = some ⟨b, off, none⟩ ∧ b < W.heap.size ∧ ∀ i, i < n → W.cell? ⟨b, off + i * 4, none⟩ = some (.int .i64 (q i).p) ∧ W.cell? ⟨b, off + i * 4 + 1, none⟩ = some (.slice (q i).ra (q i).rs.length (q i).rc) ∧ W.cell? ⟨b, off + i * 4 + 2, none⟩ = some (.slice (q i).oa (q i).os.length (q i).oc) ∧ W.cell? ⟨b, off + i * 4 + 3, none⟩ = some (.int .i64 (q i).c)
 lst : ∀ i, i < n → Sl W (q i).ra (q i).rs ∧ Sl W (q i).oa (q i).os
theorem AllState.below {w w' : World} {a0 : Option Addr} {n : Nat} {q : Nat → St8} (h : AllState w a0 n q) (hb : Below w.heap.size w w') : AllState w' a0 n q := by
 refine ⟨?_, fun i hi => ⟨(h.lst i hi).1.below hb, (h.lst i hi).2.below hb⟩⟩
 rcases h.row with h | ⟨b, off, e, hlt, hc⟩
 ·exact .inl h
 ·exact .inr ⟨b, off, e, Nat.lt_of_lt_of_le hlt hb.size, fun i hi => by
   obtain ⟨h0, h1, h2, h3⟩ := hc i hi
   exact ⟨(hb.cell hlt).trans h0, (hb.cell hlt).trans h1, (hb.cell hlt).trans h2, (hb.cell hlt).trans h3⟩⟩
theorem AllState.at {w : World} {a0 : Option Addr} {n : Nat} {q : Nat → St8} (h : AllState w a0 n q) {k : Nat} (hk : k < n) : ∃ b off, a0 = some ⟨b, off, none⟩ ∧ w.cell? ⟨b, off + k * 4, none⟩ = some (.int .i64 (q k).p) ∧ w.cell? ⟨b, off + k * 4 + 1, none⟩ = some (.slice (q k).ra (q k).rs.length (q k).rc) ∧ w.cell? ⟨b, off + k * 4 + 2, none⟩ = some (.slice (q k).oa (q k).os.length (q k).oc) ∧ w.cell? ⟨b, off + k * 4 + 3, none⟩ = some (.int .i64 (q k).c) := by
 rcases h.row with rfl | ⟨b, off, e, -, hc⟩
 ·omega
 ·exact ⟨b, off, e, hc k hk⟩
theorem szStateS_small (a0 : Option Addr) (n cap : Nat) (q : Nat → St8) (L : Int) (w : World) (hr : AllState w a0 n q) (h : (n : Int) + (sumL (lenS fun i => (q i).s) n : Nat) ≤ L) (hL : L ≤ 1048576) :
  Calls Tryz.prog 59 #[.slice a0 n cap, .int .i64 L] w fun e w' => e = .returned (.int .i64 (L - n - (sumL (lenS fun i => (q i).s) n : Nat))) ∧ Below w.heap.size w w' := by
 have hn : (n : Int) ≤ 1048576 := by omega
 have h0 : 0 ≤ L := by omega
 have hn0 : ¬ (L - (n : Int) < 0) := by omega
 have HR : Hid (AllState w a0 n q) := hr
 have HS : Hid ((n : Int) + (sumL (lenS fun i => (q i).s) n : Nat) ≤ L) := h
 clear hr h
 generalize hls : (lenS fun i => (q i).s) = ls at *
 have HLS : Hid ((lenS fun i => (q i).s) = ls) := hls
 clear hls
 go_enter Tryz.func59, Tryz.ntmps59
 go_wp2_with fail
 go_loopw [1, 5] (fun x i wr => ∃ k : Nat, k ≤ n ∧ i = .int .i64 k ∧ x = .int .i64 (L - n - (sumL ls k : Nat)) ∧ Below w.heap.size w wr) (fun _ i _ => n - (intOf i).toNat)
 case atStart => exact ⟨0, Nat.zero_le _, rfl, by simp [sumL], Below.refl _ _⟩
 case round =>
  obtain ⟨k, hk, rfl, rfl, hbw⟩ := hrel
  by_cases hlt : k < n
  ·have hlt' : (k : Int) < (n : Int) := by omega
   obtain ⟨b, off, rfl, c0, c1, c2, c3⟩ := (HR.out.below hbw).at hlt
   have hsl := sumL_at ls hlt
   have hlk : ls k = (q k).rs.length + (q k).os.length := by rw [← HLS.out]; rfl
   have hS := HS.out
   have e1 : (L - n - (sumL ls k : Nat)) - ((q k).rs.length : Int) - ((q k).os.length : Int) = L - n - (sumL ls (k + 1) : Nat) := by simp only [sumL]; omega
   have HE : Hid ((L - n - (sumL ls k : Nat)) - ((q k).rs.length : Int) - ((q k).os.length : Int) = L - n - (sumL ls (k + 1) : Nat)) := e1
   have e2 : ((q k).rs.length : Int) + ((q k).os.length : Int) ≤ L - n - (sumL ls k : Nat) := by omega
   have e3 : ¬ (L - n - (sumL ls (k + 1) : Nat) < 0) := by omega
   have e4 : L - n - (sumL ls k : Nat) ≤ 1048576 := by omega
   clear e1 hS hsl hlk
   generalize hy : L - n - (sumL ls (k + 1) : Nat) = Y at *
   go_wp2_with fail
   refine (szState_small _ _ _ _ _ _ _ _ _ _ e2 e4).mono ?_
   rintro e w1 ⟨rfl, b1⟩
   rw [HE.out]
   clear e2 e4 c0 c1 c2 c3
   go_wp2
   go_roundw
   case rel => exact ⟨k + 1, by omega, by go_num, by rw [← hy], hbw.trans (b1.mono hbw.size)⟩
   case measure => simp [intOf]; omega
  ·have hkl : k = n := by omega
   subst hkl
   go_wp2
   go_ret
   exact ⟨rfl, hbw⟩
theorem szStateS_great (a0 : Option Addr) (n cap : Nat) (q : Nat → St8) (L : Int) (w : World) (hr : AllState w a0 n q) (h : L < (n : Int) + (sumL (lenS fun i => (q i).s) n : Nat)) (h0 : 0 ≤ L) (hL : L ≤ 1048576) (hm : n ≤ maxLen) (hl : ∀ i, i < n → (q i).rs.length ≤ maxLen ∧ (q i).os.length ≤ maxLen) :
  Calls Tryz.prog 59 #[.slice a0 n cap, .int .i64 L] w fun e w' => e = .returned (.int .i64 (-1)) ∧ Below w.heap.size w w' := by
 have hm' : (n : Int) ≤ 9223372036854775807 := by unfold maxLen at hm; omega
 by_cases hn0 : L - (n : Int) < 0
 ·go_enter Tryz.func59, Tryz.ntmps59
  go_wp2
  go_ret
  exact ⟨rfl, Below.refl _ _⟩
 have hn : (n : Int) ≤ 1048576 := by omega
 have HR : Hid (AllState w a0 n q) := hr
 have HS : Hid (L < (n : Int) + (sumL (lenS fun i => (q i).s) n : Nat)) := h
 have HL : Hid (∀ i, i < n → (q i).rs.length ≤ maxLen ∧ (q i).os.length ≤ maxLen) := hl
 clear hr h hl hm
 generalize hls : (lenS fun i => (q i).s) = ls at *
 have HLS : Hid ((lenS fun i => (q i).s) = ls) := hls
 clear hls
 go_enter Tryz.func59, Tryz.ntmps59
 go_wp2_with fail
 go_loopw [1, 5] (fun x i wr => ∃ k : Nat, k ≤ n ∧ i = .int .i64 k ∧ x = .int .i64 (L - n - (sumL ls k : Nat)) ∧ 0 ≤ L - n - (sumL ls k : Nat) ∧ Below w.heap.size w wr) (fun _ i _ => n - (intOf i).toNat)
 case atStart => exact ⟨0, Nat.zero_le _, rfl, by simp [sumL], by simp only [sumL]; omega, Below.refl _ _⟩
 case round =>
  obtain ⟨k, hk, rfl, rfl, hp, hbw⟩ := hrel
  by_cases hlt : k < n
  ·have hlt' : (k : Int) < (n : Int) := by omega
   obtain ⟨b, off, rfl, c0, c1, c2, c3⟩ := (HR.out.below hbw).at hlt
   obtain ⟨ml1, ml2⟩ := HL.out k hlt
   have hlk : ls k = (q k).rs.length + (q k).os.length := by rw [← HLS.out]; rfl
   have e1 : (L - n - (sumL ls k : Nat)) - ((q k).rs.length : Int) - ((q k).os.length : Int) = L - n - (sumL ls (k + 1) : Nat) := by simp only [sumL]; omega
   have HE : Hid ((L - n - (sumL ls k : Nat)) - ((q k).rs.length : Int) - ((q k).os.length : Int) = L - n - (sumL ls (k + 1) : Nat)) := e1
   have e4 : L - n - (sumL ls k : Nat) ≤ 1048576 := by omega
   clear e1 hlk
   by_cases hb : ((q k).rs.length : Int) + ((q k).os.length : Int) ≤ L - n - (sumL ls k : Nat)
   ·have e3 : 0 ≤ L - n - (sumL ls (k + 1) : Nat) := by have := HE.out; omega
    have e3' : ¬ (L - n - (sumL ls (k + 1) : Nat) < 0) := by omega
    generalize hy : L - n - (sumL ls (k + 1) : Nat) = Y at *
    go_wp2_with fail
    refine (szState_small _ _ _ _ _ _ _ _ _ _ hb e4).mono ?_
    rintro e w1 ⟨rfl, b1⟩
    rw [HE.out]
    clear hb e4 hp c0 c1 c2 c3 ml1 ml2
    go_wp2
    go_roundw
    case rel => exact ⟨k + 1, by omega, by go_num, by rw [← hy], by omega, hbw.trans (b1.mono hbw.size)⟩
    case measure => simp [intOf]; omega
   ·have hb' : L - n - (sumL ls k : Nat) < ((q k).rs.length : Int) + ((q k).os.length : Int) := by omega
    go_wp2_with fail
    refine (szState_great _ _ _ _ _ _ _ _ _ _ hb' e4 hp ml1 ml2).mono ?_
    rintro e w1 ⟨rfl, b1⟩
    clear hb hb' e4 hp HE c0 c1 c2 c3 ml1 ml2
    go_wp2
    go_ret
    exact ⟨rfl, hbw.trans (b1.mono hbw.size)⟩
  ·have hkl : k = n := by omega
   subst hkl
   have := HS.out
   omega
open Go.Sort
noncomputable def qB (p : Prop) : Bool := @decide p (Classical.propDecidable _)
theorem qB_true {p : Prop} (h : p) : qB p = true := by simp [qB, h]
theorem qB_false {p : Prop} (h : ¬ p) : qB p = false := by simp [qB, h]
structure HisE (w : World) (ha : Option Addr) (hA : Nat → Option Addr) (hC : Nat → Nat) (y : Hs) : Prop where
 row : RowS w ha y.n fun i => .slice (hA i) (y.l i) (hC i)
 ev : ∀ i, i < y.n → EvL w (hA i) (y.l i) (y.e i)
theorem HisE.below {w w' : World} {ha : Option Addr} {hA : Nat → Option Addr} {hC : Nat → Nat} {y : Hs} (h : HisE w ha hA hC y) (hb : Below w.heap.size w w') : HisE w' ha hA hC y := ⟨h.row.below hb, fun i hi => (h.ev i hi).below hb⟩
structure HisP (w : World) (X : Nat) (ha : Option Addr) (hc : Nat) (y : Hs) (d : Nat → Nat) : Prop where
 c4 : w.cell? ⟨X, 4, none⟩ = some (.slice ha y.n hc)
 pt : ∀ i, i < 4 → w.cell? ⟨X, 5 + i, none⟩ = some (.int .i64 (d i))
 op : ∀ a b, a < 4 → b < 4 → w.cell? ⟨X, 9 + a * 4 + b, none⟩ = some (.int .i64 (y.opn d a b))
 fr : ∀ j, w.frozen? ⟨X, j, none⟩ = false
theorem HisP.lt {w : World} {X : Nat} {ha : Option Addr} {hc : Nat} {y : Hs} {d : Nat → Nat} (h : HisP w X ha hc y d) : X < w.heap.size := World.block_lt_of_cell? w _ h.c4
theorem HisP.blk {w w' : World} {X : Nat} {ha : Option Addr} {hc : Nat} {y : Hs} {d : Nat → Nat} (h : HisP w X ha hc y d) (hb : w'.heap[X]? = w.heap[X]?) : HisP w' X ha hc y d :=
 ⟨(World.cell?_of_block hb).trans h.c4, fun i hi => (World.cell?_of_block hb).trans (h.pt i hi), fun a b h1 h2 => (World.cell?_of_block hb).trans (h.op a b h1 h2), fun j => (World.frozen?_of_block hb).trans (h.fr j)⟩
theorem HisP.below {w w' : World} {X : Nat} {ha : Option Addr} {hc : Nat} {y : Hs} {d : Nat → Nat} (h : HisP w X ha hc y d) (hb : Below w.heap.size w w') : HisP w' X ha hc y d := h.blk (hb.block X h.lt)
theorem cell_allocs {w : World} {a : Addr} {v : Value} (h : w.cell? a = some v) (o : Obj) : (w.alloc o).cell? a = some v := (World.cell?_alloc_lt w o a (World.block_lt_of_cell? w _ h)).trans h
theorem canPut_any (X : Nat) (ha : Option Addr) (hc : Nat) (hA : Nat → Option Addr) (hC : Nat → Nat) (y : Hs) (d : Nat → Nat) (k : Nat) (w : World) (hE : HisE w ha hA hC y) (hP : HisP w X ha hc y d) (h4 : y.n ≤ 4) (hk : k < y.n) (hp : y.Peers) (hl : ∀ i, i < y.n → y.l i ≤ 200) (hd : ∀ i, d i ≤ y.l i) :
  Calls Tryz.prog 97 #[.pointer (some ⟨X, 4, none⟩), .int .i64 k] w fun e w' => e = .returned (.bool (qB (y.Can d k))) ∧ Below w.heap.size w w' := by
 have HE : Hid (HisE w ha hA hC y) := hE
 have HP : Hid (HisP w X ha hc y d) := hP
 have HCan : Hid (y.Can d k ↔ d k < y.l k ∧ ((y.e k (d k)).k = 3 → 0 < y.opn d (y.e k (d k)).q.toNat k)) := Hs.can_iff hp hk
 have hk4 : (k : Int) < 4 := by omega
 have hk' : (k : Int) < (y.n : Int) := by omega
 have hl200 : (y.l k : Int) ≤ 200 := by have := hl k hk; omega
 have hdk : (d k : Int) ≤ (y.l k : Int) := by have := hd k; omega
 obtain ⟨bh, oh, eh, ch⟩ := hE.row.at hk
 obtain ⟨c4, pt, op, -⟩ := hP
 have pk := pt k (by omega)
 rw [eh] at c4
 clear hE
 by_cases he : d k = y.l k
 ·have HN : Hid (qB (y.Can d k) = false) := qB_false fun h => by have := h.1; omega
  rw [he] at pk
  clear op pt
  go_enter Tryz.func97, Tryz.ntmps97
  go_wp2_with fail
  go_quiet (fail)
  go_wp2
  go_ret
  rw [HN.out]
  exact ⟨rfl, below_drewN (Below.refl _ _) _⟩
 ·have hlt : d k < y.l k := by have := hd k; omega
  have hlt' : (d k : Int) < (y.l k : Int) := by omega
  have hne : ((d k : Int) == (y.l k : Int)) = false := by
   have : ¬ (d k : Int) = (y.l k : Int) := by omega
   simpa using this
  obtain ⟨b, off, ea, zb, e0, e1, e2⟩ := (HE.out.ev k hk).at hlt
  rw [ea] at ch
  have n1 : w.heap.size ≠ X := by have := HP.out.lt; omega
  have n2 : w.heap.size ≠ b := by omega
  have n3 : w.heap.size ≠ bh := by have := World.block_lt_of_cell? w _ ch; simp at this; omega
  clear zb
  have hq := hp k hk (d k) hlt
  obtain ⟨q, hqe⟩ : ∃ q : Nat, (y.e k (d k)).q = (q : Int) := ⟨(y.e k (d k)).q.toNat, by omega⟩
  have hq4 : (q : Int) < 4 := by omega
  have oq := op q k (by omega) (by omega)
  rw [hqe] at e1
  rcases Bool.eq_false_or_eq_true ((y.e k (d k)).k != 3) with t | t
  ·have HN : Hid (qB (y.Can d k) = true) := qB_true (HCan.out.2 ⟨hlt, fun h => by rw [h] at t; cases t⟩)
   clear op pt hq hqe oq HCan
   generalize (y.e k (d k)).k = kd at *
   generalize (y.e k (d k)).v = vd at *
   go_enter Tryz.func97, Tryz.ntmps97
   go_wp2_with fail
   go_quiet (fail)
   go_wp2_with fail
   have BD : Hid (Below w.heap.size w (w.drewN nq)) := below_drewN (Below.refl _ _) _
   replace n1 : (w.drewN nq).heap.size ≠ X := n1
   replace n2 : (w.drewN nq).heap.size ≠ b := n2
   replace n3 : (w.drewN nq).heap.size ≠ bh := n3
   replace c4 : (w.drewN nq).cell? ⟨X, 4, none⟩ = _ := c4
   replace pk : (w.drewN nq).cell? ⟨X, 5 + k, none⟩ = _ := pk
   replace ch : (w.drewN nq).cell? ⟨bh, oh + k, none⟩ = _ := ch
   replace e0 : (w.drewN nq).cell? ⟨b, off + d k * 3, none⟩ = _ := e0
   replace e1 : (w.drewN nq).cell? ⟨b, off + d k * 3 + 1, none⟩ = _ := e1
   replace e2 : (w.drewN nq).cell? ⟨b, off + d k * 3 + 2, none⟩ = _ := e2
   generalize w.drewN nq = wd at *
   have c4' := cell_allocs c4
   have pk' := cell_allocs pk
   have ch' := cell_allocs ch
   have e0' := cell_allocs e0
   have e1' := cell_allocs e1
   have e2' := cell_allocs e2
   go_region
   all_goals
    go_wp2_with fail
    go_quiet (fail)
    go_wp2
    go_ret
    rw [HN.out]
    exact ⟨rfl, below_drewN (BD.out.trans ((below_alloc _ _).mono BD.out.size)).drew _⟩
  ·have hk3 : (y.e k (d k)).k = 3 := by simpa using t
   have HN : Hid (qB (y.Can d k) = decide (0 < y.opn d q k)) := by
    show qB (y.Can d k) = decide (0 < y.opn d q k)
    have e : (y.e k (d k)).q.toNat = q := by omega
    by_cases h0 : 0 < y.opn d q k
    ·rw [decide_eq_true h0]
     exact qB_true (HCan.out.2 ⟨hlt, fun _ => by rw [e]; exact h0⟩)
    ·rw [decide_eq_false h0]
     refine qB_false fun h => h0 ?_
     have := (HCan.out.1 h).2 hk3
     rwa [e] at this
   rw [hk3] at e0
   clear op pt hq hqe HCan t hk3
   generalize (y.e k (d k)).v = vd at *
   generalize y.opn d q k = on at *
   go_enter Tryz.func97, Tryz.ntmps97
   go_wp2_with fail
   go_quiet (fail)
   go_wp2_with fail
   have BD : Hid (Below w.heap.size w (w.drewN nq)) := below_drewN (Below.refl _ _) _
   replace n1 : (w.drewN nq).heap.size ≠ X := n1
   replace n2 : (w.drewN nq).heap.size ≠ b := n2
   replace n3 : (w.drewN nq).heap.size ≠ bh := n3
   replace c4 : (w.drewN nq).cell? ⟨X, 4, none⟩ = _ := c4
   replace pk : (w.drewN nq).cell? ⟨X, 5 + k, none⟩ = _ := pk
   replace ch : (w.drewN nq).cell? ⟨bh, oh + k, none⟩ = _ := ch
   replace e0 : (w.drewN nq).cell? ⟨b, off + d k * 3, none⟩ = _ := e0
   replace e1 : (w.drewN nq).cell? ⟨b, off + d k * 3 + 1, none⟩ = _ := e1
   replace e2 : (w.drewN nq).cell? ⟨b, off + d k * 3 + 2, none⟩ = _ := e2
   replace oq : (w.drewN nq).cell? ⟨X, 9 + q * 4 + k, none⟩ = _ := oq
   generalize w.drewN nq = wd at *
   have c4' := cell_allocs c4
   have pk' := cell_allocs pk
   have ch' := cell_allocs ch
   have e0' := cell_allocs e0
   have e1' := cell_allocs e1
   have e2' := cell_allocs e2
   have oq' := cell_allocs oq
   go_region
   all_goals
    go_wp2_with fail
    go_quiet (fail)
    go_wp2
    go_ret
    rw [HN.out]
    exact ⟨rfl, below_drewN (BD.out.trans ((below_alloc _ _).mono BD.out.size)).drew _⟩
theorem HisP.put {w w' : World} {X : Nat} {ha : Option Addr} {hc : Nat} {y : Hs} {d : Nat → Nat} {k : Nat} (h : HisP w X ha hc y d) (c4 : w'.cell? ⟨X, 4, none⟩ = w.cell? ⟨X, 4, none⟩) (pt : ∀ i, i < 4 → w'.cell? ⟨X, 5 + i, none⟩ = if i = k then some (.int .i64 (d k + 1 : Nat)) else w.cell? ⟨X, 5 + i, none⟩)
  (op : ∀ a b, a < 4 → b < 4 → w'.cell? ⟨X, 9 + a * 4 + b, none⟩ = some (.int .i64 (y.opn (up d k) a b))) (fr : ∀ j, w'.frozen? ⟨X, j, none⟩ = false) : HisP w' X ha hc y (up d k) := by
 refine ⟨c4.trans h.c4, fun i hi => ?_, op, fr⟩
 rw [pt i hi]
 by_cases e : i = k
 ·subst e
  rw [if_pos rfl, up_same]
 ·rw [if_neg e, up_other e]
  exact h.pt i hi
theorem Hs.opn_le {y : Hs} {d : Nat → Nat} (hd : ∀ i, d i ≤ y.l i) (hl : ∀ i, i < y.n → y.l i ≤ 200) {a b : Nat} (ha : a < y.n) (hb : b < y.n) : -200 ≤ y.opn d a b ∧ y.opn d a b ≤ 200 := by
 have h1 := cnt_le (y.e a) 2 b (d a)
 have h2 := cnt_le (y.e b) 3 a (d b)
 have h3 := hd a
 have h4 := hd b
 have h5 := hl a ha
 have h6 := hl b hb
 unfold Hs.opn
 omega
theorem cell_set2 {w : World} {X i j m : Nat} {u v : Value} {o : Obj} (h1 : m ≠ i) (h2 : m ≠ j) (hX : X < w.heap.size) : (((w.setCell ⟨X, i, none⟩ u).setCell ⟨X, j, none⟩ v).alloc o).cell? ⟨X, m, none⟩ = w.cell? ⟨X, m, none⟩ := by
 rw [World.cell?_alloc_lt _ _ _ (by simpa [World.setCell] using hX), World.cell?_setCell_other _ _ _ _ (by intro e; injection e with _ e; exact h2 e.symm), World.cell?_setCell_other _ _ _ _ (by intro e; injection e with _ e; exact h1 e.symm)]
theorem cell_set2a {w : World} {X i j : Nat} {u v : Value} {o : Obj} (h1 : i ≠ j) (hc : (w.cell? ⟨X, i, none⟩).isSome = true) (hX : X < w.heap.size) : (((w.setCell ⟨X, i, none⟩ u).setCell ⟨X, j, none⟩ v).alloc o).cell? ⟨X, i, none⟩ = some u := by
 rw [World.cell?_alloc_lt _ _ _ (by simpa [World.setCell] using hX), World.cell?_setCell_other _ _ _ _ (by intro e; injection e with _ e; exact h1 e.symm), World.cell?_setCell_same' _ _ _ hc]
theorem cell_set2b {w : World} {X i j : Nat} {u v : Value} {o : Obj} (h1 : i ≠ j) (hc : (w.cell? ⟨X, j, none⟩).isSome = true) (hX : X < w.heap.size) : (((w.setCell ⟨X, i, none⟩ u).setCell ⟨X, j, none⟩ v).alloc o).cell? ⟨X, j, none⟩ = some v := by
 rw [World.cell?_alloc_lt _ _ _ (by simpa [World.setCell] using hX), World.cell?_setCell_same']
 rw [World.cell?_setCell_other _ _ _ _ (by intro e; injection e with _ e; exact h1 e)]
 exact hc
theorem frozen_alloc_lt {w : World} {o : Obj} {X j : Nat} (hX : X < w.heap.size) : (w.alloc o).frozen? ⟨X, j, none⟩ = w.frozen? ⟨X, j, none⟩ := (below_alloc w o).frozen (p := ⟨X, j, none⟩) hX
theorem HisP.put2 {w : World} {X : Nat} {ha : Option Addr} {hc : Nat} {y : Hs} {d : Nat → Nat} {k i0 j0 : Nat} {on : Int} {o : Obj} (h : HisP w X ha hc y d) (hk : k < 4) (hi : i0 < 4) (hj : j0 < 4) (HO : ∀ a b, y.opn (up d k) a b = if a = i0 ∧ b = j0 then on else y.opn d a b) :
  HisP (((w.setCell ⟨X, 9 + i0 * 4 + j0, none⟩ (.int .i64 on)).setCell ⟨X, 5 + k, none⟩ (.int .i64 ((d k : Int) + 1))).alloc o) X ha hc y (up d k) ∧ Touch (fun b => b = X) w (((w.setCell ⟨X, 9 + i0 * 4 + j0, none⟩ (.int .i64 on)).setCell ⟨X, 5 + k, none⟩ (.int .i64 ((d k : Int) + 1))).alloc o) := by
 have hX := h.lt
 refine ⟨h.put (k := k) (cell_set2 (by omega) (by omega) hX) (fun i hi' => ?_) (fun a b ha' hb' => ?_) (fun j => ?_), ?_⟩
 ·by_cases e : i = k
  ·subst e
   rw [if_pos rfl, cell_set2b (by omega) (by rw [h.pt i hi']; rfl) hX]
   rfl
  ·rw [if_neg e]
   exact cell_set2 (by omega) (by omega) hX
 ·rw [HO]
  by_cases e : a = i0 ∧ b = j0
  ·obtain ⟨rfl, rfl⟩ := e
   rw [if_pos ⟨rfl, rfl⟩]
   exact cell_set2a (by omega) (by rw [h.op a b ha' hb']; rfl) hX
  ·rw [if_neg e, ← h.op a b ha' hb']
   exact cell_set2 (by omega) (by omega) hX
 ·rw [frozen_alloc_lt (by simpa [World.setCell] using hX), World.frozen?_setCell, World.frozen?_setCell]
  exact h.fr j
 ·exact ((Touch.of_set (P := fun b => b = X) w (a := ⟨X, _, none⟩) rfl _).trans (Touch.of_set (P := fun b => b = X) _ (a := ⟨X, _, none⟩) rfl _)).trans (Touch.of_below (below_alloc _ _))
theorem HisP.put1 {w : World} {X : Nat} {ha : Option Addr} {hc : Nat} {y : Hs} {d : Nat → Nat} {k : Nat} {o : Obj} (h : HisP w X ha hc y d) (hk : k < 4) (HO : ∀ a b, y.opn (up d k) a b = y.opn d a b) :
  HisP ((w.setCell ⟨X, 5 + k, none⟩ (.int .i64 ((d k : Int) + 1))).alloc o) X ha hc y (up d k) ∧ Touch (fun b => b = X) w ((w.setCell ⟨X, 5 + k, none⟩ (.int .i64 ((d k : Int) + 1))).alloc o) := by
 have hX := h.lt
 have ho : ∀ m, m ≠ 5 + k → ((w.setCell ⟨X, 5 + k, none⟩ (.int .i64 ((d k : Int) + 1))).alloc o).cell? ⟨X, m, none⟩ = w.cell? ⟨X, m, none⟩ := fun m hm => by
  rw [World.cell?_alloc_lt _ _ _ (by simpa [World.setCell] using hX), World.cell?_setCell_other _ _ _ _ (by intro e; injection e with _ e; exact hm e.symm)]
 refine ⟨h.put (k := k) (ho 4 (by omega)) (fun i hi' => ?_) (fun a b ha' hb' => ?_) (fun j => ?_), ?_⟩
 ·by_cases e : i = k
  ·subst e
   rw [if_pos rfl, World.cell?_alloc_lt _ _ _ (by simpa [World.setCell] using hX), World.cell?_setCell_same' _ _ _ (by rw [h.pt i hi']; rfl)]
   rfl
  ·rw [if_neg e]
   exact ho _ (by omega)
 ·rw [HO, ← h.op a b ha' hb']
  exact ho _ (by omega)
 ·rw [frozen_alloc_lt (by simpa [World.setCell] using hX), World.frozen?_setCell]
  exact h.fr j
 ·exact (Touch.of_set (P := fun b => b = X) w (a := ⟨X, _, none⟩) rfl _).trans (Touch.of_below (below_alloc _ _))
theorem HisP.dr {w : World} {X : Nat} {ha : Option Addr} {hc : Nat} {y : Hs} {d : Nat → Nat} (h : HisP w X ha hc y d) : HisP w.drew X ha hc y d := ⟨h.c4, h.pt, h.op, h.fr⟩
theorem Touch.dr {P : Nat → Prop} {w w' : World} (h : Touch P w w') : Touch P w w'.drew := ⟨h.os, h.tape, h.output, h.size, h.block⟩
theorem putOne_any (X : Nat) (ha : Option Addr) (hc : Nat) (hA : Nat → Option Addr) (hC : Nat → Nat) (y : Hs) (d : Nat → Nat) (k : Nat) (w : World) (hE : HisE w ha hA hC y) (hP : HisP w X ha hc y d) (h4 : y.n ≤ 4) (hk : k < y.n) (hp : y.Peers) (hl : ∀ i, i < y.n → y.l i ≤ 200) (hd : ∀ i, d i ≤ y.l i) (hlt : d k < y.l k) :
  Calls Tryz.prog 98 #[.pointer (some ⟨X, 4, none⟩), .int .i64 k] w fun e w' => e = .returned (.tuple #[]) ∧ HisP w' X ha hc y (up d k) ∧ Touch (fun b => b = X) w w' := by
 have HP : Hid (HisP w X ha hc y d) := hP
 have hk4 : (k : Int) < 4 := by omega
 have hk' : (k : Int) < (y.n : Int) := by omega
 have hl200 : (y.l k : Int) ≤ 200 := by have := hl k hk; omega
 have hlt' : (d k : Int) < (y.l k : Int) := by omega
 obtain ⟨bh, oh, eh, ch⟩ := hE.row.at hk
 obtain ⟨c4, pt, op, fr⟩ := hP
 have pk := pt k (by omega)
 rw [eh] at c4
 obtain ⟨b, off, ea, zb, e0, e1, e2⟩ := (hE.ev k hk).at hlt
 rw [ea] at ch
 have n1 : w.heap.size ≠ X := by have := HP.out.lt; omega
 have n2 : w.heap.size ≠ b := by omega
 have n3 : w.heap.size ≠ bh := by have := World.block_lt_of_cell? w _ ch; simp at this; omega
 have zX : X < w.heap.size := HP.out.lt
 have hq := hp k hk (d k) hlt
 obtain ⟨q, hqe⟩ : ∃ q : Nat, (y.e k (d k)).q = (q : Int) := ⟨(y.e k (d k)).q.toNat, by omega⟩
 have hq4 : (q : Int) < 4 := by omega
 have hqn : q < y.n := by omega
 rw [hqe] at e1
 have c4' := cell_allocs c4
 have pk' := cell_allocs pk
 have ch' := cell_allocs ch
 have e0' := cell_allocs e0
 have e1' := cell_allocs e1
 have e2' := cell_allocs e2
 have fr' : ∀ j, w.frozen? ⟨X, j, none⟩ = false := fr
 rcases Bool.eq_false_or_eq_true ((y.e k (d k)).k == 2) with t | t
 ·have hk2 : (y.e k (d k)).k = 2 := by simpa using t
  have oq := op k q (by omega) (by omega)
  obtain ⟨o1, o2⟩ := Hs.opn_le hd hl hk hqn
  have oq' := cell_allocs oq
  rw [hk2] at e0 e0'
  have HO : Hid (∀ a b, y.opn (up d k) a b = if a = k ∧ b = q then y.opn d k q + 1 else y.opn d a b) := fun a b => by
   rw [Hs.opn_up, hk2, hqe]
   by_cases e : a = k ∧ b = q
   ·obtain ⟨rfl, rfl⟩ := e
    simp
   ·rw [if_neg e, if_neg (fun h => e ⟨h.1, by omega⟩), if_neg (fun h => absurd h.2.1 (by decide))]
    omega
  clear op pt t hk2 hq hqe hp hE eh ea
  generalize (y.e k (d k)).v = vd at *
  generalize y.opn d k q = on at *
  go_enter Tryz.func98, Tryz.ntmps98
  go_wp2_with fail
  go_region
  all_goals
   go_wp2_with fail
   go_region
   all_goals
    go_wp2_with fail
    go_region
    all_goals
     go_wp2_with fail
     go_end0
     have hz := HP.out.put2 (o := oQ0 2 q vd) (show k < 4 by omega) (show k < 4 by omega) (show q < 4 by omega) HO.out
     exact ⟨rfl, hz.1.dr.dr.dr, hz.2.dr.dr.dr⟩
 rcases Bool.eq_false_or_eq_true ((y.e k (d k)).k == 3) with t3 | t3
 ·have hk3 : (y.e k (d k)).k = 3 := by simpa using t3
  have oq := op q k (by omega) (by omega)
  obtain ⟨o1, o2⟩ := Hs.opn_le hd hl hqn hk
  have oq' := cell_allocs oq
  rw [hk3] at e0 e0'
  have HO : Hid (∀ a b, y.opn (up d k) a b = if a = q ∧ b = k then y.opn d q k - 1 else y.opn d a b) := fun a b => by
   rw [Hs.opn_up, hk3, hqe]
   by_cases e : a = q ∧ b = k
   ·obtain ⟨rfl, rfl⟩ := e
    simp
   ·rw [if_neg e, if_neg (fun h => absurd h.2.1 (by decide)), if_neg (fun h => e ⟨by omega, h.1⟩)]
    omega
  clear op pt t t3 hk3 hq hqe hp hE eh ea
  generalize (y.e k (d k)).v = vd at *
  generalize y.opn d q k = on at *
  go_enter Tryz.func98, Tryz.ntmps98
  go_wp2_with fail
  go_region
  all_goals
   go_wp2_with fail
   go_region
   all_goals
    go_wp2_with fail
    go_region
    all_goals
     go_wp2_with fail
     go_end0
     have hz := HP.out.put2 (o := oQ0 3 q vd) (show k < 4 by omega) (show q < 4 by omega) (show k < 4 by omega) HO.out
     exact ⟨rfl, hz.1.dr.dr.dr, hz.2.dr.dr.dr⟩
 ·have HO : Hid (∀ a b, y.opn (up d k) a b = y.opn d a b) := fun a b => by
   have t2 : (y.e k (d k)).k ≠ 2 := by simpa using t
   have t3' : (y.e k (d k)).k ≠ 3 := by simpa using t3
   rw [Hs.opn_up, if_neg (fun h => t2 h.2.1), if_neg (fun h => t3' h.2.1)]
   omega
  clear op pt hq hqe hp hE eh ea
  generalize (y.e k (d k)).v = vd at *
  generalize (y.e k (d k)).k = kd at *
  go_enter Tryz.func98, Tryz.ntmps98
  go_wp2_with fail
  go_region
  all_goals
   go_wp2_with fail
   go_region
   all_goals
    go_wp2_with fail
    go_end0
    have hz := HP.out.put1 (o := oQ0 kd q vd) (show k < 4 by omega) HO.out
    exact ⟨rfl, hz.1.dr.dr, hz.2.dr.dr⟩
def NxtR (w : World) (y : Hs) (d : Nat → Nat) (e : Ending) (w' : World) : Prop :=
 Below w.heap.size w w' ∧ ((∃ k, k < y.n ∧ y.Can d k ∧ e = .returned (.int .i64 (k : Nat))) ∨ (e = .returned (.int .i64 (-1)) ∧ ∀ p, p < y.n → ¬ y.Can d p))
theorem next_any (X : Nat) (ha : Option Addr) (hc : Nat) (hA : Nat → Option Addr) (hC : Nat → Nat) (y : Hs) (d : Nat → Nat) (w : World) (hE : HisE w ha hA hC y) (hP : HisP w X ha hc y d) (h4 : y.n ≤ 4) (hp : y.Peers) (hl : ∀ i, i < y.n → y.l i ≤ 200) (hd : ∀ i, d i ≤ y.l i) :
  Calls Tryz.prog 123 #[.pointer (some ⟨X, 4, none⟩)] w (NxtR w y d) := by
 have HE : Hid (HisE w ha hA hC y) := hE
 have HP : Hid (HisP w X ha hc y d) := hP
 have HH : Hid (y.Peers ∧ (∀ i, i < y.n → y.l i ≤ 200) ∧ ∀ i, d i ≤ y.l i) := ⟨hp, hl, hd⟩
 have hn : (y.n : Int) ≤ 4 := by omega
 obtain ⟨c4, -, -, -⟩ := hP
 clear hE hp hl hd
 go_enter Tryz.func123, Tryz.ntmps123
 go_wp2_with fail
 clear c4
 go_loopw [9] (fun i wr => ∃ k : Nat, k ≤ y.n ∧ i = .int .i64 k ∧ Below w.heap.size w wr ∧ Hid (∀ j, j < k → ¬ y.Can d j)) (fun i _ => y.n - (intOf i).toNat)
 case atStart => exact ⟨0, Nat.zero_le _, rfl, Below.refl _ _, fun j hj => by omega⟩
 case round =>
  obtain ⟨k, hk, rfl, hbw, HZ⟩ := hrel
  by_cases hlt : k < y.n
  ·have hlt' : (k : Int) < (y.n : Int) := by omega
   go_wp2_with fail
   refine (canPut_any X ha hc hA hC y d k wr (HE.out.below hbw) (HP.out.below hbw) h4 hlt HH.out.1 HH.out.2.1 HH.out.2.2).mono ?_
   rintro e w1 ⟨rfl, b1⟩
   have B1 : Hid (Below w.heap.size w w1) := hbw.trans (b1.mono hbw.size)
   clear b1 hbw
   by_cases hc' : y.Can d k
   ·have HF : Hid (NxtR w y d (.returned (.int .i64 k)) w1) := ⟨B1.out, .inl ⟨k, hlt, hc', rfl⟩⟩
    rw [qB_true hc']
    clear hc' B1
    go_wp2
    go_ret
    exact HF.out
   ·have HZ' : Hid (∀ j, j < k + 1 → ¬ y.Can d j) := fun j hj => by
     by_cases e : j = k
     ·subst e
      exact hc'
     ·exact HZ.out j (by omega)
    rw [qB_false hc']
    clear hc' HZ
    go_wp2
    go_roundw
    case rel => exact ⟨k + 1, by omega, by go_num, B1.out, HZ'.out⟩
    case measure => simp [intOf]; omega
  ·have HF : Hid (NxtR w y d (.returned (.int .i64 (-1))) wr) := ⟨hbw, .inr ⟨rfl, fun p hp => HZ.out p (by omega)⟩⟩
   clear HZ hbw
   go_wp2
   go_ret
   exact HF.out
theorem allPut_any (X : Nat) (ha : Option Addr) (hc : Nat) (hA : Nat → Option Addr) (hC : Nat → Nat) (y : Hs) (d : Nat → Nat) (w : World) (hE : HisE w ha hA hC y) (hP : HisP w X ha hc y d) (h4 : y.n ≤ 4) (hl : ∀ i, i < y.n → y.l i ≤ 200) (hd : ∀ i, d i ≤ y.l i) :
  Calls Tryz.prog 99 #[.pointer (some ⟨X, 4, none⟩)] w fun e w' => e = .returned (.bool (qB (y.All d))) ∧ Below w.heap.size w w' := by
 have HE : Hid (HisE w ha hA hC y) := hE
 have HP : Hid (HisP w X ha hc y d) := hP
 have HH : Hid ((∀ i, i < y.n → y.l i ≤ 200) ∧ ∀ i, d i ≤ y.l i) := ⟨hl, hd⟩
 have hn : (y.n : Int) ≤ 4 := by omega
 obtain ⟨c4, -, -, -⟩ := hP
 clear hE hl hd
 go_enter Tryz.func99, Tryz.ntmps99
 go_wp2_with fail
 clear c4
 go_loopw [10] (fun i wr => ∃ k : Nat, k ≤ y.n ∧ i = .int .i64 k ∧ Below w.heap.size w wr ∧ Hid (∀ j, j < k → d j = y.l j)) (fun i _ => y.n - (intOf i).toNat)
 case atStart => exact ⟨0, Nat.zero_le _, rfl, Below.refl _ _, fun j hj => by omega⟩
 case round =>
  obtain ⟨k, hk, rfl, hbw, HZ⟩ := hrel
  by_cases hlt : k < y.n
  ·have hlt' : (k : Int) < (y.n : Int) := by omega
   have hk4 : (k : Int) < 4 := by omega
   obtain ⟨bh, oh, eh, ch⟩ := (HE.out.below hbw).row.at hlt
   have pk := (HP.out.below hbw).pt k (by omega)
   have hd' : (d k : Int) ≤ (y.l k : Int) := by have := HH.out.2 k; omega
   rw [eh]
   by_cases hs : d k < y.l k
   ·have hs' : (d k : Int) < (y.l k : Int) := by omega
    have HN : Hid (qB (y.All d) = false) := qB_false fun h => by have := h k hlt; omega
    clear HZ
    go_wp2
    go_ret
    rw [HN.out]
    exact ⟨rfl, hbw⟩
   ·have hs' : ¬ (d k : Int) < (y.l k : Int) := by omega
    have HZ' : Hid (∀ j, j < k + 1 → d j = y.l j) := fun j hj => by
     by_cases e : j = k
     ·subst e
      omega
     ·exact HZ.out j (by omega)
    clear HZ
    go_wp2
    go_roundw
    case rel => exact ⟨k + 1, by omega, by go_num, hbw, HZ'.out⟩
    case measure => simp [intOf]; omega
  ·have HN : Hid (qB (y.All d) = true) := qB_true fun p hp => HZ.out p (by omega)
   clear HZ
   go_wp2
   go_ret
   rw [HN.out]
   exact ⟨rfl, hbw⟩
end Go.Proofs.YtnfdnnmddadmkaaGreatDoor
