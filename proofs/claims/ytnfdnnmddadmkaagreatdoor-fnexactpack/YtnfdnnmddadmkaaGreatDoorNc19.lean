/- What the law of Do holds on to between its calls: what lies where, and what may be written. -/
import Derived.Test.YtnfdnnmddadmkaaGreatDoorNc0
import Derived.Test.YtnfdnnmddadmkaaGreatDoorNc16
import Derived.Test.YtnfdnnmddadmkaaGreatDoorNc18
namespace Go.Proofs.YtnfdnnmddadmkaaGreatDoor
set_option maxRecDepth 100000
set_option maxHeartbeats 1000000
open Go.ChangeShapes Go.WideShapes Go.ChangeAt Go.RowKit Go.Deep
def sumL (ls : Nat → Nat) : Nat → Nat
 | 0 => 0
 | n + 1 => sumL ls n + ls n
theorem sumL_mono (ls : Nat → Nat) {k n : Nat} (h : k ≤ n) : sumL ls k ≤ sumL ls n := by
 induction n with
 | zero =>
  have : k = 0 := by omega
  subst this
  exact Nat.le_refl _
 | succ n ih =>
  by_cases hk : k = n + 1
  ·subst hk
   exact Nat.le_refl _
  ·have := ih (by omega)
   show sumL ls k ≤ sumL ls n + ls n
   omega
theorem sumL_at (ls : Nat → Nat) {k n : Nat} (h : k < n) : sumL ls k + ls k ≤ sumL ls n := sumL_mono ls (k := k + 1) h
def RowS (w : World) (a0 : Option Addr) (n : Nat) (f : Nat → Value) : Prop :=
 n = 0 ∨ ∃ b off, a0 = some ⟨b, off, none⟩ ∧ b < w.heap.size ∧ ∀ i, i < n → w.cell? ⟨b, off + i, none⟩ = some (f i)
theorem RowS.below {w w' : World} {a0 : Option Addr} {n : Nat} {f : Nat → Value} (h : RowS w a0 n f) (hb : Below w.heap.size w w') : RowS w' a0 n f := by
 rcases h with h | ⟨b, off, e, hlt, hc⟩
 ·exact .inl h
 ·exact .inr ⟨b, off, e, Nat.lt_of_lt_of_le hlt hb.size, fun i hi => (hb.cell (p := ⟨b, off + i, none⟩) hlt).trans (hc i hi)⟩
theorem RowS.at {w : World} {a0 : Option Addr} {n : Nat} {f : Nat → Value} (h : RowS w a0 n f) {k : Nat} (hk : k < n) : ∃ b off, a0 = some ⟨b, off, none⟩ ∧ w.cell? ⟨b, off + k, none⟩ = some (f k) := by
 rcases h with rfl | ⟨b, off, e, -, hc⟩
 ·omega
 ·exact ⟨b, off, e, hc k hk⟩
structure Touch (P : Nat → Prop) (w w' : World) : Prop where
 os : w'.os = w.os
 tape : w'.tape = w.tape
 output : w'.output = w.output
 size : w.heap.size ≤ w'.heap.size
 block : ∀ k, k < w.heap.size → ¬ P k → w'.heap[k]? = w.heap[k]?
theorem Touch.refl (P : Nat → Prop) (w : World) : Touch P w w := ⟨rfl, rfl, rfl, Nat.le_refl _, fun _ _ _ => rfl⟩
theorem Touch.trans {P : Nat → Prop} {a b c : World} (h : Touch P a b) (k : Touch P b c) : Touch P a c :=
 ⟨k.os.trans h.os, k.tape.trans h.tape, k.output.trans h.output, Nat.le_trans h.size k.size, fun i hi hn => (k.block i (Nat.lt_of_lt_of_le hi h.size) hn).trans (h.block i hi hn)⟩
theorem Touch.mono {P Q : Nat → Prop} {w w' : World} (h : Touch P w w') (hq : ∀ k, P k → Q k) : Touch Q w w' :=
 ⟨h.os, h.tape, h.output, h.size, fun k hk hn => h.block k hk fun hp => hn (hq k hp)⟩
theorem Touch.of_grown {P : Nat → Prop} {w w' : World} {row : Option Nat} (h : w.grownBy w' row) (hp : ∀ k, row = some k → P k) : Touch P w w' :=
 ⟨h.os, h.tape, h.output, h.size, fun k hk hn => h.block k hk fun e => hn (hp k e.symm)⟩
theorem Touch.of_below {P : Nat → Prop} {w w' : World} (h : Below w.heap.size w w') : Touch P w w' :=
 ⟨h.os, h.tape, h.output, h.size, fun k hk _ => h.block k hk⟩
theorem Touch.of_set {P : Nat → Prop} (w : World) {a : Addr} (ha : P a.block) (u : Value) : Touch P w (w.setCell a u) :=
 ⟨rfl, rfl, rfl, by simp [World.setCell], fun k _ hn => Below.heap_setCell _ _ _ _ fun e => hn (e ▸ ha)⟩
theorem Touch.below {P : Nat → Prop} {w w' : World} {B : Nat} (h : Touch P w w') (hB : B ≤ w.heap.size) (hp : ∀ k, P k → B ≤ k) : Below B w w' :=
 ⟨h.os, h.tape, h.output, h.size, fun k hk => h.block k (by omega) fun e => by have := hp k e; omega⟩
theorem Touch.cell {P : Nat → Prop} {w w' : World} (h : Touch P w w') {b : Nat} (hb : b < w.heap.size) (hp : ¬ P b) (j : Nat) : w'.cell? ⟨b, j, none⟩ = w.cell? ⟨b, j, none⟩ := World.cell?_of_block (h.block b hb hp)
theorem Touch.frozen {P : Nat → Prop} {w w' : World} (h : Touch P w w') {b : Nat} (hb : b < w.heap.size) (hp : ¬ P b) (j : Nat) : w'.frozen? ⟨b, j, none⟩ = w.frozen? ⟨b, j, none⟩ := World.frozen?_of_block (h.block b hb hp)
theorem open_rows {H : Type} {enc : TypeId × Value → H} {w : World} {spare : Nat → Bool} {held : Bool} {base : Nat} {a0 : Option Addr} {len cap : Nat} {d : DataW H} {p : List MemPlace} {t el : TypeId} (hu : Tryz.prog.underlying t = some (.slice el)) (h1 : Tryz.prog.cellsOf el = 1)
  (h : DataW.Trod enc Tryz.prog w base spare held t (.slice a0 len cap) d p) :
  len ≤ maxLen ∧ ∃ f : Nat → Value, RowS w a0 len f ∧ ∀ i, i < len → ∃ m x, DataW.trod enc Tryz.prog w base spare held m el [f i] = some x := by
 obtain ⟨fuel, hf⟩ := h
 rcases Go.Deep.open_slice hu hf with ⟨hcs, _⟩ | ⟨a, len', cap', m, n, D, Pl, hcs, _, hl, hm, hmm, _, hx⟩
 ·simp [Value.cells] at hcs
  obtain ⟨_, rfl, _⟩ := hcs
  exact ⟨Nat.zero_le _, fun _ => .int .i64 0, .inl rfl, fun i hi => by omega⟩
 ·simp [Value.cells] at hcs
  obtain ⟨rfl, rfl, rfl⟩ := hcs
  refine ⟨Nat.le_trans hl hm, ?_⟩
  have hle : len ≤ m := by rw [hmm]; split <;> omega
  rw [h1] at hx
  obtain ⟨b, off, spot⟩ := a
  have hcell : ∀ i, i < len → ∃ c : Value, w.cell? (Addr.add (Addr.add ⟨b, off, spot⟩ (i * 1)) 0) = some c ∧ ∃ m x, DataW.trod enc Tryz.prog w base spare held m el [c] = some x := by
   intro i hi
   obtain ⟨cs', h1, h2⟩ := hx i (by omega)
   obtain ⟨_, hlen, hc⟩ := World.cells?_some h1
   match cs', hlen with
   | [c0], _ => exact ⟨c0, hc 0 (by omega), _, _, h2⟩
  have inh : Inhabited Value := ⟨.int .i64 0⟩
  obtain ⟨g, hg⟩ := Go.Deep.choose_lt (α := Value) hcell
  refine ⟨g, ?_, fun i hi => (hg i hi).2⟩
  by_cases h0 : len = 0
  ·exact .inl h0
  have hspot : spot = none := by
   have hx0 := (hg 0 (by omega)).1
   simpa [Addr.add] using World.cell?_spot hx0
  subst hspot
  have hI : ∀ i, i < len → w.cell? ⟨b, off + i, none⟩ = some (g i) := by
   intro i hi
   have q0 := (hg i hi).1
   rw [addr_addO, addr_addO, Nat.mul_one] at q0
   exact q0
  exact .inr ⟨b, off, rfl, cell_lt (hI 0 (by omega)), hI⟩
structure OutEvent (w : World) (D hi n : Nat) (ls : Nat → Nat) (bs : Nat → Nat) (h : Nat → Nat → E3) : Prop where
 cel : ∀ i, i < n → w.cell? ⟨D, i, none⟩ = some (.slice (some ⟨bs i, 0, none⟩) (ls i) (ls i))
 bd : ∀ i, i < n → D < bs i ∧ bs i < hi
 row : ∀ i, i < n → EvAt w (bs i) 0 (ls i) (h i)
 fr : ∀ i, i < n → ∀ j, w.frozen? ⟨bs i, j, none⟩ = false
 up : ∀ i j, i < j → j < n → bs i < bs j
 le : hi ≤ w.heap.size
 lt : D < hi
theorem OutEvent.below {w w' : World} {D hi n B : Nat} {ls : Nat → Nat} {bs : Nat → Nat} {h : Nat → Nat → E3} (o : OutEvent w D hi n ls bs h) (hb : Below B w w') (hB : hi ≤ B) : OutEvent w' D hi n ls bs h :=
 ⟨fun i hi' => (hb.cell (p := ⟨D, i, none⟩) (Nat.lt_of_lt_of_le o.lt hB)).trans (o.cel i hi'), o.bd, fun i hi' => (o.row i hi').below hb (Nat.lt_of_lt_of_le (o.bd i hi').2 hB), fun i hi' j => (hb.frozen (p := ⟨bs i, j, none⟩) (Nat.lt_of_lt_of_le (o.bd i hi').2 hB)).trans (o.fr i hi' j), o.up, Nat.le_trans o.le hb.size, o.lt⟩
theorem OutEvent.keep {w w' : World} {D hi n : Nat} {ls : Nat → Nat} {bs : Nat → Nat} {h : Nat → Nat → E3} (o : OutEvent w D hi n ls bs h) (hs : w.heap.size ≤ w'.heap.size) (hb : ∀ k, D ≤ k → k < hi → w'.heap[k]? = w.heap[k]?) : OutEvent w' D hi n ls bs h := by
 refine ⟨fun i hi' => (World.cell?_of_block (hb D (Nat.le_refl _) o.lt)).trans (o.cel i hi'), o.bd, fun i hi' => ?_, fun i hi' j => (World.frozen?_of_block (hb _ (Nat.le_of_lt (o.bd i hi').1) (o.bd i hi').2)).trans (o.fr i hi' j), o.up, Nat.le_trans o.le hs, o.lt⟩
 have hc : ∀ j, w'.cell? ⟨bs i, j, none⟩ = w.cell? ⟨bs i, j, none⟩ := fun j => World.cell?_of_block (hb _ (Nat.le_of_lt (o.bd i hi').1) (o.bd i hi').2)
 intro t ht
 have := o.row i hi' t ht
 simp only [hc]
 exact this
theorem szEventSS_small (a0 : Option Addr) (n cap : Nat) (aa : Nat → Option Addr) (ls cs : Nat → Nat) (L : Int) (w : World) (hr : RowS w a0 n fun i => .slice (aa i) (ls i) (cs i)) (h : (n : Int) + (sumL ls n : Nat) ≤ L) (hL : L ≤ 1048576) :
  Calls Tryz.prog 61 #[.slice a0 n cap, .int .i64 L] w fun e w' => e = .returned (.int .i64 (L - n - (sumL ls n : Nat))) ∧ w' = w := by
 have hn : (n : Int) ≤ 1048576 := by omega
 have h0 : 0 ≤ L := by omega
 have hn0 : ¬ (L - (n : Int) < 0) := by omega
 have HR : Hid (RowS w a0 n fun i => .slice (aa i) (ls i) (cs i)) := hr
 have HS : Hid ((n : Int) + (sumL ls n : Nat) ≤ L) := h
 clear hr h
 go_enter Tryz.func61, Tryz.ntmps61
 go_wp2_with fail
 go_loopw [1, 5] (fun q i wr => ∃ k : Nat, k ≤ n ∧ i = .int .i64 k ∧ q = .int .i64 (L - n - (sumL ls k : Nat)) ∧ wr = w) (fun _ i _ => n - (intOf i).toNat)
 case atStart => exact ⟨0, Nat.zero_le _, rfl, by simp [sumL], rfl⟩
 case round =>
  obtain ⟨k, hk, rfl, rfl, rfl⟩ := hrel
  by_cases hlt : k < n
  ·have hlt' : (k : Int) < (n : Int) := by omega
   obtain ⟨b, off, rfl, ck⟩ := HR.out.at hlt
   have hsl := sumL_at ls hlt
   have hS := HS.out
   have e1 : (L - n - (sumL ls k : Nat)) - (ls k : Int) = L - n - (sumL ls (k + 1) : Nat) := by simp only [sumL]; omega
   have HE : Hid ((L - n - (sumL ls k : Nat)) - (ls k : Int) = L - n - (sumL ls (k + 1) : Nat)) := e1
   have e2 : (ls k : Int) ≤ L - n - (sumL ls k : Nat) := by omega
   have e3 : ¬ (L - n - (sumL ls (k + 1) : Nat) < 0) := by omega
   have e4 : L - n - (sumL ls k : Nat) ≤ 1048576 := by omega
   clear e1 hS hsl
   generalize hy : L - n - (sumL ls (k + 1) : Nat) = Y at *
   go_wp2_with fail
   refine (szEventS_small _ _ _ _ _ e2 e4).mono ?_
   rintro e w1 ⟨rfl, rfl⟩
   rw [HE.out]
   clear e2 e4
   go_wp2
   go_roundw
   case rel => exact ⟨k + 1, by omega, by go_num, by rw [← hy], by trivial⟩
   case measure => simp [intOf]; omega
  ·have hkl : k = n := by omega
   subst hkl
   go_wp2
   go_ret
   exact ⟨rfl, rfl⟩
theorem szEventSS_great (a0 : Option Addr) (n cap : Nat) (aa : Nat → Option Addr) (ls cs : Nat → Nat) (L : Int) (w : World) (hr : RowS w a0 n fun i => .slice (aa i) (ls i) (cs i)) (h : L < (n : Int) + (sumL ls n : Nat)) (h0 : 0 ≤ L) (hL : L ≤ 1048576) (hm : n ≤ maxLen) (hl : ∀ i, i < n → ls i ≤ maxLen) :
  Calls Tryz.prog 61 #[.slice a0 n cap, .int .i64 L] w fun e w' => e = .returned (.int .i64 (-1)) ∧ w' = w := by
 have hm' : (n : Int) ≤ 9223372036854775807 := by unfold maxLen at hm; omega
 by_cases hn0 : L - (n : Int) < 0
 ·go_enter Tryz.func61, Tryz.ntmps61
  go_wp2
  go_ret
  exact ⟨rfl, rfl⟩
 have hn : (n : Int) ≤ 1048576 := by omega
 have HR : Hid (RowS w a0 n fun i => .slice (aa i) (ls i) (cs i)) := hr
 have HS : Hid (L < (n : Int) + (sumL ls n : Nat)) := h
 have HL : Hid (∀ i, i < n → ls i ≤ maxLen) := hl
 clear hr h hl hm
 go_enter Tryz.func61, Tryz.ntmps61
 go_wp2_with fail
 go_loopw [1, 5] (fun q i wr => ∃ k : Nat, k ≤ n ∧ i = .int .i64 k ∧ q = .int .i64 (L - n - (sumL ls k : Nat)) ∧ 0 ≤ L - n - (sumL ls k : Nat) ∧ wr = w) (fun _ i _ => n - (intOf i).toNat)
 case atStart => exact ⟨0, Nat.zero_le _, rfl, by simp [sumL], by simp only [sumL]; omega, rfl⟩
 case round =>
  obtain ⟨k, hk, rfl, rfl, hp, rfl⟩ := hrel
  by_cases hlt : k < n
  ·have hlt' : (k : Int) < (n : Int) := by omega
   obtain ⟨b, off, rfl, ck⟩ := HR.out.at hlt
   have hml := HL.out k hlt
   have e1 : (L - n - (sumL ls k : Nat)) - (ls k : Int) = L - n - (sumL ls (k + 1) : Nat) := by simp only [sumL]; omega
   have HE : Hid ((L - n - (sumL ls k : Nat)) - (ls k : Int) = L - n - (sumL ls (k + 1) : Nat)) := e1
   have e4 : L - n - (sumL ls k : Nat) ≤ 1048576 := by omega
   clear e1
   by_cases hb : (ls k : Int) ≤ L - n - (sumL ls k : Nat)
   ·have e3 : 0 ≤ L - n - (sumL ls (k + 1) : Nat) := by have := HE.out; omega
    have e3' : ¬ (L - n - (sumL ls (k + 1) : Nat) < 0) := by omega
    generalize hy : L - n - (sumL ls (k + 1) : Nat) = Y at *
    go_wp2_with fail
    refine (szEventS_small _ _ _ _ _ hb e4).mono ?_
    rintro e w1 ⟨rfl, rfl⟩
    rw [HE.out]
    clear hb e4 hml hp
    go_wp2
    go_roundw
    case rel => exact ⟨k + 1, by omega, by go_num, by rw [← hy], by omega, by trivial⟩
    case measure => simp [intOf]; omega
   ·have hb' : L - n - (sumL ls k : Nat) < (ls k : Int) := by omega
    go_wp2_with fail
    refine (szEventS_great _ _ _ _ _ hb' hp e4 hml).mono ?_
    rintro e w1 ⟨rfl, rfl⟩
    clear hb hb' e4 hml hp HE
    go_wp2
    go_ret
    exact ⟨rfl, rfl⟩
  ·have hkl : k = n := by omega
   subst hkl
   have := HS.out
   omega
theorem infoEventS : (Tryz.prog.info? 84).map (fun i => (i.zero, i.size, i.bytes)) = some (some (.slice none 0 0), 1, 24) := by kernel_rfl
theorem run_make_EventS (n : Nat) (hn : n ≤ 1048576) (w : World) :
  (Instr.makeSlice 27 (.int .i64 (n : Int)) (.int .i64 (n : Int))).run Tryz.prog w = .ok (.slice (some ⟨w.heap.size, 0, none⟩) n n) (w.alloc (.cells (madeCells #[.slice none 0 0] n) 84)) := by
 have hinfo := infoEventS
 cases hi : Tryz.prog.info? 84 with
 | none => rw [hi] at hinfo; cases hinfo
 | some i =>
  rw [hi] at hinfo
  simp only [Option.map_some, Option.some.injEq, Prod.mk.injEq] at hinfo
  obtain ⟨hz, hs, hb⟩ := hinfo
  have h := run_make (P := Tryz.prog) w 27 84 i _ Tryz.underlying27 hi hz .i64 .i64 (n : Int) (n : Int) (by omega) (Int.le_refl _) (by rw [hb]; omega) (by omega)
  rw [hs] at h
  simpa [Value.cells] using h
theorem madeEventS_row (w : World) (n : Nat) : (w.alloc (.cells (madeCells #[.slice none 0 0] n) 84)).rowIs w.heap.size 84 n (fun _ => .slice none 0 0) := by
 refine ⟨_, blk_alloc_new _ _, size_madeCells _ _, fun i hi => ?_⟩
 simp only [madeCells]
 rw [Array.getElem?_map, Array.getElem?_range, if_pos hi]
 have : i % 1 = 0 := Nat.mod_one i
 exact congrArg some (by simp [this])
structure FillEvent (w : World) (D k : Nat) (f : Nat → Value) (ls : Nat → Nat) (bs : Nat → Nat) (h : Nat → Nat → E3) : Prop where
 cel : ∀ i, i < k → f i = .slice (some ⟨bs i, 0, none⟩) (ls i) (ls i)
 bd : ∀ i, i < k → D < bs i ∧ bs i < w.heap.size
 row : ∀ i, i < k → EvAt w (bs i) 0 (ls i) (h i)
 fr : ∀ i, i < k → ∀ j, w.frozen? ⟨bs i, j, none⟩ = false
 up : ∀ i j, i < j → j < k → bs i < bs j
theorem FillEvent.step {w w1 : World} {D k : Nat} {f : Nat → Value} {ls : Nat → Nat} {bs : Nat → Nat} {h : Nat → Nat → E3} (o : FillEvent w D k f ls bs h) (hb : Below w.heap.size w w1) (hD : D < w.heap.size) (hz : w.heap.size < w1.heap.size) (hr : EvAt w1 w.heap.size 0 (ls k) (h k)) (hf : ∀ j, w1.frozen? ⟨w.heap.size, j, none⟩ = false) (u : Value) :
  FillEvent (w1.setCell ⟨D, k, none⟩ u) D (k + 1) (fun i => if i = k then .slice (some ⟨w.heap.size, 0, none⟩) (ls k) (ls k) else f i) ls (fun i => if i = k then w.heap.size else bs i) h := by
 have hs : ∀ b, b ≠ D → (w1.setCell ⟨D, k, none⟩ u).heap[b]? = w1.heap[b]? := fun b hne => Below.heap_setCell _ _ _ _ hne
 have hat : ∀ b n g, b ≠ D → EvAt w1 b 0 n g → EvAt (w1.setCell ⟨D, k, none⟩ u) b 0 n g := fun b n g hne hg => fun i hi => by
  have hc : ∀ j, (w1.setCell ⟨D, k, none⟩ u).cell? ⟨b, j, none⟩ = w1.cell? ⟨b, j, none⟩ := fun j => World.cell?_of_block (hs b hne)
  have := hg i hi
  simp only [hc]
  exact this
 refine ⟨fun i hi => ?_, fun i hi => ?_, fun i hi => ?_, fun i hi j => ?_, fun i j hij hj => ?_⟩
 ·by_cases e : i = k
  ·subst e; simp
  ·simp only [if_neg e]; exact o.cel i (by omega)
 ·by_cases e : i = k
  ·subst e; simp; omega
  ·simp only [if_neg e, World.size_setCell]; have := o.bd i (by omega); omega
 ·by_cases e : i = k
  ·subst e; simp only [if_true]; exact hat _ _ _ (by omega) hr
  ·simp only [if_neg e]; have hbd := o.bd i (by omega); exact hat _ _ _ (by omega) ((o.row i (by omega)).below hb hbd.2)
 ·by_cases e : i = k
  ·subst e; simp only [if_true]; rw [World.frozen?_setCell]; exact hf j
  ·simp only [if_neg e]; rw [World.frozen?_setCell]; have hbd := o.bd i (by omega); exact (hb.frozen (p := ⟨bs i, j, none⟩) hbd.2).trans (o.fr i (by omega) j)
 ·by_cases e : j = k
  ·have hi : i ≠ k := by omega
   simp only [if_neg hi, if_pos e]
   exact (o.bd i (by omega)).2
  ·have hi : i ≠ k := by omega
   simp only [if_neg hi, if_neg e]
   exact o.up i j hij (by omega)
structure AllEvent (W : World) (a0 : Option Addr) (n : Nat) (aa : Nat → Option Addr) (ls cs : Nat → Nat) (h : Nat → Nat → E3) : Prop where
 row : RowS W a0 n fun i => .slice (aa i) (ls i) (cs i)
 cop : ∀ i, i < n → CopiesE W (aa i) (ls i) (cs i) (h i)
theorem toEventSS_any (a0 : Option Addr) (n cap : Nat) (aa : Nat → Option Addr) (ls cs : Nat → Nat) (h : Nat → Nat → E3) (W w : World) (hn : n ≤ 1048576) (hA : AllEvent W a0 n aa ls cs h) (hW : Below W.heap.size W w) :
  Calls Tryz.prog 65 #[.slice a0 n cap] w fun e w' => e = .returned (.slice (some ⟨w.heap.size, 0, none⟩) n n) ∧ (∃ bs, OutEvent w' w.heap.size w'.heap.size n ls bs h) ∧ Below w.heap.size w w' := by
 have hl' : (n : Int) ≤ 1048576 := by omega
 have hmk := run_make_EventS n hn
 have HA : Hid (AllEvent W a0 n aa ls cs h) := hA
 have HW : Hid (Below W.heap.size W w) := hW
 clear hA hW
 go_enter Tryz.func65, Tryz.ntmps65
 go_wp2_with fail
 clear hmk
 go_loopw [4] (fun i wr => ∃ k : Nat, k ≤ n ∧ i = .int .i64 k ∧ (∃ f, wr.rowIs w.heap.size 84 n f ∧ Hid (∃ bs, FillEvent wr w.heap.size k f ls bs h)) ∧ Below w.heap.size w wr) (fun i _ => n - (intOf i).toNat)
 case atStart => exact ⟨0, Nat.zero_le _, rfl, ⟨_, madeEventS_row w n, fun _ => 0, fun i hi => by omega, fun i hi => by omega, fun i hi => by omega, fun i hi => by omega, fun i j hij hj => by omega⟩, (Below.refl _ _).alloc (Nat.le_refl _) _⟩
 case round =>
  obtain ⟨k, hk, rfl, ⟨f, hrow, HF⟩, hbw⟩ := hrel
  have hs := hrow.lt
  by_cases hlt : k < n
  ·have hlt' : (k : Int) < (n : Int) := by omega
   have HB : Hid (Below W.heap.size W wr) := HW.out.trans (hbw.mono HW.out.size)
   obtain ⟨b, off, rfl, ck⟩ := (HA.out.row.below HB.out).at hlt
   have HR : Hid (wr.rowIs w.heap.size 84 n f) := hrow
   clear hrow
   go_wp2_with fail
   refine (HA.out.cop k hlt wr HB.out).mono ?_
   rintro e w1 ⟨rfl, hi1, hz1, hb1, hf1⟩
   have hr1 : w1.rowIs w.heap.size 84 n f := HR.out.of_block (hb1.block _ hs)
   have f0 := hr1.frozen k
   have g0 := hr1.cell (i := k) hlt
   have HR1 : Hid (w1.rowIs w.heap.size 84 n f) := hr1
   have HF1 : Hid (∃ bs, FillEvent (w1.setCell ⟨w.heap.size, k, none⟩ (.slice (some ⟨wr.heap.size, 0, none⟩) (ls k) (ls k))) w.heap.size (k + 1) (fun i => if i = k then .slice (some ⟨wr.heap.size, 0, none⟩) (ls k) (ls k) else f i) ls bs h) := by
    obtain ⟨bs, o⟩ := HF.out
    exact ⟨_, o.step hb1 hs hz1 hi1 hf1 _⟩
   clear hr1 hi1 HF HR hf1
   go_wp2_with fail
   exact ⟨⟨k + 1, by omega, by go_num, ⟨_, HR1.out.set _ _, HF1.out⟩, (hbw.trans (hb1.mono (Nat.le_of_lt hs))).setCell (Nat.le_refl _) _⟩, by simp [intOf]; omega⟩
  ·have hkl : k = n := by omega
   have HO : Hid (∃ bs, OutEvent wr w.heap.size wr.heap.size n ls bs h) := by
    obtain ⟨bs, o⟩ := HF.out
    rw [hkl] at o
    exact ⟨bs, fun i hi => by rw [hrow.cell hi, o.cel i hi], o.bd, o.row, o.fr, o.up, Nat.le_refl _, hs⟩
   clear hkl HF hrow
   go_wp2
   go_ret
   exact ⟨rfl, HO.out, hbw⟩
theorem eqEventSS_same (D1 h1 D2 h2 n c1 c2 : Nat) (ls b1 b2 : Nat → Nat) (h : Nat → Nat → E3) (w : World) (hn : n ≤ 1048576) (hl : ∀ i, i < n → ls i ≤ 1048576) (o1 : OutEvent w D1 h1 n ls b1 h) (o2 : OutEvent w D2 h2 n ls b2 h) :
  Calls Tryz.prog 70 #[.slice (some ⟨D1, 0, none⟩) n c1, .slice (some ⟨D2, 0, none⟩) n c2] w fun e w' => e = .returned (.bool true) ∧ Below w.heap.size w w' := by
 have hl' : (n : Int) ≤ 1048576 := by omega
 have O1 : Hid (OutEvent w D1 h1 n ls b1 h) := o1
 have O2 : Hid (OutEvent w D2 h2 n ls b2 h) := o2
 have HL : Hid (∀ i, i < n → ls i ≤ 1048576) := hl
 clear o1 o2 hl
 go_enter Tryz.func70, Tryz.ntmps70
 go_wp2_with fail
 go_loopw [5] (fun i wr => ∃ k : Nat, k ≤ n ∧ i = .int .i64 k ∧ Below w.heap.size w wr) (fun i _ => n - (intOf i).toNat)
 case atStart => exact ⟨0, Nat.zero_le _, rfl, Below.refl _ _⟩
 case round =>
  obtain ⟨k, hk, rfl, hbw⟩ := hrel
  have hs := hbw.size
  by_cases hlt : k < n
  ·have P1 : Hid (OutEvent wr D1 h1 n ls b1 h) := O1.out.below hbw O1.out.le
   have P2 : Hid (OutEvent wr D2 h2 n ls b2 h) := O2.out.below hbw O2.out.le
   have ck := P1.out.cel k hlt
   have dk := P2.out.cel k hlt
   have hlt' : (k : Int) < (n : Int) := by omega
   go_wp2_with fail
   first | (go_region_with (go_at_call 135; refine (eqEventS_same (b1 k) (b2 k) (ls k) (ls k) (ls k) (h k) wr.drew (HL.out k hlt) (Nat.lt_of_lt_of_le (P1.out.bd k hlt).2 P1.out.le) (Nat.lt_of_lt_of_le (P2.out.bd k hlt).2 P2.out.le) (P1.out.row k hlt) (P2.out.row k hlt)).mono ?_; rintro e w1 ⟨rfl, hq1⟩)) | fail
   all_goals
    go_wp2
    go_roundw
    case rel => exact ⟨k + 1, by omega, by go_num, hbw.drew.trans (hq1.mono hs)⟩
    case measure => simp [intOf]; omega
  ·go_wp2
   go_ret
   exact ⟨rfl, hbw⟩
theorem markEventSS_any (D hi n cap : Nat) (ls bs : Nat → Nat) (h : Nat → Nat → E3) (k : Int) (w : World) (hn : n ≤ 1048576) (hl : sumL ls n ≤ 1048576) (k0 : 0 ≤ k) (k1 : k ≤ 50000000) (o : OutEvent w D hi n ls bs h) :
  Calls Tryz.prog 75 #[.slice (some ⟨D, 0, none⟩) n cap, .int .i64 k] w fun e w' => e = .returned (.int .i64 (k + 3 * (sumL ls n : Nat))) ∧ Touch (fun b => D < b ∧ b < hi) w w' := by
 have hl' : (n : Int) ≤ 1048576 := by omega
 have O : Hid (OutEvent w D hi n ls bs h) := o
 have HL : Hid (sumL ls n ≤ 1048576) := hl
 clear o hl
 go_enter Tryz.func75, Tryz.ntmps75
 go_wp2_with fail
 go_loopw [1, 5] (fun q i wr => ∃ j : Nat, j ≤ n ∧ i = .int .i64 j ∧ q = .int .i64 (k + 3 * (sumL ls j : Nat)) ∧ Hid (Touch (fun b => ∃ t, t < j ∧ b = bs t) w wr)) (fun _ i _ => n - (intOf i).toNat)
 case atStart => exact ⟨0, Nat.zero_le _, rfl, by simp [sumL], Touch.refl _ _⟩
 case round =>
  obtain ⟨j, hj, rfl, rfl, HT⟩ := hrel
  by_cases hlt : j < n
  ·have hlt' : (j : Int) < (n : Int) := by omega
   have dD : ¬ ∃ t, t < j ∧ D = bs t := by
    rintro ⟨t, ht, e⟩
    have := (O.out.bd t (by omega)).1
    omega
   have dJ : ¬ ∃ t, t < j ∧ bs j = bs t := by
    rintro ⟨t, ht, e⟩
    have := O.out.up t j ht hlt
    omega
   have bJ := O.out.bd j hlt
   have le := O.out.le
   have ck : wr.cell? ⟨D, j, none⟩ = some (.slice (some ⟨bs j, 0, none⟩) (ls j) (ls j)) := (HT.out.cell (Nat.lt_of_lt_of_le O.out.lt le) dD j).trans (O.out.cel j hlt)
   have RM : Hid (RoomE wr (bs j) (ls j)) := by
    have hb : wr.heap[bs j]? = w.heap[bs j]? := HT.out.block (bs j) (by omega) dJ
    have hrm : RoomE w (bs j) (ls j) := RoomE.of_ev (O.out.row j hlt) (O.out.fr j hlt)
    exact ⟨fun i hi => (hrm.1 i hi).elim fun u e => ⟨u, (World.cell?_of_block hb).trans e⟩, fun i => (World.frozen?_of_block hb).trans (hrm.2 i)⟩
   have hsl := sumL_at ls hlt
   have hS := HL.out
   have e1 : k + 3 * (sumL ls j : Nat) + 3 * (ls j : Int) = k + 3 * (sumL ls (j + 1) : Nat) := by simp only [sumL]; omega
   have HE : Hid (k + 3 * (sumL ls j : Nat) + 3 * (ls j : Int) = k + 3 * (sumL ls (j + 1) : Nat)) := e1
   have e2 : 0 ≤ k + 3 * (sumL ls j : Nat) := by omega
   have e3 : k + 3 * (sumL ls j : Nat) ≤ 100000000 := by omega
   have e4 : ls j ≤ 1048576 := by omega
   clear dD bJ le e1 hS hsl
   go_wp2_with fail
   refine (markEventS_any (bs j) (ls j) (ls j) _ wr e4 e2 e3 RM.out).mono ?_
   rintro e w1 ⟨rfl, g1⟩
   rw [HE.out]
   have HT1 : Hid (Touch (fun b => ∃ t, t < j + 1 ∧ b = bs t) w w1) := (HT.out.mono fun b ⟨t, ht, e⟩ => ⟨t, by omega, e⟩).trans (Touch.of_grown g1 fun b e => ⟨j, by omega, by simpa using e.symm⟩)
   clear HT dJ RM e2 e3 e4 g1
   go_wp2
   go_roundw
   case rel => exact ⟨j + 1, by omega, by go_num, rfl, HT1.out⟩
   case measure => simp [intOf]; omega
  ·have hkl : j = n := by omega
   subst hkl
   have HT1 : Hid (Touch (fun b => D < b ∧ b < hi) w wr) := HT.out.mono fun b ⟨t, ht, e⟩ => by
    subst e
    exact O.out.bd t ht
   clear HT
   go_wp2
   go_ret
   exact ⟨rfl, HT1.out⟩
theorem open_EventSS {H : Type} {enc : TypeId × Value → H} {w : World} {spare : Nat → Bool} {held : Bool} {base : Nat} {a0 : Option Addr} {len cap : Nat} {d : DataW H} {p : List MemPlace}
  (h : DataW.Trod enc Tryz.prog w base spare held 51 (.slice a0 len cap) d p) :
  len ≤ maxLen ∧ ∃ aa ls cs, RowS w a0 len (fun i => .slice (aa i) (ls i) (cs i)) ∧ (∀ i, i < len → ls i ≤ maxLen) ∧ ((∀ i, i < len → ls i ≤ 1048576) → ∃ hh, AllEvent w a0 len aa ls cs hh) := by
 obtain ⟨hm, f, hrow, hf⟩ := open_rows Tryz.underlying51 (el := 169) (by kernel_rfl) h
 refine ⟨hm, ?_⟩
 have hpart : ∀ i, i < len → ∃ x : Option Addr × Nat × Nat, f i = .slice x.1 x.2.1 x.2.2 ∧ x.2.1 ≤ maxLen ∧ (x.2.1 ≤ 1048576 → ∃ g, CopiesE w x.1 x.2.1 x.2.2 g) := by
  intro i hi
  obtain ⟨m, x, hx⟩ := hf i hi
  have hsl : ∃ a l c, f i = .slice a l c := by
   rcases Go.Deep.open_slice Tryz.underlying169 hx with ⟨hcs, _⟩ | ⟨a, len', cap', m, n, D, Pl, hcs, _⟩
   ·simp at hcs
    exact ⟨_, _, _, hcs⟩
   ·simp at hcs
    exact ⟨_, _, _, hcs⟩
  obtain ⟨a, l, c, e⟩ := hsl
  rw [e] at hx
  obtain ⟨h1, h2⟩ := open_evRow (d := x.1) (p := x.2) (a0 := a) (len := l) (cap := c) ⟨m, by simpa [Value.cells] using hx⟩
  exact ⟨(a, l, c), e, h1, fun hs => copiesE_of hs h2⟩
 obtain ⟨g, hg⟩ := Go.Deep.choose_lt (α := Option Addr × Nat × Nat) hpart
 refine ⟨fun i => (g i).1, fun i => (g i).2.1, fun i => (g i).2.2, ?_, fun i hi => (hg i hi).2.1, fun hs => ?_⟩
 ·rcases hrow with h0 | ⟨b, off, e, hlt, hc⟩
  ·exact .inl h0
  ·exact .inr ⟨b, off, e, hlt, fun i hi => (hc i hi).trans (by rw [(hg i hi).1])⟩
 ·have hq : ∀ i, i < len → ∃ q : Nat → E3, CopiesE w (g i).1 (g i).2.1 (g i).2.2 q := fun i hi => (hg i hi).2.2 (hs i hi)
  have inh : Inhabited (Nat → E3) := ⟨fun _ => ⟨0, 0, 0⟩⟩
  obtain ⟨hh, hhh⟩ := Go.Deep.choose_lt (α := Nat → E3) hq
  refine ⟨hh, ?_, hhh⟩
  rcases hrow with h0 | ⟨b, off, e, hlt, hc⟩
  ·exact .inl h0
  ·exact .inr ⟨b, off, e, hlt, fun i hi => (hc i hi).trans (by rw [(hg i hi).1])⟩
def EvL (w : World) (a : Option Addr) (len : Nat) (h : Nat → E3) : Prop := len = 0 ∨ ∃ b off, a = some ⟨b, off, none⟩ ∧ b < w.heap.size ∧ EvAt w b off len h
theorem EvL.below {w w' : World} {a : Option Addr} {len : Nat} {h : Nat → E3} (hh : EvL w a len h) (hb : Below w.heap.size w w') : EvL w' a len h := by
 rcases hh with e | ⟨b, off, e, hlt, hc⟩
 ·exact .inl e
 ·exact .inr ⟨b, off, e, Nat.lt_of_lt_of_le hlt hb.size, hc.below hb hlt⟩
theorem EvL.at {w : World} {a : Option Addr} {len : Nat} {h : Nat → E3} (hh : EvL w a len h) {k : Nat} (hk : k < len) : ∃ b off, a = some ⟨b, off, none⟩ ∧ b < w.heap.size ∧ w.cell? ⟨b, off + k * 3, none⟩ = some (.int .i64 (h k).k) ∧ w.cell? ⟨b, off + k * 3 + 1, none⟩ = some (.int .i64 (h k).q) ∧ w.cell? ⟨b, off + k * 3 + 2, none⟩ = some (.int .i64 (h k).v) := by
 rcases hh with rfl | ⟨b, off, e, hlt, hc⟩
 ·omega
 ·exact ⟨b, off, e, hlt, hc k hk⟩
theorem EvL.take {w : World} {a : Option Addr} {len : Nat} {h : Nat → E3} (hh : EvL w a len h) {k : Nat} (hk : k ≤ len) : EvL w a k h := by
 rcases hh with rfl | ⟨b, off, e, hlt, hc⟩
 ·exact .inl (by omega)
 ·exact .inr ⟨b, off, e, hlt, fun i hi => hc i (by omega)⟩
theorem EvL.one {w : World} {b off len : Nat} {h : Nat → E3} (hh : EvL w (some ⟨b, off, none⟩) len h) {k : Nat} (hk : k < len) : EvAt w b off len h ∧ b < w.heap.size := by
 rcases hh with rfl | ⟨b', off', e, hlt, hc⟩
 ·omega
 ·simp only [Option.some.injEq, Addr.mk.injEq] at e
  obtain ⟨rfl, rfl, -⟩ := e
  exact ⟨hc, hlt⟩
structure Tu (lo hi : Nat) (w w' : World) : Prop where
 os : w'.os = w.os
 tape : w'.tape = w.tape
 output : w'.output = w.output
 size : w.heap.size ≤ w'.heap.size
 block : ∀ k, k < w.heap.size → (k < lo ∨ hi ≤ k) → w'.heap[k]? = w.heap[k]?
theorem Tu.of_below {w w' : World} (h : Below w.heap.size w w') : Tu 0 0 w w' := ⟨h.os, h.tape, h.output, h.size, fun k hk _ => h.block k hk⟩
theorem Tu.of_row {w w' : World} {b : Nat} (h : w.grownBy w' (some b)) : Tu b (b + 1) w w' := ⟨h.os, h.tape, h.output, h.size, fun k hk hn => h.block k hk (by simp; omega)⟩
theorem Tu.below {lo hi B : Nat} {w w' : World} (h : Tu lo hi w w') (hB : B ≤ w.heap.size) (hl : B ≤ lo) : Below B w w' := ⟨h.os, h.tape, h.output, h.size, fun k hk => h.block k (by omega) (.inl (by omega))⟩
theorem OwnI.ofBlock {w w' : World} {B : Nat} {u : Value} {xs : List Int} (hu : OwnI w B u xs) (ha : ∀ k, u.ownBlock = some k → w'.heap[k]? = w.heap[k]?) : OwnI w' B u xs := by
 rcases hu.2 with ⟨rfl, h0⟩ | ⟨g, cap, cur, rfl, hb, hg, hr⟩
 ·exact ⟨hu.1, .inl ⟨rfl, h0⟩⟩
 ·refine ⟨hu.1, .inr ⟨g, cap, cur, rfl, hb, ?_, hr⟩⟩
  rw [ha g rfl]
  exact hg
theorem OwnI.slOf {w : World} {B n cap : Nat} {a0 : Option Addr} {xs : List Int} (h : OwnI w B (.slice a0 n cap) xs) : Sl w a0 xs := by
 obtain ⟨a1, c1, e, s⟩ := h.form
 simp only [Value.slice.injEq] at e
 obtain ⟨rfl, -, -⟩ := e
 exact s
structure Tl (w : World) (B C N : Nat) (p c : Int) (ra : Option Addr) (rn rc : Nat) (oa : Option Addr) (on oc : Nat) (rs os : List Int) : Prop where
 lo : B ≤ N
 hi : N < C
 sz : C ≤ w.heap.size
 box : BoxC w N (.int .i64 p) (.slice ra rn rc) (.slice oa on oc) (.int .i64 c)
 own : StOwn w B (stV p ra rn rc oa on oc c) p rs os c
 up : ∀ k, hasBlock (stV p ra rn rc oa on oc c) k → k < C
 ne : ¬ hasBlock (stV p ra rn rc oa on oc c) N
theorem Tl.tu {w w' : World} {B C N : Nat} {p c : Int} {ra : Option Addr} {rn rc : Nat} {oa : Option Addr} {on oc : Nat} {rs os : List Int} {lo hi : Nat} (h : Tl w B C N p c ra rn rc oa on oc rs os) (t : Tu lo hi w w') (hd : C ≤ lo ∨ hi ≤ B) : Tl w' B C N p c ra rn rc oa on oc rs os := by
 obtain ⟨h1, h2, h3, ⟨b0, b1, b2, b3⟩, h5, h6, h7⟩ := h
 have hb : ∀ k, B ≤ k → k < C → w'.heap[k]? = w.heap[k]? := fun k k1 k2 => t.block k (by omega) (by omega)
 have hN := hb N h1 h2
 refine ⟨h1, h2, Nat.le_trans h3 t.size, ⟨(World.cell?_of_block hN).trans b0, (World.cell?_of_block hN).trans b1, (World.cell?_of_block hN).trans b2, (World.cell?_of_block hN).trans b3⟩, ?_, h6, h7⟩
 obtain ⟨o1, o2, ha⟩ := h5.parts
 refine ⟨_, _, rfl, o1.ofBlock fun k hk => ?_, o2.ofBlock fun k hk => ?_, ha⟩
 ·exact hb k (o1.lt k hk).1 (h6 k ((hasBlock_iff _ _ _ _ _).2 (.inl hk)))
 ·exact hb k (o2.lt k hk).1 (h6 k ((hasBlock_iff _ _ _ _ _).2 (.inr hk)))
theorem Tl.below {w w' : World} {B C N : Nat} {p c : Int} {ra : Option Addr} {rn rc : Nat} {oa : Option Addr} {on oc : Nat} {rs os : List Int} (h : Tl w B C N p c ra rn rc oa on oc rs os) (hb : Below w.heap.size w w') : Tl w' B C N p c ra rn rc oa on oc rs os := h.tu (Tu.of_below hb) (.inr (Nat.zero_le _))
theorem Tl.sl {w : World} {B C N : Nat} {p c : Int} {ra : Option Addr} {rn rc : Nat} {oa : Option Addr} {on oc : Nat} {rs os : List Int} (h : Tl w B C N p c ra rn rc oa on oc rs os) : Sl w ra rs ∧ Sl w oa os := ⟨h.own.parts.1.slOf, h.own.parts.2.1.slOf⟩
theorem Tl.marked {w w' : World} {B C N : Nat} {p c : Int} {ra : Option Addr} {rn rc : Nat} {oa : Option Addr} {on oc : Nat} {rs os rs' os' : List Int} (h : Tl w B C N p c ra rn rc oa on oc rs os) (ho : StOwn w' B (stV p ra rn rc oa on oc c) p rs' os' c) (hm : Marked (stV p ra rn rc oa on oc c) w w') : Tl w' B C N p c ra rn rc oa on oc rs' os' :=
 ⟨h.lo, h.hi, Nat.le_trans h.sz hm.size, h.box.marked hm h.ne, ho, h.up, h.ne⟩
theorem Tl.of_alloc {w : World} {B : Nat} {p c : Int} {ra oa : Option Addr} {rn rc on oc : Nat} {rs os : List Int} (h : StOwn w B (stV p ra rn rc oa on oc c) p rs os c) (hw : B ≤ w.heap.size) (t : TypeId) : Tl (w.alloc (.cells #[.int .i64 p, .slice ra rn rc, .slice oa on oc, .int .i64 c] t)) B (w.heap.size + 1) w.heap.size p c ra rn rc oa on oc rs os :=
 ⟨hw, Nat.lt_succ_self _, by simp, BoxC.new w _ _ _ _ _, h.below (below_alloc _ _), fun k hk => Nat.lt_succ_of_lt (h.lt hk).2, fun e => Nat.lt_irrefl _ (h.lt e).2⟩
def Told (w : World) (B N : Nat) (S : S4) : Prop := ∃ ra rc oa oc, BoxC w N (.int .i64 S.p) (.slice ra S.rs.length rc) (.slice oa S.os.length oc) (.int .i64 S.c) ∧ StOwn w B (stV S.p ra S.rs.length rc oa S.os.length oc S.c) S.p S.rs S.os S.c ∧ B ≤ N ∧ ¬ hasBlock (stV S.p ra S.rs.length rc oa S.os.length oc S.c) N
theorem Told.tl {w : World} {B N : Nat} {S : S4} (h : Told w B N S) : ∃ ra rc oa oc, Tl w B w.heap.size N S.p S.c ra S.rs.length rc oa S.os.length oc S.rs S.os := by
 obtain ⟨ra, rc, oa, oc, h1, h2, h3, h4⟩ := h
 exact ⟨ra, rc, oa, oc, h3, World.block_lt_of_cell? w _ h1.1, Nat.le_refl _, h1, h2, fun k hk => (h2.lt hk).2, h4⟩
theorem BoxC.set4 {w : World} {N : Nat} {z0 z1 z2 z3 : Value} (h : BoxC w N z0 z1 z2 z3) (a b c d : Value) : BoxC ((((w.setCell ⟨N, 0, none⟩ a).setCell ⟨N, 1, none⟩ b).setCell ⟨N, 2, none⟩ c).setCell ⟨N, 3, none⟩ d) N a b c d := by
 obtain ⟨h0, h1, h2, h3⟩ := h
 exact ⟨by go_cell, by go_cell, by go_cell, by go_cell⟩
theorem grown4 (w : World) (N : Nat) (a b c d : Value) : w.grownBy ((((w.setCell ⟨N, 0, none⟩ a).setCell ⟨N, 1, none⟩ b).setCell ⟨N, 2, none⟩ c).setCell ⟨N, 3, none⟩ d) (some N) := by
 repeat (refine grown_setCell ?_ (.inl rfl) _)
 exact World.grownBy.refl _ _
theorem Told.of_alloc {w : World} {B B' : Nat} {S : S4} {ra oa : Option Addr} {rc oc : Nat} (h : StOwn w B' (stV S.p ra S.rs.length rc oa S.os.length oc S.c) S.p S.rs S.os S.c) (hB : B ≤ B') (hw : B ≤ w.heap.size) (t : TypeId) : Told (w.alloc (.cells #[.int .i64 S.p, .slice ra S.rs.length rc, .slice oa S.os.length oc, .int .i64 S.c] t)) B w.heap.size S := by
 refine ⟨ra, rc, oa, oc, BoxC.new w _ _ _ _ _, ?_, hw, fun e => Nat.lt_irrefl _ (h.lt e).2⟩
 obtain ⟨vr, vo, e, o1, o2, ha⟩ := h
 exact ⟨vr, vo, e, (o1.below (below_alloc _ _)).mono hB, (o2.below (below_alloc _ _)).mono hB, ha⟩
theorem Told.of_put {w : World} {B B' N : Nat} {S : S4} {ra oa : Option Addr} {rc oc : Nat} {z0 z1 z2 z3 : Value} (h : StOwn w B' (stV S.p ra S.rs.length rc oa S.os.length oc S.c) S.p S.rs S.os S.c) (hB : B ≤ B') (hN : N < B') (hw : B ≤ N) (hZ : BoxC w N z0 z1 z2 z3) : Told ((((w.setCell ⟨N, 0, none⟩ (.int .i64 S.p)).setCell ⟨N, 1, none⟩ (.slice ra S.rs.length rc)).setCell ⟨N, 2, none⟩ (.slice oa S.os.length oc)).setCell ⟨N, 3, none⟩ (.int .i64 S.c)) B N S :=
 ⟨ra, rc, oa, oc, hZ.set4 _ _ _ _, h.put4 hN hB, hw, fun e => Nat.not_le_of_lt hN (h.lt e).1⟩
end Go.Proofs.YtnfdnnmddadmkaaGreatDoor
