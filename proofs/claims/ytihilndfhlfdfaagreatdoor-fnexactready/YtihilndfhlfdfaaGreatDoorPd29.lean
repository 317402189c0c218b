/- Lists of lists of one's own, of whatever kind: appended to, put into. -/
import Derived.Test.YtihilndfhlfdfaaGreatDoorPd23
import Derived.Test.YtihilndfhlfdfaaGreatDoorPd16
import Derived.Test.YtihilndfhlfdfaaGreatDoorPd54
import Derived.Maps.AppendAt
import Derived.OneCell
namespace Go.Proofs.YtihilndfhlfdfaaGreatDoor
open Go.ChangeShapes Go.WideShapes Go.ChangeAt Go.RowKit Go.Deep
def sumL (ls : Nat → Nat) : Nat → Nat
 | 0 => 0
 | n + 1 => sumL ls n + ls n
theorem sumL_mono (ls : Nat → Nat) {k n : Nat} (h : k ≤ n) : sumL ls k ≤ sumL ls n := by
 induction n with
 | zero =>
   have : k = 0 := by omega
   subst this
   exact Nat.le_refl _
 | succ n ih =>
   by_cases hk : k = n + 1
   · subst hk
     exact Nat.le_refl _
   · have := ih (by omega)
     show sumL ls k ≤ sumL ls n + ls n
     omega
theorem sumL_at (ls : Nat → Nat) {k n : Nat} (h : k < n) : sumL ls k + ls k ≤ sumL ls n := sumL_mono ls (k := k + 1) h
def RowS (w : World) (a0 : Option Addr) (n : Nat) (f : Nat → Value) : Prop :=
 n = 0 ∨ ∃ b off, a0 = some ⟨b, off, none⟩ ∧ b < w.heap.size ∧ ∀ i, i < n → w.cell? ⟨b, off + i, none⟩ = some (f i)
theorem RowS.below {w w' : World} {a0 : Option Addr} {n : Nat} {f : Nat → Value} (h : RowS w a0 n f) (hb : Below w.heap.size w w') : RowS w' a0 n f := by
 rcases h with h | ⟨b, off, e, hlt, hc⟩
 · exact .inl h
 · exact .inr ⟨b, off, e, Nat.lt_of_lt_of_le hlt hb.size, fun i hi => (hb.cell (p := ⟨b, off + i, none⟩) hlt).trans (hc i hi)⟩
theorem RowS.at {w : World} {a0 : Option Addr} {n : Nat} {f : Nat → Value} (h : RowS w a0 n f) {k : Nat} (hk : k < n) : ∃ b off, a0 = some ⟨b, off, none⟩ ∧ w.cell? ⟨b, off + k, none⟩ = some (f k) := by
 rcases h with rfl | ⟨b, off, e, -, hc⟩
 · omega
 · exact ⟨b, off, e, hc k hk⟩
structure Touch (P : Nat → Prop) (w w' : World) : Prop where
 os : w'.os = w.os
 tape : w'.tape = w.tape
 output : w'.output = w.output
 size : w.heap.size ≤ w'.heap.size
 block : ∀ k, k < w.heap.size → ¬ P k → w'.heap[k]? = w.heap[k]?
theorem Touch.refl (P : Nat → Prop) (w : World) : Touch P w w := ⟨rfl, rfl, rfl, Nat.le_refl _, fun _ _ _ => rfl⟩
theorem Touch.trans {P : Nat → Prop} {a b c : World} (h : Touch P a b) (k : Touch P b c) : Touch P a c :=
 ⟨k.os.trans h.os, k.tape.trans h.tape, k.output.trans h.output, Nat.le_trans h.size k.size, fun i hi hn => (k.block i (Nat.lt_of_lt_of_le hi h.size) hn).trans (h.block i hi hn)⟩
theorem Touch.mono {P Q : Nat → Prop} {w w' : World} (h : Touch P w w') (hq : ∀ k, P k → Q k) : Touch Q w w' :=
 ⟨h.os, h.tape, h.output, h.size, fun k hk hn => h.block k hk fun hp => hn (hq k hp)⟩
theorem Touch.of_grown {P : Nat → Prop} {w w' : World} {row : Option Nat} (h : w.grownBy w' row) (hp : ∀ k, row = some k → P k) : Touch P w w' :=
 ⟨h.os, h.tape, h.output, h.size, fun k hk hn => h.block k hk fun e => hn (hp k e.symm)⟩
theorem Touch.of_below {P : Nat → Prop} {w w' : World} (h : Below w.heap.size w w') : Touch P w w' :=
 ⟨h.os, h.tape, h.output, h.size, fun k hk _ => h.block k hk⟩
theorem Touch.of_set {P : Nat → Prop} (w : World) {a : Addr} (ha : P a.block) (u : Value) : Touch P w (w.setCell a u) :=
 ⟨rfl, rfl, rfl, by simp [World.setCell], fun k _ hn => Below.heap_setCell _ _ _ _ fun e => hn (e ▸ ha)⟩
theorem Touch.below {P : Nat → Prop} {w w' : World} {B : Nat} (h : Touch P w w') (hB : B ≤ w.heap.size) (hp : ∀ k, P k → B ≤ k) : Below B w w' :=
 ⟨h.os, h.tape, h.output, h.size, fun k hk => h.block k (by omega) fun e => by have := hp k e; omega⟩
theorem Touch.cell {P : Nat → Prop} {w w' : World} (h : Touch P w w') {b : Nat} (hb : b < w.heap.size) (hp : ¬ P b) (j : Nat) : w'.cell? ⟨b, j, none⟩ = w.cell? ⟨b, j, none⟩ := World.cell?_of_block (h.block b hb hp)
theorem open_rows {H : Type} {enc : TypeId × Value → H} {w : World} {spare : Nat → Bool} {held : Bool} {base : Nat} {a0 : Option Addr} {len cap : Nat} {d : DataW H} {p : List MemPlace} {t el : TypeId} (hu : Tryz.prog.underlying t = some (.slice el)) (h1 : Tryz.prog.cellsOf el = 1)
   (h : DataW.Trod enc Tryz.prog w base spare held t (.slice a0 len cap) d p) :
   len ≤ maxLen ∧ ∃ f : Nat → Value, RowS w a0 len f ∧ ∀ i, i < len → ∃ m x, DataW.trod enc Tryz.prog w base spare held m el [f i] = some x := by
 obtain ⟨fuel, hf⟩ := h
 rcases Go.Deep.open_slice hu hf with ⟨hcs, _⟩ | ⟨a, len', cap', m, n, D, Pl, hcs, _, hl, hm, hmm, _, hx⟩
 · simp [Value.cells] at hcs
   obtain ⟨_, rfl, _⟩ := hcs
   exact ⟨Nat.zero_le _, fun _ => .int .i64 0, .inl rfl, fun i hi => by omega⟩
 · simp [Value.cells] at hcs
   obtain ⟨rfl, rfl, rfl⟩ := hcs
   refine ⟨Nat.le_trans hl hm, ?_⟩
   have hle : len ≤ m := by rw [hmm]; split <;> omega
   rw [h1] at hx
   obtain ⟨b, off, spot⟩ := a
   have hcell : ∀ i, i < len → ∃ c : Value, w.cell? (Addr.add (Addr.add ⟨b, off, spot⟩ (i * 1)) 0) = some c ∧ ∃ m x, DataW.trod enc Tryz.prog w base spare held m el [c] = some x := by
     intro i hi
     obtain ⟨cs', h1, h2⟩ := hx i (by omega)
     obtain ⟨_, hlen, hc⟩ := World.cells?_some h1
     match cs', hlen with
     | [c0], _ => exact ⟨c0, hc 0 (by omega), _, _, h2⟩
   have inh : Inhabited Value := ⟨.int .i64 0⟩
   obtain ⟨g, hg⟩ := Go.Deep.choose_lt (α := Value) hcell
   refine ⟨g, ?_, fun i hi => (hg i hi).2⟩
   by_cases h0 : len = 0
   · exact .inl h0
   have hspot : spot = none := by
     have hx0 := (hg 0 (by omega)).1
     simpa [Addr.add] using World.cell?_spot hx0
   subst hspot
   have hI : ∀ i, i < len → w.cell? ⟨b, off + i, none⟩ = some (g i) := by
     intro i hi
     have q0 := (hg i hi).1
     rw [addr_addO, addr_addO, Nat.mul_one] at q0
     exact q0
   exact .inr ⟨b, off, rfl, cell_lt (hI 0 (by omega)), hI⟩
end Go.Proofs.YtihilndfhlfdfaaGreatDoor
namespace Go.Proofs.YtihilndfhlfdfaaGreatDoor
open Go.ChangeShapes Go.WideShapes Go.ChangeAt Go.RowKit Go.Deep
structure OutEvent (w : World) (D hi n : Nat) (ls : Nat → Nat) (bs : Nat → Nat) (h : Nat → Nat → E3) : Prop where
 cel : ∀ i, i < n → w.cell? ⟨D, i, none⟩ = some (.slice (some ⟨bs i, 0, none⟩) (ls i) (ls i))
 bd : ∀ i, i < n → D < bs i ∧ bs i < hi
 row : ∀ i, i < n → EvAt w (bs i) 0 (ls i) (h i)
 fr : ∀ i, i < n → ∀ j, w.frozen? ⟨bs i, j, none⟩ = false
 up : ∀ i j, i < j → j < n → bs i < bs j
 le : hi ≤ w.heap.size
 lt : D < hi
theorem OutEvent.below {w w' : World} {D hi n B : Nat} {ls : Nat → Nat} {bs : Nat → Nat} {h : Nat → Nat → E3} (o : OutEvent w D hi n ls bs h) (hb : Below B w w') (hB : hi ≤ B) : OutEvent w' D hi n ls bs h :=
 ⟨fun i hi' => (hb.cell (p := ⟨D, i, none⟩) (Nat.lt_of_lt_of_le o.lt hB)).trans (o.cel i hi'), o.bd, fun i hi' => (o.row i hi').below hb (Nat.lt_of_lt_of_le (o.bd i hi').2 hB), fun i hi' j => (hb.frozen (p := ⟨bs i, j, none⟩) (Nat.lt_of_lt_of_le (o.bd i hi').2 hB)).trans (o.fr i hi' j), o.up, Nat.le_trans o.le hb.size, o.lt⟩
theorem OutEvent.keep {w w' : World} {D hi n : Nat} {ls : Nat → Nat} {bs : Nat → Nat} {h : Nat → Nat → E3} (o : OutEvent w D hi n ls bs h) (hs : w.heap.size ≤ w'.heap.size) (hb : ∀ k, D ≤ k → k < hi → w'.heap[k]? = w.heap[k]?) : OutEvent w' D hi n ls bs h := by
 refine ⟨fun i hi' => (World.cell?_of_block (hb D (Nat.le_refl _) o.lt)).trans (o.cel i hi'), o.bd, fun i hi' => ?_, fun i hi' j => (World.frozen?_of_block (hb _ (Nat.le_of_lt (o.bd i hi').1) (o.bd i hi').2)).trans (o.fr i hi' j), o.up, Nat.le_trans o.le hs, o.lt⟩
 have hc : ∀ j, w'.cell? ⟨bs i, j, none⟩ = w.cell? ⟨bs i, j, none⟩ := fun j => World.cell?_of_block (hb _ (Nat.le_of_lt (o.bd i hi').1) (o.bd i hi').2)
 intro t ht
 have := o.row i hi' t ht
 simp only [hc]
 exact this
set_option maxRecDepth 100000 in
set_option maxHeartbeats 1000000 in
theorem szEventSS_small (a0 : Option Addr) (n cap : Nat) (aa : Nat → Option Addr) (ls cs : Nat → Nat) (L : Int) (w : World) (hr : RowS w a0 n fun i => .slice (aa i) (ls i) (cs i)) (h : (n : Int) + (sumL ls n : Nat) ≤ L) (hL : L ≤ 1048576) :
   Calls Tryz.prog 29 #[.slice a0 n cap, .int .i64 L] w fun e w' => e = .returned (.int .i64 (L - n - (sumL ls n : Nat))) ∧ w' = w := by
 have hn : (n : Int) ≤ 1048576 := by omega
 have h0 : 0 ≤ L := by omega
 have hn0 : ¬ (L - (n : Int) < 0) := by omega
 have HR : Hid (RowS w a0 n fun i => .slice (aa i) (ls i) (cs i)) := hr
 have HS : Hid ((n : Int) + (sumL ls n : Nat) ≤ L) := h
 clear hr h
 go_enter Tryz.func29, Tryz.ntmps29
 go_wp2_with fail
 go_loopw [1, 5] (fun q i wr => ∃ k : Nat, k ≤ n ∧ i = .int .i64 k ∧ q = .int .i64 (L - n - (sumL ls k : Nat)) ∧ wr = w) (fun _ i _ => n - (intOf i).toNat)
 case atStart => exact ⟨0, Nat.zero_le _, rfl, by simp [sumL], rfl⟩
 case round =>
   obtain ⟨k, hk, rfl, rfl, rfl⟩ := hrel
   by_cases hlt : k < n
   · have hlt' : (k : Int) < (n : Int) := by omega
     obtain ⟨b, off, rfl, ck⟩ := HR.out.at hlt
     have hsl := sumL_at ls hlt
     have hS := HS.out
     have e1 : (L - n - (sumL ls k : Nat)) - (ls k : Int) = L - n - (sumL ls (k + 1) : Nat) := by simp only [sumL]; omega
     have HE : Hid ((L - n - (sumL ls k : Nat)) - (ls k : Int) = L - n - (sumL ls (k + 1) : Nat)) := e1
     have e2 : (ls k : Int) ≤ L - n - (sumL ls k : Nat) := by omega
     have e3 : ¬ (L - n - (sumL ls (k + 1) : Nat) < 0) := by omega
     have e4 : L - n - (sumL ls k : Nat) ≤ 1048576 := by omega
     clear e1 hS hsl
     generalize hy : L - n - (sumL ls (k + 1) : Nat) = Y at *
     go_wp2_with fail
     refine (szEventS_small _ _ _ _ _ e2 e4).mono ?_
     rintro e w1 ⟨rfl, rfl⟩
     rw [HE.out]
     clear e2 e4
     go_wp2
     go_roundw
     case rel => exact ⟨k + 1, by omega, by go_num, by rw [← hy], by trivial⟩
     case measure => simp [intOf]; omega
   · have hkl : k = n := by omega
     subst hkl
     go_wp2
     go_ret
     exact ⟨rfl, rfl⟩
set_option maxRecDepth 100000 in
set_option maxHeartbeats 1000000 in
theorem szEventSS_great (a0 : Option Addr) (n cap : Nat) (aa : Nat → Option Addr) (ls cs : Nat → Nat) (L : Int) (w : World) (hr : RowS w a0 n fun i => .slice (aa i) (ls i) (cs i)) (h : L < (n : Int) + (sumL ls n : Nat)) (h0 : 0 ≤ L) (hL : L ≤ 1048576) (hm : n ≤ maxLen) (hl : ∀ i, i < n → ls i ≤ maxLen) :
   Calls Tryz.prog 29 #[.slice a0 n cap, .int .i64 L] w fun e w' => e = .returned (.int .i64 (-1)) ∧ w' = w := by
 have hm' : (n : Int) ≤ 9223372036854775807 := by unfold maxLen at hm; omega
 by_cases hn0 : L - (n : Int) < 0
 · go_enter Tryz.func29, Tryz.ntmps29
   go_wp2
   go_ret
   exact ⟨rfl, rfl⟩
 have hn : (n : Int) ≤ 1048576 := by omega
 have HR : Hid (RowS w a0 n fun i => .slice (aa i) (ls i) (cs i)) := hr
 have HS : Hid (L < (n : Int) + (sumL ls n : Nat)) := h
 have HL : Hid (∀ i, i < n → ls i ≤ maxLen) := hl
 clear hr h hl hm
 go_enter Tryz.func29, Tryz.ntmps29
 go_wp2_with fail
 go_loopw [1, 5] (fun q i wr => ∃ k : Nat, k ≤ n ∧ i = .int .i64 k ∧ q = .int .i64 (L - n - (sumL ls k : Nat)) ∧ 0 ≤ L - n - (sumL ls k : Nat) ∧ wr = w) (fun _ i _ => n - (intOf i).toNat)
 case atStart => exact ⟨0, Nat.zero_le _, rfl, by simp [sumL], by simp only [sumL]; omega, rfl⟩
 case round =>
   obtain ⟨k, hk, rfl, rfl, hp, rfl⟩ := hrel
   by_cases hlt : k < n
   · have hlt' : (k : Int) < (n : Int) := by omega
     obtain ⟨b, off, rfl, ck⟩ := HR.out.at hlt
     have hml := HL.out k hlt
     have e1 : (L - n - (sumL ls k : Nat)) - (ls k : Int) = L - n - (sumL ls (k + 1) : Nat) := by simp only [sumL]; omega
     have HE : Hid ((L - n - (sumL ls k : Nat)) - (ls k : Int) = L - n - (sumL ls (k + 1) : Nat)) := e1
     have e4 : L - n - (sumL ls k : Nat) ≤ 1048576 := by omega
     clear e1
     by_cases hb : (ls k : Int) ≤ L - n - (sumL ls k : Nat)
     · have e3 : 0 ≤ L - n - (sumL ls (k + 1) : Nat) := by have := HE.out; omega
       have e3' : ¬ (L - n - (sumL ls (k + 1) : Nat) < 0) := by omega
       generalize hy : L - n - (sumL ls (k + 1) : Nat) = Y at *
       go_wp2_with fail
       refine (szEventS_small _ _ _ _ _ hb e4).mono ?_
       rintro e w1 ⟨rfl, rfl⟩
       rw [HE.out]
       clear hb e4 hml hp
       go_wp2
       go_roundw
       case rel => exact ⟨k + 1, by omega, by go_num, by rw [← hy], by omega, by trivial⟩
       case measure => simp [intOf]; omega
     · have hb' : L - n - (sumL ls k : Nat) < (ls k : Int) := by omega
       go_wp2_with fail
       refine (szEventS_great _ _ _ _ _ hb' hp e4 hml).mono ?_
       rintro e w1 ⟨rfl, rfl⟩
       clear hb hb' e4 hml hp HE
       go_wp2
       go_ret
       exact ⟨rfl, rfl⟩
   · have hkl : k = n := by omega
     subst hkl
     have := HS.out
     omega
theorem infoEventS : (Tryz.prog.info? 95).map (fun i => (i.zero, i.size, i.bytes)) = some (some (.slice none 0 0), 1, 24) := by kernel_rfl
theorem run_make_EventS (n : Nat) (hn : n ≤ 1048576) (w : World) :
   (Instr.makeSlice 33 (.int .i64 (n : Int)) (.int .i64 (n : Int))).run Tryz.prog w = .ok (.slice (some ⟨w.heap.size, 0, none⟩) n n) (w.alloc (.cells (madeCells #[.slice none 0 0] n) 95)) := by
 have hinfo := infoEventS
 cases hi : Tryz.prog.info? 95 with
 | none => rw [hi] at hinfo; cases hinfo
 | some i =>
   rw [hi] at hinfo
   simp only [Option.map_some, Option.some.injEq, Prod.mk.injEq] at hinfo
   obtain ⟨hz, hs, hb⟩ := hinfo
   have h := run_make (P := Tryz.prog) w 33 95 i _ Tryz.underlying33 hi hz .i64 .i64 (n : Int) (n : Int) (by omega) (Int.le_refl _) (by rw [hb]; omega) (by omega)
   rw [hs] at h
   simpa [Value.cells] using h
theorem madeEventS_row (w : World) (n : Nat) : (w.alloc (.cells (madeCells #[.slice none 0 0] n) 95)).rowIs w.heap.size 95 n (fun _ => .slice none 0 0) := by
 refine ⟨_, blk_alloc_new _ _, size_madeCells _ _, fun i hi => ?_⟩
 simp only [madeCells]
 rw [Array.getElem?_map, Array.getElem?_range, if_pos hi]
 have : i % 1 = 0 := Nat.mod_one i
 exact congrArg some (by simp [this])
structure FillEvent (w : World) (D k : Nat) (f : Nat → Value) (ls : Nat → Nat) (bs : Nat → Nat) (h : Nat → Nat → E3) : Prop where
 cel : ∀ i, i < k → f i = .slice (some ⟨bs i, 0, none⟩) (ls i) (ls i)
 bd : ∀ i, i < k → D < bs i ∧ bs i < w.heap.size
 row : ∀ i, i < k → EvAt w (bs i) 0 (ls i) (h i)
 fr : ∀ i, i < k → ∀ j, w.frozen? ⟨bs i, j, none⟩ = false
 up : ∀ i j, i < j → j < k → bs i < bs j
theorem FillEvent.step {w w1 : World} {D k : Nat} {f : Nat → Value} {ls : Nat → Nat} {bs : Nat → Nat} {h : Nat → Nat → E3} (o : FillEvent w D k f ls bs h) (hb : Below w.heap.size w w1) (hD : D < w.heap.size) (hz : w.heap.size < w1.heap.size) (hr : EvAt w1 w.heap.size 0 (ls k) (h k)) (hf : ∀ j, w1.frozen? ⟨w.heap.size, j, none⟩ = false) (u : Value) :
   FillEvent (w1.setCell ⟨D, k, none⟩ u) D (k + 1) (fun i => if i = k then .slice (some ⟨w.heap.size, 0, none⟩) (ls k) (ls k) else f i) ls (fun i => if i = k then w.heap.size else bs i) h := by
 have hs : ∀ b, b ≠ D → (w1.setCell ⟨D, k, none⟩ u).heap[b]? = w1.heap[b]? := fun b hne => Below.heap_setCell _ _ _ _ hne
 have hat : ∀ b n g, b ≠ D → EvAt w1 b 0 n g → EvAt (w1.setCell ⟨D, k, none⟩ u) b 0 n g := fun b n g hne hg => fun i hi => by
   have hc : ∀ j, (w1.setCell ⟨D, k, none⟩ u).cell? ⟨b, j, none⟩ = w1.cell? ⟨b, j, none⟩ := fun j => World.cell?_of_block (hs b hne)
   have := hg i hi
   simp only [hc]
   exact this
 refine ⟨fun i hi => ?_, fun i hi => ?_, fun i hi => ?_, fun i hi j => ?_, fun i j hij hj => ?_⟩
 · by_cases e : i = k
   · subst e; simp
   · simp only [if_neg e]; exact o.cel i (by omega)
 · by_cases e : i = k
   · subst e; simp; omega
   · simp only [if_neg e, World.size_setCell]; have := o.bd i (by omega); omega
 · by_cases e : i = k
   · subst e; simp only [if_true]; exact hat _ _ _ (by omega) hr
   · simp only [if_neg e]; have hbd := o.bd i (by omega); exact hat _ _ _ (by omega) ((o.row i (by omega)).below hb hbd.2)
 · by_cases e : i = k
   · subst e; simp only [if_true]; rw [World.frozen?_setCell]; exact hf j
   · simp only [if_neg e]; rw [World.frozen?_setCell]; have hbd := o.bd i (by omega); exact (hb.frozen (p := ⟨bs i, j, none⟩) hbd.2).trans (o.fr i (by omega) j)
 · by_cases e : j = k
   · have hi : i ≠ k := by omega
     simp only [if_neg hi, if_pos e]
     exact (o.bd i (by omega)).2
   · have hi : i ≠ k := by omega
     simp only [if_neg hi, if_neg e]
     exact o.up i j hij (by omega)
structure AllEvent (W : World) (a0 : Option Addr) (n : Nat) (aa : Nat → Option Addr) (ls cs : Nat → Nat) (h : Nat → Nat → E3) : Prop where
 row : RowS W a0 n fun i => .slice (aa i) (ls i) (cs i)
 cop : ∀ i, i < n → CopiesE W (aa i) (ls i) (cs i) (h i)
set_option maxRecDepth 100000 in
set_option maxHeartbeats 1000000 in
theorem toEventSS_any (a0 : Option Addr) (n cap : Nat) (aa : Nat → Option Addr) (ls cs : Nat → Nat) (h : Nat → Nat → E3) (W w : World) (hn : n ≤ 1048576) (hA : AllEvent W a0 n aa ls cs h) (hW : Below W.heap.size W w) :
   Calls Tryz.prog 34 #[.slice a0 n cap] w fun e w' => e = .returned (.slice (some ⟨w.heap.size, 0, none⟩) n n) ∧ (∃ bs, OutEvent w' w.heap.size w'.heap.size n ls bs h) ∧ Below w.heap.size w w' := by
 have hl' : (n : Int) ≤ 1048576 := by omega
 have hmk := run_make_EventS n hn
 have HA : Hid (AllEvent W a0 n aa ls cs h) := hA
 have HW : Hid (Below W.heap.size W w) := hW
 clear hA hW
 go_enter Tryz.func34, Tryz.ntmps34
 go_wp2_with fail
 clear hmk
 go_loopw [4] (fun i wr => ∃ k : Nat, k ≤ n ∧ i = .int .i64 k ∧ (∃ f, wr.rowIs w.heap.size 95 n f ∧ Hid (∃ bs, FillEvent wr w.heap.size k f ls bs h)) ∧ Below w.heap.size w wr) (fun i _ => n - (intOf i).toNat)
 case atStart => exact ⟨0, Nat.zero_le _, rfl, ⟨_, madeEventS_row w n, fun _ => 0, fun i hi => by omega, fun i hi => by omega, fun i hi => by omega, fun i hi => by omega, fun i j hij hj => by omega⟩, (Below.refl _ _).alloc (Nat.le_refl _) _⟩
 case round =>
   obtain ⟨k, hk, rfl, ⟨f, hrow, HF⟩, hbw⟩ := hrel
   have hs := hrow.lt
   by_cases hlt : k < n
   · have hlt' : (k : Int) < (n : Int) := by omega
     have HB : Hid (Below W.heap.size W wr) := HW.out.trans (hbw.mono HW.out.size)
     obtain ⟨b, off, rfl, ck⟩ := (HA.out.row.below HB.out).at hlt
     have HR : Hid (wr.rowIs w.heap.size 95 n f) := hrow
     clear hrow
     go_wp2_with fail
     refine (HA.out.cop k hlt wr HB.out).mono ?_
     rintro e w1 ⟨rfl, hi1, hz1, hb1, hf1⟩
     have hr1 : w1.rowIs w.heap.size 95 n f := HR.out.of_block (hb1.block _ hs)
     have f0 := hr1.frozen k
     have g0 := hr1.cell (i := k) hlt
     have HR1 : Hid (w1.rowIs w.heap.size 95 n f) := hr1
     have HF1 : Hid (∃ bs, FillEvent (w1.setCell ⟨w.heap.size, k, none⟩ (.slice (some ⟨wr.heap.size, 0, none⟩) (ls k) (ls k))) w.heap.size (k + 1) (fun i => if i = k then .slice (some ⟨wr.heap.size, 0, none⟩) (ls k) (ls k) else f i) ls bs h) := by
       obtain ⟨bs, o⟩ := HF.out
       exact ⟨_, o.step hb1 hs hz1 hi1 hf1 _⟩
     clear hr1 hi1 HF HR hf1
     go_wp2_with fail
     exact ⟨⟨k + 1, by omega, by go_num, ⟨_, HR1.out.set _ _, HF1.out⟩, (hbw.trans (hb1.mono (Nat.le_of_lt hs))).setCell (Nat.le_refl _) _⟩, by simp [intOf]; omega⟩
   · have hkl : k = n := by omega
     have HO : Hid (∃ bs, OutEvent wr w.heap.size wr.heap.size n ls bs h) := by
       obtain ⟨bs, o⟩ := HF.out
       rw [hkl] at o
       exact ⟨bs, fun i hi => by rw [hrow.cell hi, o.cel i hi], o.bd, o.row, o.fr, o.up, Nat.le_refl _, hs⟩
     clear hkl HF hrow
     go_wp2
     go_ret
     exact ⟨rfl, HO.out, hbw⟩
set_option maxRecDepth 100000 in
set_option maxHeartbeats 1000000 in
theorem eqEventSS_same (D1 h1 D2 h2 n c1 c2 : Nat) (ls b1 b2 : Nat → Nat) (h : Nat → Nat → E3) (w : World) (hn : n ≤ 1048576) (hl : ∀ i, i < n → ls i ≤ 1048576) (o1 : OutEvent w D1 h1 n ls b1 h) (o2 : OutEvent w D2 h2 n ls b2 h) :
   Calls Tryz.prog 39 #[.slice (some ⟨D1, 0, none⟩) n c1, .slice (some ⟨D2, 0, none⟩) n c2] w fun e w' => e = .returned (.bool true) ∧ Below w.heap.size w w' := by
 have hl' : (n : Int) ≤ 1048576 := by omega
 have O1 : Hid (OutEvent w D1 h1 n ls b1 h) := o1
 have O2 : Hid (OutEvent w D2 h2 n ls b2 h) := o2
 have HL : Hid (∀ i, i < n → ls i ≤ 1048576) := hl
 clear o1 o2 hl
 go_enter Tryz.func39, Tryz.ntmps39
 go_wp2_with fail
 go_loopw [5] (fun i wr => ∃ k : Nat, k ≤ n ∧ i = .int .i64 k ∧ Below w.heap.size w wr) (fun i _ => n - (intOf i).toNat)
 case atStart => exact ⟨0, Nat.zero_le _, rfl, Below.refl _ _⟩
 case round =>
   obtain ⟨k, hk, rfl, hbw⟩ := hrel
   have hs := hbw.size
   by_cases hlt : k < n
   · have P1 : Hid (OutEvent wr D1 h1 n ls b1 h) := O1.out.below hbw O1.out.le
     have P2 : Hid (OutEvent wr D2 h2 n ls b2 h) := O2.out.below hbw O2.out.le
     have ck := P1.out.cel k hlt
     have dk := P2.out.cel k hlt
     have hlt' : (k : Int) < (n : Int) := by omega
     go_wp2_with fail
     first | (go_region_with (go_at_call 83; refine (eqEventS_same (b1 k) (b2 k) (ls k) (ls k) (ls k) (h k) wr.drew (HL.out k hlt) (Nat.lt_of_lt_of_le (P1.out.bd k hlt).2 P1.out.le) (Nat.lt_of_lt_of_le (P2.out.bd k hlt).2 P2.out.le) (P1.out.row k hlt) (P2.out.row k hlt)).mono ?_; rintro e w1 ⟨rfl, hq1⟩)) | fail
     all_goals
       go_wp2
       go_roundw
       case rel => exact ⟨k + 1, by omega, by go_num, hbw.drew.trans (hq1.mono hs)⟩
       case measure => simp [intOf]; omega
   · go_wp2
     go_ret
     exact ⟨rfl, hbw⟩
set_option maxRecDepth 100000 in
set_option maxHeartbeats 1000000 in
theorem markEventSS_any (D hi n cap : Nat) (ls bs : Nat → Nat) (h : Nat → Nat → E3) (k : Int) (w : World) (hn : n ≤ 1048576) (hl : sumL ls n ≤ 1048576) (k0 : 0 ≤ k) (k1 : k ≤ 50000000) (o : OutEvent w D hi n ls bs h) :
   Calls Tryz.prog 42 #[.slice (some ⟨D, 0, none⟩) n cap, .int .i64 k] w fun e w' => e = .returned (.int .i64 (k + 3 * (sumL ls n : Nat))) ∧ Touch (fun b => D < b ∧ b < hi) w w' := by
 have hl' : (n : Int) ≤ 1048576 := by omega
 have O : Hid (OutEvent w D hi n ls bs h) := o
 have HL : Hid (sumL ls n ≤ 1048576) := hl
 clear o hl
 go_enter Tryz.func42, Tryz.ntmps42
 go_wp2_with fail
 go_loopw [1, 5] (fun q i wr => ∃ j : Nat, j ≤ n ∧ i = .int .i64 j ∧ q = .int .i64 (k + 3 * (sumL ls j : Nat)) ∧ Hid (Touch (fun b => ∃ t, t < j ∧ b = bs t) w wr)) (fun _ i _ => n - (intOf i).toNat)
 case atStart => exact ⟨0, Nat.zero_le _, rfl, by simp [sumL], Touch.refl _ _⟩
 case round =>
   obtain ⟨j, hj, rfl, rfl, HT⟩ := hrel
   by_cases hlt : j < n
   · have hlt' : (j : Int) < (n : Int) := by omega
     have dD : ¬ ∃ t, t < j ∧ D = bs t := by
       rintro ⟨t, ht, e⟩
       have := (O.out.bd t (by omega)).1
       omega
     have dJ : ¬ ∃ t, t < j ∧ bs j = bs t := by
       rintro ⟨t, ht, e⟩
       have := O.out.up t j ht hlt
       omega
     have bJ := O.out.bd j hlt
     have le := O.out.le
     have ck : wr.cell? ⟨D, j, none⟩ = some (.slice (some ⟨bs j, 0, none⟩) (ls j) (ls j)) := (HT.out.cell (Nat.lt_of_lt_of_le O.out.lt le) dD j).trans (O.out.cel j hlt)
     have RM : Hid (RoomE wr (bs j) (ls j)) := by
       have hb : wr.heap[bs j]? = w.heap[bs j]? := HT.out.block (bs j) (by omega) dJ
       have hrm : RoomE w (bs j) (ls j) := RoomE.of_ev (O.out.row j hlt) (O.out.fr j hlt)
       exact ⟨fun i hi => (hrm.1 i hi).elim fun u e => ⟨u, (World.cell?_of_block hb).trans e⟩, fun i => (World.frozen?_of_block hb).trans (hrm.2 i)⟩
     have hsl := sumL_at ls hlt
     have hS := HL.out
     have e1 : k + 3 * (sumL ls j : Nat) + 3 * (ls j : Int) = k + 3 * (sumL ls (j + 1) : Nat) := by simp only [sumL]; omega
     have HE : Hid (k + 3 * (sumL ls j : Nat) + 3 * (ls j : Int) = k + 3 * (sumL ls (j + 1) : Nat)) := e1
     have e2 : 0 ≤ k + 3 * (sumL ls j : Nat) := by omega
     have e3 : k + 3 * (sumL ls j : Nat) ≤ 100000000 := by omega
     have e4 : ls j ≤ 1048576 := by omega
     clear dD bJ le e1 hS hsl
     go_wp2_with fail
     refine (markEventS_any (bs j) (ls j) (ls j) _ wr e4 e2 e3 RM.out).mono ?_
     rintro e w1 ⟨rfl, g1⟩
     rw [HE.out]
     have HT1 : Hid (Touch (fun b => ∃ t, t < j + 1 ∧ b = bs t) w w1) := (HT.out.mono fun b ⟨t, ht, e⟩ => ⟨t, by omega, e⟩).trans (Touch.of_grown g1 fun b e => ⟨j, by omega, by simpa using e.symm⟩)
     clear HT dJ RM e2 e3 e4 g1
     go_wp2
     go_roundw
     case rel => exact ⟨j + 1, by omega, by go_num, rfl, HT1.out⟩
     case measure => simp [intOf]; omega
   · have hkl : j = n := by omega
     subst hkl
     have HT1 : Hid (Touch (fun b => D < b ∧ b < hi) w wr) := HT.out.mono fun b ⟨t, ht, e⟩ => by
       subst e
       exact O.out.bd t ht
     clear HT
     go_wp2
     go_ret
     exact ⟨rfl, HT1.out⟩
theorem open_EventSS {H : Type} {enc : TypeId × Value → H} {w : World} {spare : Nat → Bool} {held : Bool} {base : Nat} {a0 : Option Addr} {len cap : Nat} {d : DataW H} {p : List MemPlace}
   (h : DataW.Trod enc Tryz.prog w base spare held 25 (.slice a0 len cap) d p) :
   len ≤ maxLen ∧ ∃ aa ls cs, RowS w a0 len (fun i => .slice (aa i) (ls i) (cs i)) ∧ (∀ i, i < len → ls i ≤ maxLen) ∧ ((∀ i, i < len → ls i ≤ 1048576) → ∃ hh, AllEvent w a0 len aa ls cs hh) := by
 obtain ⟨hm, f, hrow, hf⟩ := open_rows Tryz.underlying25 (el := 90) (by kernel_rfl) h
 refine ⟨hm, ?_⟩
 have hpart : ∀ i, i < len → ∃ x : Option Addr × Nat × Nat, f i = .slice x.1 x.2.1 x.2.2 ∧ x.2.1 ≤ maxLen ∧ (x.2.1 ≤ 1048576 → ∃ g, CopiesE w x.1 x.2.1 x.2.2 g) := by
   intro i hi
   obtain ⟨m, x, hx⟩ := hf i hi
   have hsl : ∃ a l c, f i = .slice a l c := by
     rcases Go.Deep.open_slice Tryz.underlying90 hx with ⟨hcs, _⟩ | ⟨a, len', cap', m, n, D, Pl, hcs, _⟩
     · simp at hcs
       exact ⟨_, _, _, hcs⟩
     · simp at hcs
       exact ⟨_, _, _, hcs⟩
   obtain ⟨a, l, c, e⟩ := hsl
   rw [e] at hx
   obtain ⟨h1, h2⟩ := open_evRow (d := x.1) (p := x.2) (a0 := a) (len := l) (cap := c) ⟨m, by simpa [Value.cells] using hx⟩
   exact ⟨(a, l, c), e, h1, fun hs => copiesE_of hs h2⟩
 obtain ⟨g, hg⟩ := Go.Deep.choose_lt (α := Option Addr × Nat × Nat) hpart
 refine ⟨fun i => (g i).1, fun i => (g i).2.1, fun i => (g i).2.2, ?_, fun i hi => (hg i hi).2.1, fun hs => ?_⟩
 · rcases hrow with h0 | ⟨b, off, e, hlt, hc⟩
   · exact .inl h0
   · exact .inr ⟨b, off, e, hlt, fun i hi => (hc i hi).trans (by rw [(hg i hi).1])⟩
 · have hq : ∀ i, i < len → ∃ q : Nat → E3, CopiesE w (g i).1 (g i).2.1 (g i).2.2 q := fun i hi => (hg i hi).2.2 (hs i hi)
   have inh : Inhabited (Nat → E3) := ⟨fun _ => ⟨0, 0, 0⟩⟩
   obtain ⟨hh, hhh⟩ := Go.Deep.choose_lt (α := Nat → E3) hq
   refine ⟨hh, ?_, hhh⟩
   rcases hrow with h0 | ⟨b, off, e, hlt, hc⟩
   · exact .inl h0
   · exact .inr ⟨b, off, e, hlt, fun i hi => (hc i hi).trans (by rw [(hg i hi).1])⟩
end Go.Proofs.YtihilndfhlfdfaaGreatDoor
namespace Go.Proofs.YtihilndfhlfdfaaGreatDoor
open Go.RowKit
def cnt (eh : Nat → E3) (kd pr : Int) (n : Nat) : Nat := (plN eh kd pr n).length
theorem cnt_zero (eh : Nat → E3) (kd pr : Int) : cnt eh kd pr 0 = 0 := rfl
theorem cnt_hit {eh : Nat → E3} {kd pr : Int} {n : Nat} (h : hitB eh kd pr n = true) : cnt eh kd pr (n + 1) = cnt eh kd pr n + 1 := by
 unfold cnt
 rw [plN, if_pos h, List.length_append]
 rfl
theorem cnt_not {eh : Nat → E3} {kd pr : Int} {n : Nat} (h : hitB eh kd pr n = false) : cnt eh kd pr (n + 1) = cnt eh kd pr n := by
 unfold cnt
 rw [plN, if_neg (by rw [h]; decide)]
theorem cnt_le (eh : Nat → E3) (kd pr : Int) (n : Nat) : cnt eh kd pr n ≤ n := plN_le eh kd pr n
theorem cnt_mono (eh : Nat → E3) (kd pr : Int) {a b : Nat} (h : a ≤ b) : cnt eh kd pr a ≤ cnt eh kd pr b := by
 induction b with
 | zero =>
   have : a = 0 := by omega
   subst this
   exact Nat.le_refl _
 | succ b ih =>
   by_cases e : a = b + 1
   · subst e
     exact Nat.le_refl _
   · have := ih (by omega)
     rcases Bool.eq_false_or_eq_true (hitB eh kd pr b) with t | t
     · rw [cnt_hit t]
       omega
     · rw [cnt_not t]
       exact this
theorem hitB_iff {eh : Nat → E3} {kd pr : Int} {i : Nat} : hitB eh kd pr i = true ↔ (eh i).k = kd ∧ (eh i).q = pr := by
 simp [hitB]
structure Hs where
 n : Nat
 l : Nat → Nat
 e : Nat → Nat → E3
def Hs.Peers (x : Hs) : Prop := ∀ p, p < x.n → ∀ i, i < x.l p → 0 ≤ (x.e p i).q ∧ (x.e p i).q < (x.n : Int)
def Hs.Can (x : Hs) (d : Nat → Nat) (p : Nat) : Prop :=
 d p < x.l p ∧ ((x.e p (d p)).k = 3 → cnt (x.e p) 3 (x.e p (d p)).q (d p) < cnt (x.e (x.e p (d p)).q.toNat) 2 p (d (x.e p (d p)).q.toNat))
def up (d : Nat → Nat) (p : Nat) : Nat → Nat := fun i => if i = p then d i + 1 else d i
theorem up_same (d : Nat → Nat) (p : Nat) : up d p p = d p + 1 := by simp [up]
theorem up_other {d : Nat → Nat} {p i : Nat} (h : i ≠ p) : up d p i = d i := by simp [up, h]
inductive Hs.Put (x : Hs) : (Nat → Nat) → Prop
 | start : x.Put (fun _ => 0)
 | next {d : Nat → Nat} {p : Nat} : x.Put d → p < x.n → x.Can d p → x.Put (up d p)
def Hs.All (x : Hs) (d : Nat → Nat) : Prop := ∀ p, p < x.n → d p = x.l p
def Hs.Row (x : Hs) : Prop := ∃ d, x.Put d ∧ x.All d
theorem Hs.Put.le {x : Hs} {d : Nat → Nat} (h : x.Put d) : ∀ p, d p ≤ x.l p := by
 induction h with
 | start => exact fun _ => Nat.zero_le _
 | next _ _ hc ih =>
   rename_i d p _ _
   intro i
   by_cases e : i = p
   · subst e
     rw [up_same]
     exact hc.1
   · rw [up_other e]
     exact ih i
theorem Hs.Put.stuck {x : Hs} {d s : Nat → Nat} (h : x.Put d) (hp : x.Peers) (hs : ∀ p, p < x.n → ¬ x.Can s p) : ∀ p, p < x.n → d p ≤ s p := by
 induction h with
 | start => exact fun _ _ => Nat.zero_le _
 | next _ hpn hc ih =>
   rename_i d p _
   intro i hi
   by_cases e : i = p
   · subst e
     rw [up_same]
     have h1 := ih i hi
     by_cases e : d i = s i
     · exfalso
       refine hs i hi ⟨by rw [← e]; exact hc.1, fun hk => ?_⟩
       rw [← e] at hk ⊢
       have h2 := hc.2 hk
       have hq := hp i hi (d i) hc.1
       exact Nat.lt_of_lt_of_le h2 (cnt_mono _ _ _ (ih _ (by omega)))
     · omega
   · rw [up_other e]
     exact ih i hi
theorem Hs.row_iff {x : Hs} {s : Nat → Nat} (h : x.Put s) (hp : x.Peers) (hs : ∀ p, p < x.n → ¬ x.Can s p) : x.Row ↔ x.All s := by
 refine ⟨fun ⟨d, hd, ha⟩ p hpn => ?_, fun ha => ⟨s, h, ha⟩⟩
 have h1 := hd.stuck hp hs p hpn
 have h2 := h.le p
 have h3 := ha p hpn
 omega
def Hs.opn (x : Hs) (d : Nat → Nat) (a b : Nat) : Int := (cnt (x.e a) 2 b (d a) : Int) - (cnt (x.e b) 3 a (d b) : Int)
theorem Hs.opn_start (x : Hs) (a b : Nat) : x.opn (fun _ => 0) a b = 0 := by simp [Hs.opn, cnt_zero]
theorem Hs.can_iff {x : Hs} {d : Nat → Nat} {p : Nat} (hp : x.Peers) (hpn : p < x.n) : x.Can d p ↔ d p < x.l p ∧ ((x.e p (d p)).k = 3 → 0 < x.opn d (x.e p (d p)).q.toNat p) := by
 unfold Hs.Can Hs.opn
 refine and_congr_right fun hl => ?_
 have hq := hp p hpn _ hl
 rw [show (((x.e p (d p)).q.toNat : Nat) : Int) = (x.e p (d p)).q by omega]
 refine ⟨fun h hk => ?_, fun h hk => ?_⟩
 · have := h hk
   omega
 · have := h hk
   omega
theorem Hs.opn_up {x : Hs} {d : Nat → Nat} {p a b : Nat} : x.opn (up d p) a b = x.opn d a b + (if a = p ∧ (x.e p (d p)).k = 2 ∧ (x.e p (d p)).q = (b : Int) then 1 else 0) - (if b = p ∧ (x.e p (d p)).k = 3 ∧ (x.e p (d p)).q = (a : Int) then 1 else 0) := by
 have hA : (cnt (x.e a) 2 b (up d p a) : Int) = cnt (x.e a) 2 b (d a) + (if a = p ∧ (x.e p (d p)).k = 2 ∧ (x.e p (d p)).q = (b : Int) then 1 else 0) := by
   by_cases e : a = p
   · subst e
     rw [up_same]
     rcases Bool.eq_false_or_eq_true (hitB (x.e a) 2 b (d a)) with t | t
     · rw [cnt_hit t, if_pos ⟨rfl, hitB_iff.1 t⟩]
       omega
     · rw [cnt_not t, if_neg (fun h => by rw [hitB_iff.2 h.2] at t; cases t)]
       omega
   · rw [up_other e, if_neg (fun h => e h.1)]
     omega
 have hB : (cnt (x.e b) 3 a (up d p b) : Int) = cnt (x.e b) 3 a (d b) + (if b = p ∧ (x.e p (d p)).k = 3 ∧ (x.e p (d p)).q = (a : Int) then 1 else 0) := by
   by_cases e : b = p
   · subst e
     rw [up_same]
     rcases Bool.eq_false_or_eq_true (hitB (x.e b) 3 a (d b)) with t | t
     · rw [cnt_hit t, if_pos ⟨rfl, hitB_iff.1 t⟩]
       omega
     · rw [cnt_not t, if_neg (fun h => by rw [hitB_iff.2 h.2] at t; cases t)]
       omega
   · rw [up_other e, if_neg (fun h => e h.1)]
     omega
 unfold Hs.opn
 rw [hA, hB]
 omega
end Go.Proofs.YtihilndfhlfdfaaGreatDoor
namespace Go.Proofs.YtihilndfhlfdfaaGreatDoor
open Go.RowKit Go.Deep
theorem valL_length (eh : Nat → E3) (kd pr : Int) (n : Nat) : (valL eh kd pr n).length = (plN eh kd pr n).length := by simp [valL]
theorem plI_length (eh : Nat → E3) (kd pr : Int) (n : Nat) : (plI eh kd pr n).length = (plN eh kd pr n).length := by simp [plI]
def nthV (eh : Nat → E3) (kd pr : Int) (len : Nat) (n : Int) : Int := if belB n ((plI eh kd pr len).length : Nat) = true then zi (plI eh kd pr len) n.toNat else -1
theorem plN_mem (eh : Nat → E3) (kd pr : Int) : ∀ n, ∀ q ∈ plN eh kd pr n, q < n
 | 0, q, h => by simp [plN] at h
 | n + 1, q, h => by
   unfold plN at h
   split at h
   · simp at h
     rcases h with h | h
     · have := plN_mem eh kd pr n q h
       omega
     · omega
   · have := plN_mem eh kd pr n q h
     omega
theorem plI_place (eh : Nat → E3) (kd pr : Int) (len j : Nat) (hj : j < (plI eh kd pr len).length) : ∃ q : Nat, zi (plI eh kd pr len) j = (q : Int) ∧ q < len ∧ (plN eh kd pr len)[j]? = some q := by
 have hj' : j < (plN eh kd pr len).length := by rw [plI_length] at hj; exact hj
 refine ⟨(plN eh kd pr len)[j], ?_, plN_mem eh kd pr len _ (List.getElem_mem hj'), List.getElem?_eq_getElem hj'⟩
 unfold zi plI
 rw [List.getD_eq_getElem?_getD, List.getElem?_map, List.getElem?_eq_getElem hj']
 rfl
theorem append_far {ops : Array Oper} {rest : List Oper} {op : Oper} {act : Act} {Q : Exit → Act → World → Prop} (w : World) (hgd : op.guard = none) (s x : Operand)
   (ho : op.op = .call { callee := .builtin .append, args := #[s, x], argTypes := #[39, 39] })
   (B : Nat) (v : Value) (xs : List Int) (hs : act.eval s = v) (hv : OwnI w B v xs) (y : Int) (hx : act.eval x = .slice (some ⟨w.heap.size, 0, none⟩) 1 1) (hn : xs.length ≤ 1048576) (hB : B ≤ w.heap.size)
   (h : ∀ v' w', OwnI w' B v' (xs ++ [y]) → w.grownBy w' v.ownBlock → (∀ j, v'.ownBlock = some j → v.ownBlock = some j ∨ w.heap.size ≤ j) → wpList Tryz.prog ops Q rest (act.put op.dst v') w') :
   wpList Tryz.prog ops Q (op :: rest) act (w.alloc (.cells #[.int .i64 y] 3)) := by
 have hb : Below w.heap.size w (w.alloc (.cells #[.int .i64 y] 3)) := (Below.refl _ _).alloc (Nat.le_refl _) _
 refine wpList_append_ints _ hgd s x ho B 1 v (some ⟨w.heap.size, 0, none⟩) xs [y] hs hx (hv.below hb) (.inr ⟨w.heap.size, 0, rfl, by simp, fun i hi => ?_⟩) (by simp; omega) (by simp; omega) ?_
 · have : i = 0 := by simp at hi; omega
   subst this
   exact new_cell _ _ _ 0 rfl
 · intro v' w' o g a
   refine h v' w' o ⟨g.os, g.tape, g.output, Nat.le_trans hb.size g.size, fun k hk hne => (g.block k (Nat.lt_of_lt_of_le hk hb.size) hne).trans (hb.block k hk)⟩ fun j hj => ?_
   rcases a with a | a
   · exact .inl (a.symm.trans hj)
   · rw [hj] at a
     simp only [Option.some.injEq] at a
     right
     rw [a]
     simp
def Away (w w1 wr : World) (o : Value) : Prop := (∀ j, o.ownBlock = some j → j = w.heap.size ∨ w1.heap.size ≤ j) ∧ (∀ j, w.heap.size < j → j < w1.heap.size → wr.heap[j]? = w1.heap[j]?) ∧ w1.heap.size ≤ wr.heap.size
theorem Away.step {w w1 wr w4 : World} {o v' : Value} (h : Away w w1 wr o) (g : wr.grownBy w4 o.ownBlock) (a : ∀ j, v'.ownBlock = some j → o.ownBlock = some j ∨ wr.heap.size ≤ j) : Away w w1 w4 v' := by
 obtain ⟨h1, h2, h3⟩ := h
 refine ⟨fun j hj => ?_, fun j p1 p2 => ?_, Nat.le_trans h3 g.size⟩
 · rcases a j hj with a | a
   · exact h1 j a
   · right; omega
 · rw [g.block j (by omega) (fun e => ?_), h2 j p1 p2]
   rcases h1 j e.symm with e | e <;> omega
theorem Away.sl {w w1 wr : World} {o : Value} (h : Away w w1 wr o) {B cp : Nat} {a0 : Option Addr} {xs : List Int} (hB : w.heap.size < B) (hO : OwnI w1 B (.slice a0 xs.length cp) xs) : Sl wr a0 xs := by
 by_cases hx : 0 < xs.length
 · obtain ⟨g, cap, e, hg, hl⟩ := hO.block hx
   simp only [Value.slice.injEq] at e
   obtain ⟨rfl, -, rfl⟩ := e
   refine .inr ⟨g, 0, rfl, Nat.lt_of_lt_of_le hl h.2.2, fun i hi => ?_⟩
   rw [Nat.zero_add, World.cell?_of_block (h.2.1 g (by omega) hl)]
   exact hO.cell hi
 · exact .inl (List.eq_nil_of_length_eq_zero (by omega))
def valT (eh : Nat → E3) (kd pr : Int) (len j : Nat) : List Int := ((plN eh kd pr len).take j).map fun i => (eh i).v
theorem valT_le (eh : Nat → E3) (kd pr : Int) (len j : Nat) : (valT eh kd pr len j).length ≤ j := by simp [valT]; omega
theorem valT_all (eh : Nat → E3) (kd pr : Int) (len : Nat) : valT eh kd pr len (plI eh kd pr len).length = valL eh kd pr len := by
 unfold valT valL
 rw [plI_length, List.take_length]
theorem valT_next {eh : Nat → E3} {kd pr : Int} {len j q : Nat} (h : (plN eh kd pr len)[j]? = some q) : valT eh kd pr len (j + 1) = valT eh kd pr len j ++ [(eh q).v] := by
 unfold valT
 rw [List.take_add_one, h, List.map_append]
 rfl
end Go.Proofs.YtihilndfhlfdfaaGreatDoor
namespace Go.Proofs.YtihilndfhlfdfaaGreatDoor
open Go.ChangeShapes Go.WideShapes Go.ChangeAt Go.RowKit Go.Deep
theorem below_allocL (w : World) (o : Obj) : Below w.heap.size w (w.alloc o) := (Below.refl _ _).alloc (Nat.le_refl _) _
def Src (w : World) (a0 : Option Addr) (cs : List Value) : Prop := cs = [] ∨ ∃ b off, a0 = some ⟨b, off, none⟩ ∧ b < w.heap.size ∧ ∀ j u, cs[j]? = some u → w.cell? ⟨b, off + j, none⟩ = some u
theorem Src.below {w w' : World} {a0 : Option Addr} {cs : List Value} (h : Src w a0 cs) (hb : Below w.heap.size w w') : Src w' a0 cs := by
 rcases h with h | ⟨b, off, e, hlt, hc⟩
 · exact .inl h
 · exact .inr ⟨b, off, e, Nat.lt_of_lt_of_le hlt hb.size, fun j u hj => (hb.cell (p := ⟨b, off + j, none⟩) hlt).trans (hc j u hj)⟩
structure Kind (t e : TypeId) (size bytes : Nat) : Prop where
 und : Tryz.prog.underlying t = some (.slice e)
 inf : ∃ i z, Tryz.prog.info? e = some i ∧ i.zero = some z ∧ i.size = size ∧ i.bytes = bytes ∧ z.cells.size = size
 pos : 0 < size
 sml : bytes ≤ 64
theorem run_append_src {t e : TypeId} {size bytes : Nat} (K : Kind t e size bytes) (w : World) (ty : TypeId) (B : Nat) (v : Value) (n : Nat) (xs : List Value) (hown : w.ownsRow B e size v n xs) (a0 : Option Addr) (m c : Nat) (news : List Value) (hl : news.length = m * size) (hsrc : Src w a0 news) (h1 : ∀ u ∈ news, u.oneCell' = true) (hnm : n + m ≤ 4000000) (hB : B ≤ w.heap.size) :
   ∃ v' w', (Builtin.append_ #[t, t] ty #[v, .slice a0 m c]).run Tryz.prog w = .ok v' w' ∧ w'.ownsRow B e size v' (n + m) (xs ++ news) ∧ w.grownBy w' v.ownBlock ∧ (v'.ownBlock = v.ownBlock ∨ v'.ownBlock = some w.heap.size) ∧ (v ≠ .slice none 0 0 ∨ 0 < m → v' ≠ .slice none 0 0) := by
 obtain ⟨i, z, hi, hz, hs, hb, hzs⟩ := K.inf
 have hby : (n + m) * bytes ≤ 140737488355328 := Nat.le_trans (Nat.mul_le_mul hnm K.sml) (by omega)
 cases a0 with
 | none =>
   have hn0 : news = [] := by
     rcases hsrc with h | ⟨b, off, e, _⟩
     · exact h
     · cases e
   subst hn0
   have hm : m = 0 := by
     have := K.pos
     simp only [List.length_nil] at hl
     rcases Nat.eq_zero_or_pos m with h | h
     · exact h
     · have := Nat.mul_pos h K.pos
       omega
   subst hm
   refine ⟨v, w, ?_, by simpa using hown, World.grownBy.refl _ _, .inl rfl, fun h => h.elim id fun h => by omega⟩
   rcases hown.2 with ⟨rfl, _⟩ | ⟨g, cap, cur, rfl, _, _, hnc, _⟩
   · simp [Builtin.append_, run_underlying K.und, sizeOf, typeInfo, hi, Builtin.lenOf, Builtin.firstCells]
   · simp [Builtin.append_, run_underlying K.und, sizeOf, typeInfo, hi, Builtin.lenOf, Builtin.firstCells, hnc, storeCells]
 | some a =>
   have hnews : ∀ j u, news[j]? = some u → w.cell? (a.add j) = some u := by
     rcases hsrc with h0 | ⟨b, off, e, hlt, hc⟩
     · subst h0
       intro j u hj
       simp at hj
     · cases e
       intro j u hj
       have ha : Addr.add ⟨b, off, none⟩ j = ⟨b, off + j, none⟩ := by unfold Addr.add; split <;> simp_all
       rw [ha]
       exact hc j u hj
   obtain ⟨v', w', r1, r2, r3, r4, r5⟩ := run_append_own_at (P := Tryz.prog) w B t ty e i z size bytes K.und hi hz hs hb hzs K.pos v n xs hown a m c news hl hnews h1 (by unfold maxLen; omega) hby hB
   exact ⟨v', w', r1, r2, r3, r5, fun h e => h.elim (fun h => h (r4.1 e).1) fun h => by have := (r4.1 e).2; omega⟩
theorem step_append_src {ops : Array Oper} {rest : List Oper} {op : Oper} {act : Act} {Q : Exit → Act → World → Prop} {t e : TypeId} {size bytes : Nat} (K : Kind t e size bytes) (w : World) (hgd : op.guard = none) (s x : Operand)
   (ho : op.op = .call { callee := .builtin .append, args := #[s, x], argTypes := #[t, t] })
   (B : Nat) (v : Value) (n : Nat) (xs : List Value) (hs : act.eval s = v) (hown : w.ownsRow B e size v n xs) (a0 : Option Addr) (m c : Nat) (news : List Value) (hx : act.eval x = .slice a0 m c) (hl : news.length = m * size) (hsrc : Src w a0 news) (h1 : ∀ u ∈ news, u.oneCell' = true) (hnm : n + m ≤ 4000000) (hB : B ≤ w.heap.size)
   (h : ∀ v' w', w'.ownsRow B e size v' (n + m) (xs ++ news) → w.grownBy w' v.ownBlock → (v'.ownBlock = v.ownBlock ∨ v'.ownBlock = some w.heap.size) → (v ≠ .slice none 0 0 ∨ 0 < m → v' ≠ .slice none 0 0) → wpList Tryz.prog ops Q rest (act.put op.dst v') w') :
   wpList Tryz.prog ops Q (op :: rest) act w := by
 obtain ⟨v', w', r1, r2, r3, r4, r5⟩ := run_append_src K w op.type B v n xs hown a0 m c news hl hsrc h1 hnm hB
 refine wpList_plain hgd fun K hK => ?_
 unfold Oper.wp execOp
 simp only [ho, resolve, invoke, builtin, Sem.run_bind, Sem.run_pure, Result.andThen_ok, List.map_toArray, List.map_cons, List.map_nil, hs, hx, r1]
 exact hK _ _ (h v' w' r2 r3 r4 r5)
theorem step_append_srcN {ops : Array Oper} {rest : List Oper} {op : Oper} {act : Act} {Q : Exit → Act → World → Prop} {t e : TypeId} {size bytes : Nat} (K : Kind t e size bytes) (w : World) {N : Nat} (hN : N = w.heap.size) (hgd : op.guard = none) (s x : Operand)
   (ho : op.op = .call { callee := .builtin .append, args := #[s, x], argTypes := #[t, t] })
   (a0 : Option Addr) (m c : Nat) (news : List Value) (hs : act.eval s = .slice (some ⟨N, 0, none⟩) 0 0) (hx : act.eval x = .slice a0 m c) (hl : news.length = m * size) (hsrc : Src w a0 news) (h1 : ∀ u ∈ news, u.oneCell' = true) (hnm : m ≤ 4000000)
   (h : ∀ v' w', w'.ownsRow w.heap.size e size v' m news → Below w.heap.size w w' → v' ≠ .slice none 0 0 → wpList Tryz.prog ops Q rest (act.put op.dst v') w') :
   wpList Tryz.prog ops Q (op :: rest) act (w.alloc (.cells #[] e)) := by
 subst hN
 have hb : Below w.heap.size w (w.alloc (.cells #[] e)) := below_allocL _ _
 refine step_append_src K _ hgd s x ho w.heap.size (.slice (some ⟨w.heap.size, 0, none⟩) 0 0) 0 [] hs (World.ownsRow_made (base := w.heap.size) (e := e) (size := size) w #[] 0 (Nat.le_refl _) (by unfold maxLen; omega) (by simp)) a0 m c news hx hl (hsrc.below hb) h1 (by omega) (by simp) ?_
 intro v' w' o g _ hne
 rw [Nat.zero_add, List.nil_append] at o
 exact h v' w' o (hb.grown g (by simp) (fun k hk => by cases hk; exact Nat.le_refl _)) (hne (.inl (by simp)))
theorem step_append_val {ops : Array Oper} {rest : List Oper} {op : Oper} {act : Act} {Q : Exit → Act → World → Prop} {t e : TypeId} {size bytes : Nat} (K : Kind t e size bytes) (w : World) {N : Nat} (hN : N = w.heap.size) (hgd : op.guard = none) (s x : Operand)
   (ho : op.op = .call { callee := .builtin .append, args := #[s, x], argTypes := #[t, t] })
   (B : Nat) (v : Value) (n : Nat) (xs : List Value) (hs : act.eval s = v) (hown : w.ownsRow B e size v n xs) (cs : Array Value) (hx : act.eval x = .slice (some ⟨N, 0, none⟩) 1 1) (hl : cs.size = size) (h1 : ∀ u ∈ cs.toList, u.oneCell' = true) (hn : n ≤ 2000000) (hB : B ≤ w.heap.size)
   (h : ∀ v' w', w'.ownsRow B e size v' (n + 1) (xs ++ cs.toList) → w.grownBy w' v.ownBlock → (∀ j, v'.ownBlock = some j → v.ownBlock = some j ∨ w.heap.size ≤ j) → v' ≠ .slice none 0 0 → wpList Tryz.prog ops Q rest (act.put op.dst v') w') :
   wpList Tryz.prog ops Q (op :: rest) act (w.alloc (.cells cs e)) := by
 subst hN
 have hb : Below w.heap.size w (w.alloc (.cells cs e)) := below_allocL _ _
 refine step_append_src K _ hgd s x ho B v n xs hs (hown.alloc _) (some ⟨w.heap.size, 0, none⟩) 1 1 cs.toList hx (by simp [hl]) (.inr ⟨w.heap.size, 0, rfl, by simp, fun j u hj => ?_⟩) h1 (by omega) (by simp; omega) ?_
 · rw [Nat.zero_add, new_cell _ _ _ j rfl]
   simpa using hj
 · intro v' w' o g hbk hne
   refine h v' w' o ⟨g.os, g.tape, g.output, Nat.le_trans hb.size g.size, fun j hj hne => (g.block j (Nat.lt_of_lt_of_le hj hb.size) hne).trans (hb.block j hj)⟩ (fun j hj => ?_) (hne (.inr (by omega)))
   rcases hbk with a | a
   · exact .inl (a.symm.trans hj)
   · rw [hj] at a
     simp only [Option.some.injEq] at a
     right
     rw [a]
     simp
structure LL (e : TypeId) (sz : Nat) (E : TypeId) (w : World) (P : Nat → Prop) (v : Value) (n : Nat) (u : Nat → Value) (L : Nat → Nat) (c : Nat → List Value) : Prop where
 row : w.ownsRow 0 E 1 v n ((List.range n).map u)
 own : ∀ i, i < n → w.ownsRow 0 e sz (u i) (L i) (c i)
 rb : ∀ k, v.ownBlock = some k → P k
 ob : ∀ i, i < n → ∀ k, (u i).ownBlock = some k → P k
 ra : ∀ i, i < n → ∀ k, (u i).ownBlock = some k → v.ownBlock ≠ some k
 oa : ∀ i j, i < n → j < n → i ≠ j → ∀ k, (u i).ownBlock = some k → (u j).ownBlock ≠ some k
 nn : ∀ i, i < n → u i ≠ .slice none 0 0
theorem ownsRow_blkL {w w' : World} {B size n : Nat} {e : TypeId} {v : Value} {xs : List Value} (h : w.ownsRow B e size v n xs) (hb : ∀ k, v.ownBlock = some k → w'.heap[k]? = w.heap[k]?) : w'.ownsRow B e size v n xs := by
 refine ⟨h.1, ?_⟩
 rcases h.2 with hn | ⟨g, cap, cur, rfl, hB, hg, hr⟩
 · exact .inl hn
 · exact .inr ⟨g, cap, cur, rfl, hB, (hb g rfl).trans hg, hr⟩
theorem ownsRow_base0 {w : World} {B size n : Nat} {e : TypeId} {v : Value} {xs : List Value} (h : w.ownsRow B e size v n xs) : w.ownsRow 0 e size v n xs := h.mono (Nat.zero_le _)
section
variable {e : TypeId} {sz : Nat} {E : TypeId} {w : World} {P : Nat → Prop} {v : Value} {n : Nat} {u : Nat → Value} {L : Nat → Nat} {c : Nat → List Value}
theorem LL.keep (o : LL e sz E w P v n u L c) {w' : World} (hb : ∀ k, P k → k < w.heap.size → w'.heap[k]? = w.heap[k]?) : LL e sz E w' P v n u L c :=
 ⟨ownsRow_blkL o.row fun k hk => hb k (o.rb k hk) (o.row.lt k hk).2, fun i hi => ownsRow_blkL (o.own i hi) fun k hk => hb k (o.ob i hi k hk) ((o.own i hi).lt k hk).2, o.rb, o.ob, o.ra, o.oa, o.nn⟩
theorem LL.below (o : LL e sz E w P v n u L c) {w' : World} (hb : Below w.heap.size w w') : LL e sz E w' P v n u L c := o.keep fun k _ hk => hb.block k hk
theorem LL.mono (o : LL e sz E w P v n u L c) {P' : Nat → Prop} (h : ∀ k, P k → k < w.heap.size → P' k) : LL e sz E w P' v n u L c :=
 ⟨o.row, o.own, fun k hk => h k (o.rb k hk) (o.row.lt k hk).2, fun i hi k hk => h k (o.ob i hi k hk) ((o.own i hi).lt k hk).2, o.ra, o.oa, o.nn⟩
theorem LL.push (o : LL e sz E w P v n u L c) {w1 w2 : World} {u' v' : Value} (b1 : Below w.heap.size w w1) (hu : w1.ownsRow w.heap.size e sz u' (L n) (c n)) (hne : u' ≠ .slice none 0 0) (hv : w2.ownsRow 0 E 1 v' (n + 1) ((List.range n).map u ++ [u'])) (g : w1.grownBy w2 v.ownBlock)
   (hv' : ∀ j, v'.ownBlock = some j → v.ownBlock = some j ∨ w1.heap.size ≤ j) {P' : Nat → Prop} (hP : ∀ k, P k → k < w.heap.size → P' k) (hP' : ∀ k, w.heap.size ≤ k → k < w2.heap.size → P' k) : LL e sz E w2 P' v' (n + 1) (fun j => if j = n then u' else u j) L c := by
 have hvlt : ∀ k, v.ownBlock = some k → k < w.heap.size := fun k hk => (o.row.lt k hk).2
 have hu2 : w2.ownsRow w.heap.size e sz u' (L n) (c n) := hu.kept g (by
   cases hk : u'.ownBlock with
   | none => exact .inl rfl
   | some k =>
     refine .inr fun e => ?_
     have q1 := (hu.lt k hk).1
     have q2 := hvlt k e.symm
     omega)
 have ho2 : ∀ i, i < n → w2.ownsRow 0 e sz (u i) (L i) (c i) := fun i hi => ownsRow_blkL (o.own i hi) fun k hk => (g.block k (Nat.lt_of_lt_of_le ((o.own i hi).lt k hk).2 b1.size) fun e => o.ra i hi k hk e.symm).trans (b1.block k ((o.own i hi).lt k hk).2)
 have lts : ∀ i, i < n → ∀ k, (u i).ownBlock = some k → k < w.heap.size := fun i hi k hk => ((o.own i hi).lt k hk).2
 refine ⟨?_, fun i hi => ?_, fun k hk => ?_, fun i hi k hk => ?_, fun i hi k hk => ?_, fun i j hi hj hij k hk => ?_, fun i hi => ?_⟩
 · have e : (List.range (n + 1)).map (fun j => if j = n then u' else u j) = (List.range n).map u ++ [u'] := by
     rw [List.range_succ, List.map_append]
     simp only [List.map_cons, List.map_nil, if_true]
     congr 1
     exact List.map_congr_left fun j hj => by
       rw [if_neg]
       have := List.mem_range.1 hj
       omega
   rw [e]
   exact hv
 · by_cases ei : i = n
   · subst ei
     rw [if_pos rfl]
     exact ownsRow_base0 hu2
   · rw [if_neg ei]
     exact ho2 i (by omega)
 · rcases hv' k hk with h | h
   · exact hP k (o.rb k h) (hvlt k h)
   · exact hP' k (Nat.le_trans b1.size h) (hv.lt k hk).2
 · by_cases ei : i = n
   · simp only [if_pos ei] at hk
     exact hP' k (hu.lt k hk).1 (hu2.lt k hk).2
   · simp only [if_neg ei] at hk
     exact hP k (o.ob i (by omega) k hk) (lts i (by omega) k hk)
 · intro hvk
   by_cases ei : i = n
   · simp only [if_pos ei] at hk
     rcases hv' k hvk with h | h
     · have := hvlt k h
       have := (hu.lt k hk).1
       omega
     · have := (hu.lt k hk).2
       omega
   · simp only [if_neg ei] at hk
     rcases hv' k hvk with h | h
     · exact o.ra i (by omega) k hk h
     · have := lts i (by omega) k hk
       have := b1.size
       omega
 · intro hjk
   by_cases ei : i = n
   · have ej : j ≠ n := fun e => hij (by omega)
     simp only [if_pos ei] at hk
     simp only [if_neg ej] at hjk
     have := lts j (by omega) k hjk
     have := (hu.lt k hk).1
     omega
   · simp only [if_neg ei] at hk
     by_cases ej : j = n
     · simp only [if_pos ej] at hjk
       have := lts i (by omega) k hk
       have := (hu.lt k hjk).1
       omega
     · simp only [if_neg ej] at hjk
       exact o.oa i j (by omega) (by omega) hij k hk hjk
 · by_cases ei : i = n
   · rw [if_pos ei]
     exact hne
   · rw [if_neg ei]
     exact o.nn i (by omega)
theorem LL.nil (e : TypeId) (sz : Nat) (E : TypeId) (w : World) (P : Nat → Prop) (u : Nat → Value) (L : Nat → Nat) (c : Nat → List Value) : LL e sz E w P (.slice none 0 0) 0 u L c :=
 ⟨World.ownsRow_nil _ _ _ _, fun i hi => (by omega), fun k hk => (by cases hk), fun i hi => (by omega), fun i hi => (by omega), fun i j hi => (by omega), fun i hi => by omega⟩
theorem LL.new (e : TypeId) (sz : Nat) (E : TypeId) (w : World) (P : Nat → Prop) (hP : P w.heap.size) (u : Nat → Value) (L : Nat → Nat) (c : Nat → List Value) : LL e sz E (w.alloc (.cells #[] E)) P (.slice (some ⟨w.heap.size, 0, none⟩) 0 0) 0 u L c :=
 ⟨World.ownsRow_made (base := 0) (e := E) (size := 1) w #[] 0 (Nat.zero_le _) (by unfold maxLen; omega) rfl, fun i hi => (by omega), fun k hk => (by cases hk; exact hP), fun i hi => (by omega), fun i hi => (by omega), fun i j hi => (by omega), fun i hi => by omega⟩
theorem LL.cell (o : LL e sz E w P v n u L c) {i : Nat} (hi : i < n) : ∃ g cap, v = .slice (some ⟨g, 0, none⟩) n cap ∧ P g ∧ g < w.heap.size ∧ w.cell? ⟨g, i, none⟩ = some (u i) ∧ ∀ j, w.frozen? ⟨g, j, none⟩ = false := by
 rcases o.row.2 with ⟨_, h0⟩ | ⟨g, cap, cur, rfl, hb, hg, hr⟩
 · omega
 · refine ⟨g, cap, rfl, o.rb g rfl, (o.row.lt g rfl).2, ?_, fun j => o.row.frozenAt j⟩
   rw [o.row.cellAt i (by omega)]
   simp [hi]
end
end Go.Proofs.YtihilndfhlfdfaaGreatDoor
