/- The one listed variable: what the condition gives a walk, and a world that meets it. -/
import Derived.Test.YtdmpcnmbnfdfmaaGreatDoorFc0
import Derived.Test.YtdmpcnmbnfdfmaaGreatDoorRows
import Derived.WalkKit
import Derived.WalkSpells
import Derived.WalkLawsBesides
import Derived.Handy
import Derived.Deep.QuietTactic
import Derived.BigQuiet
import Derived.Maps.AppendAt
import Derived.Test.YtdmpcnmbnfdfmaaGreatDoorFc1
import Derived.Maps.Range
import Derived.Deep.Onto
import Derived.Deep.Slices
import Derived.Deep.RegionWith
import Derived.Laws.IdiomCopy
import Derived.Test.YtdmpcnmbnfdfmaaGreatDoorTie
import Derived.ChangeSame
import Derived.ChangeVars
import Derived.JoinedOf
import Derived.RowKit
import Derived.RowKitTokens
import Derived.LaidLaws
import Derived.LaidHandle
import Derived.Stop.Joined
namespace Go.Proofs.YtdmpcnmbnfdfmaaGreatDoor
set_option maxRecDepth 100000
set_option maxHeartbeats 1000000
open Go.RowKit
theorem i64_and255 (n : Int) : bits .and .i64 n 255 = n % 256 := by
 have h255 : (BitVec.ofInt 64 255).toNat = 2 ^ 8 - 1 := by decide
 have key : (BitVec.ofInt 64 n &&& BitVec.ofInt 64 255).toNat = (n % ((2 ^ 64 : Nat) : Int)).toNat % 2 ^ 8 := by
  rw [BitVec.toNat_and, BitVec.toNat_ofInt, h255, Nat.and_two_pow_sub_one_eq_mod]
 show IntKind.i64.wrap ((BitVec.ofInt 64 n &&& BitVec.ofInt 64 255).toNat : Nat) = n % 256
 rw [key, IntKind.wrap_i64]
 omega
def BytesAt (w : World) (W0 : Nat) (a0 : Option Addr) (len : Nat) : Prop :=
 len = 0 ∨ ∃ b off, a0 = some ⟨b, off, none⟩ ∧ b < W0 ∧ ∀ j, j < len → ∃ z : Int, w.cell? ⟨b, off + j, none⟩ = some (.int .u8 z) ∧ 0 ≤ z ∧ z ≤ 255
structure Cur (w : World) (W0 c : Nat) (a0 : Option Addr) (len cap : Nat) : Prop where
 ex : ∃ (i : Nat) (h : Int), w.cell? ⟨c, 0, none⟩ = some (.slice a0 len cap) ∧ w.cell? ⟨c, 1, none⟩ = some (.int .i64 i) ∧ w.cell? ⟨c, 2, none⟩ = some (.int .i64 h)
 fr : ∀ o, w.frozen? ⟨c, o, none⟩ = false
 lt : c < w.heap.size
 ge : W0 ≤ c
 by' : BytesAt w W0 a0 len
 ln : len ≤ 1048576
theorem BytesAt.kept {w w' : World} {W0 len : Nat} {a0 : Option Addr} (h : BytesAt w W0 a0 len) (hb : ∀ k, k < W0 → w'.heap[k]? = w.heap[k]?) : BytesAt w' W0 a0 len := by
 rcases h with h | ⟨b, off, e, hlt, hz⟩
 ·exact .inl h
 ·refine .inr ⟨b, off, e, hlt, fun j hj => ?_⟩
  obtain ⟨z, hz1, hz2⟩ := hz j hj
  exact ⟨z, (World.cell?_of_block (hb b hlt)).trans hz1, hz2⟩
theorem Cur.kept {w w' : World} {W0 c len cap : Nat} {a0 : Option Addr} {row : Option Nat} (h : Cur w W0 c a0 len cap) (hg : w.grownBy w' row) (hne : some c ≠ row) (hr : ∀ k, row = some k → W0 ≤ k) : Cur w' W0 c a0 len cap := by
 have hc := hg.block c h.lt hne
 obtain ⟨i, hh, h0, h1, h2⟩ := h.ex
 refine ⟨⟨i, hh, (World.cell?_of_block hc).trans h0, (World.cell?_of_block hc).trans h1, (World.cell?_of_block hc).trans h2⟩, fun o => (World.frozen?_of_block hc).trans (h.fr o), Nat.lt_of_lt_of_le h.lt hg.size, h.ge, ?_, h.ln⟩
 exact h.by'.kept fun k hk => hg.block k (Nat.lt_trans (Nat.lt_of_lt_of_le hk h.ge) h.lt) (fun e => by have := hr k e.symm; omega)
theorem Cur.alloc {w : World} {W0 c len cap : Nat} {a0 : Option Addr} (h : Cur w W0 c a0 len cap) (o : Obj) : Cur (w.alloc o) W0 c a0 len cap :=
 h.kept (World.grownBy_alloc w o none) (by simp) (fun k hk => by cases hk)
theorem grown_drewN {w w' : World} {row : Option Nat} (h : w.grownBy w' row) (n : Nat) : w.grownBy (w'.drewN n) row := ⟨h.os, h.tape, h.output, h.size, h.block⟩
theorem grown_setCell {w w' : World} {row : Option Nat} (h : w.grownBy w' row) {p : Addr} (hp : row = some p.block ∨ w.heap.size ≤ p.block) (v : Value) : w.grownBy (w'.setCell p v) row :=
 ⟨h.os, h.tape, h.output, by simpa using h.size, fun k hk hne => by
  rw [Below.heap_setCell w' p v k (fun e => by
   subst e
   rcases hp with hp | hp
   ·exact hne hp.symm
   ·omega)]
  exact h.block k hk hne⟩
theorem Cur.drewN {w : World} {W0 c len cap : Nat} {a0 : Option Addr} (h : Cur w W0 c a0 len cap) (n : Nat) : Cur (w.drewN n) W0 c a0 len cap := ⟨h.ex, h.fr, h.lt, h.ge, h.by', h.ln⟩
theorem Cur.bytesSet {w : World} {W0 c len cap : Nat} {a0 : Option Addr} (h : Cur w W0 c a0 len cap) (o : Nat) (v : Value) : BytesAt (w.setCell ⟨c, o, none⟩ v) W0 a0 len :=
 h.by'.kept fun k hk => Below.heap_setCell w ⟨c, o, none⟩ v k (fun e => by have := h.ge; simp at e; omega)
theorem Cur.set2 {w : World} {W0 c len cap : Nat} {a0 : Option Addr} (h : Cur w W0 c a0 len cap) (x : Int) : Cur (w.setCell ⟨c, 2, none⟩ (.int .i64 x)) W0 c a0 len cap := by
 obtain ⟨i, y, h0, h1, h2⟩ := h.ex
 exact ⟨⟨i, x, by go_cell, by go_cell, by go_cell⟩, fun o => by simpa using h.fr o, by simpa using h.lt, h.ge, h.bytesSet _ _, h.ln⟩
theorem Cur.set1 {w : World} {W0 c len cap : Nat} {a0 : Option Addr} (h : Cur w W0 c a0 len cap) (x : Int) (hx : 0 ≤ x) : Cur (w.setCell ⟨c, 1, none⟩ (.int .i64 x)) W0 c a0 len cap := by
 obtain ⟨i, y, h0, h1, h2⟩ := h.ex
 obtain ⟨k, rfl⟩ := Int.eq_ofNat_of_zero_le hx
 exact ⟨⟨k, y, by go_cell, by go_cell, by go_cell⟩, fun o => by simpa using h.fr o, by simpa using h.lt, h.ge, h.bytesSet _ _, h.ln⟩
theorem l1Byte_any (W0 c len cap : Nat) (a0 : Option Addr) (w : World) (hc : Cur w W0 c a0 len cap) :
  Calls Tryz.prog 33 #[.pointer (some ⟨c, 0, none⟩)] w fun e w' => ∃ x : Int, e = .returned (.int .i64 x) ∧ (0 ≤ x ∧ x ≤ 255) ∧ Cur w' W0 c a0 len cap ∧ w.grownBy w' (some c) := by
 have HCur : Hid (Cur w W0 c a0 len cap) := hc
 obtain ⟨⟨i, h, c0, c1, c2⟩, fr, lt, ge, hby, ln⟩ := hc
 have f1 := fr 1
 have f2 := fr 2
 have ln' : (len : Int) ≤ 1048576 := by omega
 have HB : Hid (BytesAt w W0 a0 len) := hby
 clear hby fr
 have hand := i64_and255
 by_cases hil : i < len
 ·have hil' : (i : Int) < (len : Int) := by omega
  rcases HB.out with hb | ⟨b, off, rfl, hbW, hz⟩
  ·omega
  obtain ⟨z, cz, z0, z1⟩ := hz i hil
  have hbc : b ≠ c := by omega
  clear hz
  go_enter Tryz.func33, Tryz.ntmps33
  go_wp2
  generalize wrap64 (wrap64 (h * 6364136223846793005) + 1442695040888963407) = h2
  go_quiet (fail)
  go_wp2
  go_quiet (fail)
  go_wp2
  go_quiet (fail)
  go_wp2
  go_ret
  refine ⟨_, rfl, by omega, ?_, ?_⟩
  ·exact ((HCur.out.set2 h2).drewN _).set1 ((i : Int) + 1) (by omega)
  ·exact grown_setCell (p := ⟨c, 1, none⟩) (grown_drewN (grown_setCell (p := ⟨c, 2, none⟩) (World.grownBy.refl w (some c)) (.inl rfl) _) _) (.inl rfl) _
 ·have hil' : ¬ ((i : Int) < (len : Int)) := by omega
  go_enter Tryz.func33, Tryz.ntmps33
  go_wp2
  generalize wrap64 (wrap64 (h * 6364136223846793005) + 1442695040888963407) = h2
  go_quiet (fail)
  go_wp2
  go_quiet (fail)
  go_wp2
  go_ret
  refine ⟨_, rfl, by omega, ?_, ?_⟩
  ·exact ((HCur.out.set2 h2).drewN _).drewN _
  ·exact grown_drewN (grown_drewN (grown_setCell (World.grownBy.refl _ _) (.inl rfl) _) _) _
theorem l1Below_any (W0 c len cap : Nat) (a0 : Option Addr) (n : Int) (w : World) (hc : Cur w W0 c a0 len cap) (n1 : 1 ≤ n) (n2 : n ≤ 256) :
  Calls Tryz.prog 13 #[.pointer (some ⟨c, 0, none⟩), .int .i64 n] w fun e w' => ∃ x : Int, e = .returned (.int .i64 x) ∧ (0 ≤ x ∧ x < n) ∧ Cur w' W0 c a0 len cap ∧ w.grownBy w' (some c) := by
 have n3 : ¬ n ≤ 0 := by omega
 have n4 : (n == 0) = false := by simp; omega
 have HCur : Hid (Cur w W0 c a0 len cap) := hc
 clear hc
 go_enter Tryz.func13, Tryz.ntmps13
 go_wp2_with fail
 refine (l1Byte_any W0 c len cap a0 _ HCur.out).mono ?_
 rintro e w1 ⟨x, rfl, ⟨x0, x1⟩, hc1, hg1⟩
 have HC1 : Hid (Cur w1 W0 c a0 len cap) := hc1
 have HG1 : Hid (w.grownBy w1 (some c)) := hg1
 clear hc1 hg1
 go_wp2
 go_ret
 exact ⟨_, rfl, ⟨Int.emod_nonneg _ (by omega), Int.emod_lt_of_pos _ (by omega)⟩, HC1.out, HG1.out⟩
theorem l1Once_any (W0 c len cap : Nat) (a0 : Option Addr) (n : Int) (w : World) (hc : Cur w W0 c a0 len cap) (n1 : 1 ≤ n) (n2 : n ≤ 256) :
  Calls Tryz.prog 14 #[.pointer (some ⟨c, 0, none⟩), .int .i64 n] w fun e w' => ∃ x : Bool, e = .returned (.bool x) ∧ Cur w' W0 c a0 len cap ∧ w.grownBy w' (some c) := by
 have HCur : Hid (Cur w W0 c a0 len cap) := hc
 clear hc
 go_enter Tryz.func14, Tryz.ntmps14
 go_wp2_with fail
 refine (l1Below_any W0 c len cap a0 _ _ HCur.out n1 n2).mono ?_
 rintro e w1 ⟨x, rfl, _, hc1, hg1⟩
 have HC1 : Hid (Cur w1 W0 c a0 len cap) := hc1
 have HG1 : Hid (w.grownBy w1 (some c)) := hg1
 clear hc1 hg1
 go_wp2
 go_ret
 exact ⟨_, rfl, HC1.out, HG1.out⟩
def IntsAt (w : World) (b len : Nat) (z : Nat → Int) : Prop := ∀ j, j < len → w.cell? ⟨b, j, none⟩ = some (.int .i64 (z j))
theorem l1PickInt_of (W0 c len cap b m mc : Nat) (a0 : Option Addr) (z : Nat → Int) (w : World) (hc : Cur w W0 c a0 len cap) (n1 : 1 ≤ m) (n2 : m ≤ 256) (hb : b < w.heap.size) (hne : b ≠ c) (hz : IntsAt w b m z) :
  Calls Tryz.prog 15 #[.pointer (some ⟨c, 0, none⟩), .slice (some ⟨b, 0, none⟩) m mc] w fun e w' => ∃ k : Nat, k < m ∧ e = .returned (.int .i64 (z k)) ∧ Cur w' W0 c a0 len cap ∧ w.grownBy w' (some c) := by
 have HCur : Hid (Cur w W0 c a0 len cap) := hc
 have HZ : Hid (IntsAt w b m z) := hz
 clear hc hz
 go_enter Tryz.func15, Tryz.ntmps15
 go_wp2_with fail
 refine (l1Below_any W0 c len cap a0 _ _ HCur.out (by omega) (by omega)).mono ?_
 rintro e w1 ⟨x, rfl, ⟨x0, x1⟩, hc1, hg1⟩
 obtain ⟨k, rfl⟩ := Int.eq_ofNat_of_zero_le x0
 have cz : w1.cell? ⟨b, k, none⟩ = some (.int .i64 (z k)) := (World.cell?_of_block (hg1.block b hb (by simp [hne]))).trans (HZ.out k (by omega))
 have HC1 : Hid (Cur w1 W0 c a0 len cap) := hc1
 have HG1 : Hid (w.grownBy w1 (some c)) := hg1
 clear hc1 hg1
 go_wp2
 go_ret
 exact ⟨k, by omega, rfl, HC1.out, HG1.out⟩
theorem l1PickInt_any (W0 c len cap b m mc : Nat) (a0 : Option Addr) (z : Nat → Int) (w : World) (hc : Cur w W0 c a0 len cap) (n1 : 1 ≤ m) (n2 : m ≤ 256) (hb : b < w.heap.size) (hne : b ≠ c) (hz : IntsAt w b m z) :
  Calls Tryz.prog 15 #[.pointer (some ⟨c, 0, none⟩), .slice (some ⟨b, 0, none⟩) m mc] w fun e w' => ∃ x : Int, e = .returned (.int .i64 x) ∧ Cur w' W0 c a0 len cap ∧ w.grownBy w' (some c) := by
 refine (l1PickInt_of W0 c len cap b m mc a0 z w hc n1 n2 hb hne hz).mono ?_
 rintro e w' ⟨k, -, he, h⟩
 exact ⟨_, he, h⟩
def zi (xs : List Int) (i : Nat) : Int := xs.getD i 0
def Sl (w : World) (a0 : Option Addr) (xs : List Int) : Prop :=
 xs = [] ∨ ∃ b off, a0 = some ⟨b, off, none⟩ ∧ b < w.heap.size ∧ ∀ i, i < xs.length → w.cell? ⟨b, off + i, none⟩ = some (.int .i64 (zi xs i))
theorem Sl.below {w w' : World} {a0 : Option Addr} {xs : List Int} (h : Sl w a0 xs) (hb : Below w.heap.size w w') : Sl w' a0 xs := by
 rcases h with h | ⟨b, off, e, hlt, hc⟩
 ·exact .inl h
 ·exact .inr ⟨b, off, e, Nat.lt_of_lt_of_le hlt hb.size, fun i hi => (hb.cell (p := ⟨b, off + i, none⟩) hlt).trans (hc i hi)⟩
theorem Sl.at {w : World} {a0 : Option Addr} {xs : List Int} (h : Sl w a0 xs) {k : Nat} (hk : k < xs.length) : ∃ b off, a0 = some ⟨b, off, none⟩ ∧ b < w.heap.size ∧ w.cell? ⟨b, off + k, none⟩ = some (.int .i64 (zi xs k)) := by
 rcases h with rfl | ⟨b, off, e, hlt, hc⟩
 ·simp at hk
 ·exact ⟨b, off, e, hlt, hc k hk⟩
def OwnI (w : World) (B : Nat) (v : Value) (xs : List Int) : Prop := w.ownsRow B 3 1 v xs.length (xs.map (Value.int .i64))
theorem OwnI.mono {w : World} {B B' : Nat} {v : Value} {xs : List Int} (h : OwnI w B v xs) (hb : B' ≤ B) : OwnI w B' v xs := World.ownsRow.mono h hb
theorem OwnI.kept {w w' : World} {B : Nat} {v : Value} {xs : List Int} {row : Option Nat} (h : OwnI w B v xs) (hg : w.grownBy w' row) (hne : v.ownBlock = none ∨ v.ownBlock ≠ row) : OwnI w' B v xs := World.ownsRow.kept h hg hne
theorem OwnI.lt {w : World} {B : Nat} {v : Value} {xs : List Int} (h : OwnI w B v xs) : ∀ k, v.ownBlock = some k → B ≤ k ∧ k < w.heap.size := World.ownsRow.lt h
theorem grown_of_below {w w' : World} (h : Below w.heap.size w w') : w.grownBy w' none := ⟨h.os, h.tape, h.output, h.size, fun k hk _ => h.block k hk⟩
theorem below_of_grown {w w' : World} (h : w.grownBy w' none) : Below w.heap.size w w' := ⟨h.os, h.tape, h.output, h.size, fun k hk => h.block k hk (by simp)⟩
theorem OwnI.below {w w' : World} {B : Nat} {v : Value} {xs : List Int} (h : OwnI w B v xs) (hb : Below w.heap.size w w') : OwnI w' B v xs := by
 refine h.kept (grown_of_below hb) ?_
 cases hv : v.ownBlock with
 | none => exact .inl rfl
 | some k => exact .inr (by simp)
theorem below_drewN {B : Nat} {w w' : World} (h : Below B w w') (n : Nat) : Below B w (w'.drewN n) := ⟨h.os, h.tape, h.output, h.size, h.block⟩
theorem getD_map_int (xs : List Int) (j : Nat) (hj : j < xs.length) : (xs.map (Value.int .i64))[j]? = some (.int .i64 (zi xs j)) := by
 unfold zi
 rw [List.getElem?_map, List.getElem?_eq_getElem hj, List.getD_eq_getElem?_getD, List.getElem?_eq_getElem hj]; rfl
theorem OwnI.form {w : World} {B : Nat} {v : Value} {xs : List Int} (h : OwnI w B v xs) : ∃ a0 cap, v = .slice a0 xs.length cap ∧ Sl w a0 xs := by
 rcases h.2 with ⟨rfl, h0⟩ | ⟨g, cap, cur, rfl, hb, _⟩
 ·exact ⟨none, 0, by rw [h0], .inl (List.eq_nil_of_length_eq_zero h0)⟩
 ·refine ⟨_, cap, rfl, .inr ⟨g, 0, rfl, (h.lt g rfl).2, fun i hi => ?_⟩⟩
  rw [Nat.zero_add, World.ownsRow.cellAt h i (by omega)]
  exact getD_map_int xs i hi
theorem OwnI.block {w : World} {B : Nat} {v : Value} {xs : List Int} (h : OwnI w B v xs) (hn : 0 < xs.length) : ∃ g cap, v = .slice (some ⟨g, 0, none⟩) xs.length cap ∧ B ≤ g ∧ g < w.heap.size := by
 rcases h.2 with ⟨_, h0⟩ | ⟨g, cap, cur, rfl, hb, _⟩
 ·omega
 ·exact ⟨g, cap, rfl, hb, (h.lt g rfl).2⟩
theorem OwnI.cell {w : World} {B g cap : Nat} {xs : List Int} (h : OwnI w B (.slice (some ⟨g, 0, none⟩) xs.length cap) xs) {j : Nat} (hj : j < xs.length) : w.cell? ⟨g, j, none⟩ = some (.int .i64 (zi xs j)) := by
 rw [World.ownsRow.cellAt h j (by omega)]
 exact getD_map_int xs j hj
theorem OwnI.frozen {w : World} {B g cap : Nat} {xs : List Int} (h : OwnI w B (.slice (some ⟨g, 0, none⟩) xs.length cap) xs) (j : Nat) : w.frozen? ⟨g, j, none⟩ = false := World.ownsRow.frozenAt h j
theorem OwnI.set {w : World} {B g cap n : Nat} {xs : List Int} (h : OwnI w B (.slice (some ⟨g, 0, none⟩) n cap) xs) (hn : n = xs.length) (j : Nat) (x : Int) : OwnI (w.setCell ⟨g, j, none⟩ (.int .i64 x)) B (.slice (some ⟨g, 0, none⟩) n cap) (xs.set j x) ∧ w.grownBy (w.setCell ⟨g, j, none⟩ (.int .i64 x)) (some g) := by
 subst hn
 have := World.ownsRow.stored h j (.int .i64 x)
 unfold OwnI
 rw [List.length_set, List.map_set]
 exact this
theorem infoInt : (Tryz.prog.info? 3).map (fun i => (i.zero, i.size, i.bytes)) = some (some (.int .i64 0), 1, 8) := by kernel_rfl
theorem run_make_int (n : Nat) (hn : n ≤ 1048576) (w : World) :
  (Instr.makeSlice 35 (.int .i64 (n : Int)) (.int .i64 (n : Int))).run Tryz.prog w = .ok (.slice (some ⟨w.heap.size, 0, none⟩) n n) (w.alloc (.cells (madeCells #[.int .i64 0] n) 3)) := by
 have hinfo := infoInt
 cases hi : Tryz.prog.info? 3 with
 | none => rw [hi] at hinfo; cases hinfo
 | some i =>
  rw [hi] at hinfo
  simp only [Option.map_some, Option.some.injEq, Prod.mk.injEq] at hinfo
  obtain ⟨hz, hs, hb⟩ := hinfo
  have h := run_make (P := Tryz.prog) w 35 3 i _ Tryz.underlying35 hi hz .i64 .i64 (n : Int) (n : Int) (by omega) (Int.le_refl _) (by rw [hb]; omega) (by omega)
  rw [hs] at h
  simpa [Value.cells] using h
theorem made_own (w : World) (n : Nat) (hn : n ≤ 1048576) : OwnI (w.alloc (.cells (madeCells #[.int .i64 0] n) 3)) w.heap.size (.slice (some ⟨w.heap.size, 0, none⟩) n n) (List.replicate n 0) := by
 have := World.ownsRow_lit (base := w.heap.size) (e := 3) (size := 1) w (madeCells #[.int .i64 0] n) n (Nat.le_refl _) (by unfold maxLen; omega) (by simp [size_madeCells])
 rw [toList_madeCells_one] at this
 unfold OwnI
 rw [List.length_replicate, List.map_replicate]
 exact this
abbrev stV (p : Int) (ra : Option Addr) (rn rc : Nat) (oa : Option Addr) (on oc : Nat) (code : Int) : Value := .agg #[.int .i64 p, .slice ra rn rc, .slice oa on oc, .int .i64 code]
abbrev evV (k p v : Int) : Value := .agg #[.int .i64 k, .int .i64 p, .int .i64 v]
theorem bcell {W w1 : World} (hb : Below W.heap.size W w1) : (∀ b o, b < W.heap.size → w1.cell? ⟨b, o, none⟩ = W.cell? ⟨b, o, none⟩) ∧ (∀ b o, b < W.heap.size → w1.frozen? ⟨b, o, none⟩ = W.frozen? ⟨b, o, none⟩) :=
 ⟨fun b o h => hb.cell (p := ⟨b, o, none⟩) h, fun b o h => hb.frozen (p := ⟨b, o, none⟩) h⟩
theorem OwnI.setBelow {w : World} {B : Nat} {v : Value} {xs : List Int} (h : OwnI w B v xs) {a : Addr} (ha : a.block < B) (u : Value) : OwnI (w.setCell a u) B v xs := ownsRow_setCell_below h ha u
def StOwn (w : World) (B : Nat) (v : Value) (p : Int) (rs os : List Int) (code : Int) : Prop :=
 ∃ vr vo, v = .agg #[.int .i64 p, vr, vo, .int .i64 code] ∧ OwnI w B vr rs ∧ OwnI w B vo os ∧ ∀ k, vr.ownBlock = some k → vo.ownBlock ≠ some k
theorem StOwn.below {w w' : World} {B : Nat} {v : Value} {p code : Int} {rs os : List Int} (h : StOwn w B v p rs os code) (hb : Below w.heap.size w w') : StOwn w' B v p rs os code := by
 obtain ⟨vr, vo, e, h1, h2, h3⟩ := h
 exact ⟨vr, vo, e, h1.below hb, h2.below hb, h3⟩
theorem StOwn.mono {w : World} {B B' : Nat} {v : Value} {p code : Int} {rs os : List Int} (h : StOwn w B v p rs os code) (hb : B' ≤ B) : StOwn w B' v p rs os code := by
 obtain ⟨vr, vo, e, h1, h2, h3⟩ := h
 exact ⟨vr, vo, e, h1.mono hb, h2.mono hb, h3⟩
theorem StOwn.read {w : World} {B : Nat} {v : Value} {p code : Int} {rs os : List Int} (h : StOwn w B v p rs os code) : ∃ ra rc oa oc, v = stV p ra rs.length rc oa os.length oc code ∧ Sl w ra rs ∧ Sl w oa os := by
 obtain ⟨vr, vo, rfl, h1, h2, _⟩ := h
 obtain ⟨ra, rc, rfl, s1⟩ := h1.form
 obtain ⟨oa, oc, rfl, s2⟩ := h2.form
 exact ⟨ra, rc, oa, oc, rfl, s1, s2⟩
theorem below_up {w w0 w1 : World} {B : Nat} (h : Below B w w0) (h1 : Below w0.heap.size w0 w1) (hB : B ≤ w0.heap.size) : Below B w w1 := h.trans (h1.mono hB)
abbrev regV (a b c d : Int) : Value := .agg #[.int .i64 a, .int .i64 b, .int .i64 c, .int .i64 d]
theorem sizeInt : (Tryz.prog.info? 3).map (·.size) = some 1 := by kernel_rfl
def cmax (x : Int) : Int := if x < -1000000000 then -1000000000 else x
def cmin (x : Int) : Int := if 1000000000 < x then 1000000000 else x
def clamp (x : Int) : Int := cmin (cmax x)
theorem run_cmax (ts : Array TypeId) (t : TypeId) (x : Int) (w : World) : (Builtin.max_ ts t #[.int .i64 x, .int .i64 (-1000000000)]).run Tryz.prog w = .ok (.int .i64 (cmax x)) w := by
 rw [run_max_int2]; rfl
theorem run_cmin (ts : Array TypeId) (t : TypeId) (x : Int) (w : World) : (Builtin.min_ ts t #[.int .i64 x, .int .i64 1000000000]).run Tryz.prog w = .ok (.int .i64 (cmin x)) w := by
 rw [run_min_int2]; rfl
theorem run_index0 (a b c d : Int) (w : World) : (Instr.index 158 (regV a b c d) (.int .i64 0)).run Tryz.prog w = .ok (.int .i64 a) w := by kernel_rfl
theorem run_index1 (a b c d : Int) (w : World) : (Instr.index 158 (regV a b c d) (.int .i64 1)).run Tryz.prog w = .ok (.int .i64 b) w := by kernel_rfl
theorem run_index2 (a b c d : Int) (w : World) : (Instr.index 158 (regV a b c d) (.int .i64 2)).run Tryz.prog w = .ok (.int .i64 c) w := by kernel_rfl
theorem run_index3 (a b c d : Int) (w : World) : (Instr.index 158 (regV a b c d) (.int .i64 3)).run Tryz.prog w = .ok (.int .i64 d) w := by kernel_rfl
section
attribute [local go_sem] run_index0 run_index1 run_index2 run_index3
theorem held_any (a b c d : Int) (w : World) :
  Calls Tryz.prog 110 #[regV a b c d] w fun e w' => e = .returned (regV (clamp a) (clamp b) (clamp c) (clamp d)) ∧ Below w.heap.size w w' := by
 have hmx := run_cmax
 have hmn := run_cmin
 go_enter Tryz.func110, Tryz.ntmps110
 go_wp2_with fail
 go_rounds 5
 refine bodyPost_ret (v := regV (clamp a) (clamp b) (clamp c) (clamp d)) (by simp [results, Tryz.results110, go_sem, clamp]) rfl ⟨rfl, ?_⟩
 go_grown
end
theorem isCode_any (x : Int) (w : World) :
  Calls Tryz.prog 111 #[.int .i64 x] w fun e w' => e = .returned (.bool (inB x 0 2)) ∧ w' = w := by
 by_cases h0 : x = 0
 ·subst h0
  go_enter Tryz.func111, Tryz.ntmps111
  go_wp2
  go_ret
  exact ⟨rfl, rfl⟩
 ·have h0' : (x == 0) = false := by simp [h0]
  by_cases h1 : x = 1
  ·subst h1
   go_enter Tryz.func111, Tryz.ntmps111
   go_wp2
   go_ret
   exact ⟨rfl, rfl⟩
  ·have h1' : (x == 1) = false := by simp [h1]
   have hv : inB x 0 2 = (x == 2) := by
    rw [Bool.eq_iff_iff]; simp [inB]; omega
   have HV : Hid (inB x 0 2 = (x == 2)) := hv
   clear h0 h1 hv
   go_enter Tryz.func111, Tryz.ntmps111
   go_wp2
   go_ret
   exact ⟨by rw [HV.out]; rfl, rfl⟩
theorem setRow_alloc (w : World) (z cs : Array Value) (t : TypeId) : (w.alloc (.cells z t)).setRow w.heap.size cs = w.alloc (.cells cs t) := by
 have h : ((w.alloc (.cells z t)).setRow w.heap.size cs).heap = (w.alloc (.cells cs t)).heap := by
  apply Array.ext_getElem?
  intro k
  by_cases hk : k = w.heap.size
  ·subst hk
   rw [setRow_heap _ _ z cs t (0, 0) (heap_alloc_new w _)]
   exact (heap_alloc_new w _).symm
  ·rw [setRow_other _ _ _ _ hk]
   show (w.heap.push _)[k]? = (w.heap.push _)[k]?
   rw [Array.getElem?_push, Array.getElem?_push, if_neg hk, if_neg hk]
 show World.mk _ _ _ _ _ = World.mk _ _ _ _ _
 congr 1
theorem run_copy4 (w : World) (a : Addr) (sLen cap : Nat) (cs : List Value) (z : Array Value) (hz : z.size = 4) (hn : cs.length = Nat.min sLen 4) (hsrc : ∀ j v, cs[j]? = some v → (w.alloc (.cells z 158)).cell? (a.add j) = some v) (h1 : ∀ v ∈ cs, v.oneCell' = true) :
  (Builtin.copy_ #[35, 35] 3 #[.slice (some ⟨w.heap.size, 0, none⟩) 4 4, .slice (some a) sLen cap]).run Tryz.prog (w.alloc (.cells z 158)) = .ok (goInt cs.length) (w.alloc (.cells (cs ++ z.toList.drop cs.length).toArray 158)) := by
 have h := run_copy_row (P := Tryz.prog) (w.alloc (.cells z 158)) 35 35 3 3 w.heap.size 0 4 4 a sLen cap z 158 cs Tryz.underlying35 sizeInt (heap_alloc_new w _) hn hsrc (by rw [hz, hn, Nat.zero_add]; exact Nat.min_le_right _ _) h1
 rw [h, setRow_alloc]
 simp only [List.take_zero, List.nil_append, Nat.zero_add]
theorem addr_add (b off j : Nat) : Addr.add ⟨b, off, none⟩ j = ⟨b, off + j, none⟩ := by
 unfold Addr.add
 by_cases h : j = 0
 ·rw [if_pos h, h, Nat.add_zero]
 ·rw [if_neg h]
theorem src_of_sl {w w' : World} {b off : Nat} {xs : List Int} (h : Sl w (some ⟨b, off, none⟩) xs) (hb : Below w.heap.size w w') : ∀ j v, (xs.map (Value.int .i64))[j]? = some v → w'.cell? (Addr.add ⟨b, off, none⟩ j) = some v := by
 intro j v hj
 have hl : j < xs.length := by
  apply Classical.byContradiction
  intro hn
  rw [List.getElem?_eq_none (by simp; omega)] at hj
  cases hj
 rw [getD_map_int xs j hl] at hj
 rw [addr_add, ← hj]
 obtain ⟨b', off', e, hlt, hc⟩ := (h.below hb).at hl
 simp only [Option.some.injEq, Addr.mk.injEq, and_true] at e
 obtain ⟨rfl, rfl⟩ := e
 exact hc
theorem one_ints (xs : List Int) : ∀ v ∈ xs.map (Value.int .i64), v.oneCell' = true := by
 intro v hv
 obtain ⟨x, _, rfl⟩ := List.mem_map.1 hv
 rfl
abbrev zero4 : Obj := .cells #[.int .i64 0, .int .i64 0, .int .i64 0, .int .i64 0] 158
theorem registersOf_core (a0 : Option Addr) (n cap q : Nat) (r0 r1 r2 r3 : Int) (w : World)
  (hrun : (Builtin.copy_ #[35, 35] 3 #[.slice (some ⟨w.heap.size + 1, 0, none⟩) 4 4, .slice a0 n cap]).run Tryz.prog ((w.alloc zero4).alloc zero4) = .ok (goInt q) ((w.alloc zero4).alloc (.cells #[.int .i64 r0, .int .i64 r1, .int .i64 r2, .int .i64 r3] 158))) :
  Calls Tryz.prog 96 #[.slice a0 n cap] w fun e w' => e = .returned (.tuple #[regV r0 r1 r2 r3, .bool ((n : Int) == 4)]) ∧ Below w.heap.size w w' := by
 go_enter Tryz.func96, Tryz.ntmps96
 go_wp2
 refine bodyPost_ret (v := .tuple #[regV r0 r1 r2 r3, .bool ((n : Int) == 4)]) (by simp [results, Tryz.results96, go_sem]) rfl ⟨rfl, ?_⟩
 go_grown
theorem registersOf_some (b off n cap : Nat) (cs : List Int) (r0 r1 r2 r3 : Int) (w : World) (hn : cs.length = Nat.min n 4) (h : Sl w (some ⟨b, off, none⟩) cs)
  (hr : (cs.map (Value.int .i64) ++ [Value.int .i64 0, .int .i64 0, .int .i64 0, .int .i64 0].drop cs.length).toArray = #[.int .i64 r0, .int .i64 r1, .int .i64 r2, .int .i64 r3]) :
  Calls Tryz.prog 96 #[.slice (some ⟨b, off, none⟩) n cap] w fun e w' => e = .returned (.tuple #[regV r0 r1 r2 r3, .bool ((n : Int) == 4)]) ∧ Below w.heap.size w w' := by
 have hb : Below w.heap.size w ((w.alloc zero4).alloc zero4) := by go_grown
 have hrun := run_copy4 (w.alloc zero4) ⟨b, off, none⟩ n cap (cs.map (Value.int .i64)) #[.int .i64 0, .int .i64 0, .int .i64 0, .int .i64 0] rfl (by rw [List.length_map]; exact hn) (src_of_sl h hb) (one_ints cs)
 rw [List.length_map, hr] at hrun
 rw [World.size_alloc] at hrun
 exact registersOf_core _ n cap _ r0 r1 r2 r3 w hrun
theorem registersOf_none (a0 : Option Addr) (cap : Nat) (w : World) :
  Calls Tryz.prog 96 #[.slice a0 0 cap] w fun e w' => e = .returned (.tuple #[regV 0 0 0 0, .bool ((0 : Int) == 4)]) ∧ Below w.heap.size w w' :=
 registersOf_core a0 0 cap 0 0 0 0 0 w (run_copy_none _ _ _ _ 3 _ _ _ _ _ _ Tryz.underlying35 sizeInt rfl)
theorem Sl.sub {w : World} {b off : Nat} {xs ys : List Int} (h : Sl w (some ⟨b, off, none⟩) xs) (hp : ∃ t, xs = ys ++ t) : Sl w (some ⟨b, off, none⟩) ys := by
 obtain ⟨t, rfl⟩ := hp
 by_cases h0 : ys = []
 ·exact .inl h0
 ·rcases h with h | ⟨b', off', e, hlt, hc⟩
  ·simp at h; exact .inl h.1
  ·refine .inr ⟨b', off', e, hlt, fun i hi => ?_⟩
   have := hc i (by simp; omega)
   unfold zi at this ⊢
   rwa [List.getD_eq_getElem?_getD, List.getElem?_append_left hi, ← List.getD_eq_getElem?_getD] at this
theorem registersOf_any (a0 : Option Addr) (cap : Nat) (xs : List Int) (w : World) (h : Sl w a0 xs) :
  Calls Tryz.prog 96 #[.slice a0 xs.length cap] w fun e w' => (∃ r0 r1 r2 r3, e = .returned (.tuple #[regV r0 r1 r2 r3, .bool ((xs.length : Int) == 4)]) ∧ (xs.length = 4 → xs = [r0, r1, r2, r3])) ∧ Below w.heap.size w w' := by
 match xs, h with
 | [], _ => exact (registersOf_none a0 cap w).mono fun e w' ⟨he, hb⟩ => ⟨⟨0, 0, 0, 0, he, fun h => by cases h⟩, hb⟩
 | [a], h =>
  obtain ⟨b, off, rfl, _⟩ := h.at (k := 0) (by simp)
  exact (registersOf_some b off 1 cap [a] a 0 0 0 w rfl h rfl).mono fun e w' ⟨he, hb⟩ => ⟨⟨_, _, _, _, he, fun h => by cases h⟩, hb⟩
 | [a, c], h =>
  obtain ⟨b, off, rfl, _⟩ := h.at (k := 0) (by simp)
  exact (registersOf_some b off 2 cap [a, c] a c 0 0 w rfl h rfl).mono fun e w' ⟨he, hb⟩ => ⟨⟨_, _, _, _, he, fun h => by cases h⟩, hb⟩
 | [a, c, d], h =>
  obtain ⟨b, off, rfl, _⟩ := h.at (k := 0) (by simp)
  exact (registersOf_some b off 3 cap [a, c, d] a c d 0 w rfl h rfl).mono fun e w' ⟨he, hb⟩ => ⟨⟨_, _, _, _, he, fun h => by cases h⟩, hb⟩
 | [a, c, d, f], h =>
  obtain ⟨b, off, rfl, _⟩ := h.at (k := 0) (by simp)
  exact (registersOf_some b off 4 cap [a, c, d, f] a c d f w rfl h rfl).mono fun e w' ⟨he, hb⟩ => ⟨⟨_, _, _, _, he, fun _ => rfl⟩, hb⟩
 | a :: c :: d :: f :: g :: t, h =>
  obtain ⟨b, off, rfl, _⟩ := h.at (k := 0) (by simp)
  exact (registersOf_some b off (a :: c :: d :: f :: g :: t).length cap [a, c, d, f] a c d f w (by simp) (h.sub ⟨g :: t, rfl⟩) rfl).mono fun e w' ⟨he, hb⟩ => ⟨⟨_, _, _, _, he, fun h => by simp at h⟩, hb⟩
def marks (k : Int) (n : Nat) : List Int := (List.range n).map (fun i : Nat => k + (i : Int))
theorem own_some {w : World} {B n cap : Nat} {a0 : Option Addr} {ys : List Int} (h : OwnI w B (.slice a0 n cap) ys) (hn : 0 < ys.length) : ∃ g, a0 = some ⟨g, 0, none⟩ ∧ n = ys.length ∧ B ≤ g ∧ g < w.heap.size := by
 obtain ⟨g, c, hv, hb, hl⟩ := h.block hn
 simp only [Value.slice.injEq] at hv
 exact ⟨g, hv.1, hv.2.1, hb, hl⟩
theorem own_apart {w w' : World} {B : Nat} {v u : Value} {xs : List Int} (h : OwnI w B v xs) (hg : w.grownBy w' u.ownBlock) (ha : ∀ k, u.ownBlock = some k → v.ownBlock ≠ some k) : OwnI w' B v xs := by
 refine h.kept hg ?_
 cases hu : u.ownBlock with
 | none =>
  cases hv : v.ownBlock with
  | none => exact .inl rfl
  | some k => exact .inr (by simp)
 | some k => exact .inr (ha k hu)
theorem gcell {W w1 : World} {row : Option Nat} (hg : W.grownBy w1 row) {b : Nat} (hb : b < W.heap.size) (hne : some b ≠ row) : (∀ o, w1.cell? ⟨b, o, none⟩ = W.cell? ⟨b, o, none⟩) ∧ (∀ o, w1.frozen? ⟨b, o, none⟩ = W.frozen? ⟨b, o, none⟩) :=
 ⟨fun _ => World.cell?_of_block (hg.block b hb hne), fun _ => World.frozen?_of_block (hg.block b hb hne)⟩
def hasBlock (v : Value) (k : Nat) : Prop := ∃ p vr vo code, v = .agg #[p, vr, vo, code] ∧ (vr.ownBlock = some k ∨ vo.ownBlock = some k)
theorem hasBlock_iff (p vr vo code : Value) (k : Nat) : hasBlock (.agg #[p, vr, vo, code]) k ↔ vr.ownBlock = some k ∨ vo.ownBlock = some k := by
 constructor
 ·rintro ⟨p', vr', vo', code', e, h⟩
  simp only [Value.agg.injEq, Array.mk.injEq, List.cons.injEq, and_true] at e
  obtain ⟨_, rfl, rfl, _⟩ := e
  exact h
 ·exact fun h => ⟨p, vr, vo, code, rfl, h⟩
theorem StOwn.lt {w : World} {B : Nat} {v : Value} {p code : Int} {rs os : List Int} (h : StOwn w B v p rs os code) {k : Nat} (hk : hasBlock v k) : B ≤ k ∧ k < w.heap.size := by
 obtain ⟨vr, vo, rfl, h1, h2, _⟩ := h
 rcases (hasBlock_iff _ _ _ _ _).1 hk with h | h
 ·exact h1.lt k h
 ·exact h2.lt k h
structure Marked (v : Value) (w w' : World) : Prop where
 os : w'.os = w.os
 tape : w'.tape = w.tape
 output : w'.output = w.output
 size : w.heap.size ≤ w'.heap.size
 block : ∀ k, k < w.heap.size → ¬ hasBlock v k → w'.heap[k]? = w.heap[k]?
theorem Marked.below {v : Value} {w w' : World} {B : Nat} (h : Marked v w w') (hB : B ≤ w.heap.size) (hv : ∀ k, hasBlock v k → B ≤ k) : Below B w w' :=
 ⟨h.os, h.tape, h.output, h.size, fun k hk => h.block k (by omega) (fun hh => by have := hv k hh; omega)⟩
theorem Marked.cell {v : Value} {w w' : World} (h : Marked v w w') {b : Nat} (hb : b < w.heap.size) (hv : ¬ hasBlock v b) (j : Nat) : w'.cell? ⟨b, j, none⟩ = w.cell? ⟨b, j, none⟩ := World.cell?_of_block (h.block b hb hv)
theorem Marked.frozen {v : Value} {w w' : World} (h : Marked v w w') {b : Nat} (hb : b < w.heap.size) (hv : ¬ hasBlock v b) (j : Nat) : w'.frozen? ⟨b, j, none⟩ = w.frozen? ⟨b, j, none⟩ := World.frozen?_of_block (h.block b hb hv)
def BoxC (w : World) (N : Nat) (p vr vo code : Value) : Prop := w.cell? ⟨N, 0, none⟩ = some p ∧ w.cell? ⟨N, 1, none⟩ = some vr ∧ w.cell? ⟨N, 2, none⟩ = some vo ∧ w.cell? ⟨N, 3, none⟩ = some code
theorem BoxC.below {w w' : World} {N : Nat} {p vr vo code : Value} (h : BoxC w N p vr vo code) (hb : Below w.heap.size w w') : BoxC w' N p vr vo code := by
 obtain ⟨h0, h1, h2, h3⟩ := h
 have hN : N < w.heap.size := World.block_lt_of_cell? w _ h0
 exact ⟨(hb.cell (p := ⟨N, 0, none⟩) hN).trans h0, (hb.cell (p := ⟨N, 1, none⟩) hN).trans h1, (hb.cell (p := ⟨N, 2, none⟩) hN).trans h2, (hb.cell (p := ⟨N, 3, none⟩) hN).trans h3⟩
theorem BoxC.new (w : World) (p vr vo code : Value) (t : TypeId) : BoxC (w.alloc (.cells #[p, vr, vo, code] t)) w.heap.size p vr vo code := by
 unfold BoxC
 simp
theorem BoxC.marked {v : Value} {w w' : World} {N : Nat} {p vr vo code : Value} (h : BoxC w N p vr vo code) (hm : Marked v w w') (hv : ¬ hasBlock v N) : BoxC w' N p vr vo code := by
 obtain ⟨h0, h1, h2, h3⟩ := h
 have hN : N < w.heap.size := World.block_lt_of_cell? w _ h0
 exact ⟨(hm.cell hN hv _).trans h0, (hm.cell hN hv _).trans h1, (hm.cell hN hv _).trans h2, (hm.cell hN hv _).trans h3⟩
open Go.ChangeShapes Go.WideShapes
theorem Tryz.et : Tryz.prog.globalNamed "errors.errorType" = some 0 := by kernel_rfl
theorem Tryz.rt : (Tryz.prog.cutTypes.find? (·.1 == "internal/reflectlite.rtype")).map (·.2) = some 144 := by kernel_rfl
theorem Tryz.oneRow : ((List.range 206).filter fun t => Tryz.prog.rowNamed t [101, 114, 114, 111, 114]) = [94] := by kernel_rfl
theorem Tryz.tsize : Tryz.prog.types.size = 206 := by kernel_rfl
theorem handle_of_laid {W : World} (h : laidMetH Tryz.prog [("errors.errorType", Rows.laid_errors_errorType)] W) : W.cell? ⟨0, 0, none⟩ = some (.iface 144 (.agg #[.pointer (some ⟨1, 94, none⟩)])) := by
 have h' : laidMet Tryz.prog [] W ∧ handlesMet Tryz.prog [("errors.errorType", Rows.laid_errors_errorType)] W := h
 obtain ⟨name, u, ty, e1, e2, e3, e4, e5⟩ := h'.2 _ (List.mem_singleton.2 rfl)
 have en : name = [101, 114, 114, 111, 114] := (Option.some.inj e1).symm
 subst en
 obtain rfl := Option.some.inj (Tryz.rt.symm.trans e2)
 have hm : ty ∈ (List.range 206).filter fun t => Tryz.prog.rowNamed t [101, 114, 114, 111, 114] := List.mem_filter.2 ⟨List.mem_range.2 (by rw [← Tryz.tsize]; exact e3), e4⟩
 rw [Tryz.oneRow] at hm
 obtain rfl := List.mem_singleton.1 hm
 have hh : typeHandle Tryz.prog 94 = .pointer (some ⟨1, 94, none⟩) := by kernel_rfl
 rw [hh] at e5
 simpa using World.var?_cell Tryz.et e5 0
noncomputable def laidWorld (os : Os) : World :=
 let w0 := World.holding Tryz.prog os ⟨#[], #[], []⟩
 { w0 with heap := w0.heap.modify 0 fun
   | .cells _ t frozen => .cells #[.iface 144 (.agg #[.pointer (some ⟨1, 94, none⟩)])] t frozen
   | o => o }
theorem laidWorld_met (os : Os) (args : Array Value) : laidMetH Tryz.prog [("errors.errorType", Rows.laid_errors_errorType)] ((laidWorld os).forCall (fun _ _ => 0) ⟨#[], args, []⟩).memory :=
 laidMetH_of_parts (laidMet_nil _ _) (by kernel_rfl)
end Go.Proofs.YtdmpcnmbnfdfmaaGreatDoor
