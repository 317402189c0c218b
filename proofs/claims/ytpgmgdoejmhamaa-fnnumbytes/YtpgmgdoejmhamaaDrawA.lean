/- The walks of the draw's cursor: l1Byte, l1Below, l1Once: a number in its range, and nothing else is written than the cursor. -/
import Derived.Test.YtpgmgdoejmhamaaRows
import Derived.WalkKit
import Derived.WalkSpells
import Derived.WalkLawsBesides
import Derived.Handy
import Derived.Deep.QuietTactic
import Derived.BigQuiet
import Derived.Maps.AppendAt
namespace Go.Proofs.Ytpgmgdoejmhamaa
open Go.RowKit

theorem i64_and255 (n : Int) : bits .and .i64 n 255 = n % 256 := by
  have h255 : (BitVec.ofInt 64 255).toNat = 2 ^ 8 - 1 := by decide
  have key : (BitVec.ofInt 64 n &&& BitVec.ofInt 64 255).toNat = (n % ((2 ^ 64 : Nat) : Int)).toNat % 2 ^ 8 := by
    rw [BitVec.toNat_and, BitVec.toNat_ofInt, h255, Nat.and_two_pow_sub_one_eq_mod]
  show IntKind.i64.wrap ((BitVec.ofInt 64 n &&& BitVec.ofInt 64 255).toNat : Nat) = n % 256
  rw [key, IntKind.wrap_i64]
  omega

/-- The bytes of a draw, in memory that was there before. -/
def BytesAt (w : World) (W0 : Nat) (a0 : Option Addr) (len : Nat) : Prop :=
  len = 0 ∨ ∃ b off, a0 = some ⟨b, off, none⟩ ∧ b < W0 ∧ ∀ j, j < len → ∃ z : Int, w.cell? ⟨b, off + j, none⟩ = some (.int .u8 z) ∧ 0 ≤ z ∧ z ≤ 255

/-- Block c is a cursor over these bytes. -/
structure Cur (w : World) (W0 c : Nat) (a0 : Option Addr) (len cap : Nat) : Prop where
  ex : ∃ (i : Nat) (h : Int), w.cell? ⟨c, 0, none⟩ = some (.slice a0 len cap) ∧ w.cell? ⟨c, 1, none⟩ = some (.int .i64 i) ∧ w.cell? ⟨c, 2, none⟩ = some (.int .i64 h)
  fr : ∀ o, w.frozen? ⟨c, o, none⟩ = false
  lt : c < w.heap.size
  ge : W0 ≤ c
  by' : BytesAt w W0 a0 len
  ln : len ≤ 1048576

theorem BytesAt.kept {w w' : World} {W0 len : Nat} {a0 : Option Addr} (h : BytesAt w W0 a0 len) (hb : ∀ k, k < W0 → w'.heap[k]? = w.heap[k]?) : BytesAt w' W0 a0 len := by
  rcases h with h | ⟨b, off, e, hlt, hz⟩
  · exact .inl h
  · refine .inr ⟨b, off, e, hlt, fun j hj => ?_⟩
    obtain ⟨z, hz1, hz2⟩ := hz j hj
    exact ⟨z, (World.cell?_of_block (hb b hlt)).trans hz1, hz2⟩

/-- A cursor stands as it was where neither it nor the old memory was written. -/
theorem Cur.kept {w w' : World} {W0 c len cap : Nat} {a0 : Option Addr} {row : Option Nat} (h : Cur w W0 c a0 len cap) (hg : w.grownBy w' row) (hne : some c ≠ row) (hr : ∀ k, row = some k → W0 ≤ k) : Cur w' W0 c a0 len cap := by
  have hc := hg.block c h.lt hne
  obtain ⟨i, hh, h0, h1, h2⟩ := h.ex
  refine ⟨⟨i, hh, (World.cell?_of_block hc).trans h0, (World.cell?_of_block hc).trans h1, (World.cell?_of_block hc).trans h2⟩, fun o => (World.frozen?_of_block hc).trans (h.fr o), Nat.lt_of_lt_of_le h.lt hg.size, h.ge, ?_, h.ln⟩
  exact h.by'.kept fun k hk => hg.block k (Nat.lt_trans (Nat.lt_of_lt_of_le hk h.ge) h.lt) (fun e => by have := hr k e.symm; omega)

theorem Cur.alloc {w : World} {W0 c len cap : Nat} {a0 : Option Addr} (h : Cur w W0 c a0 len cap) (o : Obj) : Cur (w.alloc o) W0 c a0 len cap :=
  h.kept (World.grownBy_alloc w o none) (by simp) (fun k hk => by cases hk)

theorem grown_drewN {w w' : World} {row : Option Nat} (h : w.grownBy w' row) (n : Nat) : w.grownBy (w'.drewN n) row := ⟨h.os, h.tape, h.output, h.size, h.block⟩
theorem grown_setCell {w w' : World} {row : Option Nat} (h : w.grownBy w' row) {p : Addr} (hp : row = some p.block ∨ w.heap.size ≤ p.block) (v : Value) : w.grownBy (w'.setCell p v) row :=
  ⟨h.os, h.tape, h.output, by simpa using h.size, fun k hk hne => by
    rw [Below.heap_setCell w' p v k (fun e => by
      subst e
      rcases hp with hp | hp
      · exact hne hp.symm
      · omega)]
    exact h.block k hk hne⟩

theorem Cur.drewN {w : World} {W0 c len cap : Nat} {a0 : Option Addr} (h : Cur w W0 c a0 len cap) (n : Nat) : Cur (w.drewN n) W0 c a0 len cap := ⟨h.ex, h.fr, h.lt, h.ge, h.by', h.ln⟩
theorem Cur.drew {w : World} {W0 c len cap : Nat} {a0 : Option Addr} (h : Cur w W0 c a0 len cap) : Cur w.drew W0 c a0 len cap := ⟨h.ex, h.fr, h.lt, h.ge, h.by', h.ln⟩
theorem Cur.bytesSet {w : World} {W0 c len cap : Nat} {a0 : Option Addr} (h : Cur w W0 c a0 len cap) (o : Nat) (v : Value) : BytesAt (w.setCell ⟨c, o, none⟩ v) W0 a0 len :=
  h.by'.kept fun k hk => Below.heap_setCell w ⟨c, o, none⟩ v k (fun e => by have := h.ge; simp at e; omega)
theorem Cur.set2 {w : World} {W0 c len cap : Nat} {a0 : Option Addr} (h : Cur w W0 c a0 len cap) (x : Int) : Cur (w.setCell ⟨c, 2, none⟩ (.int .i64 x)) W0 c a0 len cap := by
  obtain ⟨i, y, h0, h1, h2⟩ := h.ex
  exact ⟨⟨i, x, by go_cell, by go_cell, by go_cell⟩, fun o => by simpa using h.fr o, by simpa using h.lt, h.ge, h.bytesSet _ _, h.ln⟩
theorem Cur.set1 {w : World} {W0 c len cap : Nat} {a0 : Option Addr} (h : Cur w W0 c a0 len cap) (x : Int) (hx : 0 ≤ x) : Cur (w.setCell ⟨c, 1, none⟩ (.int .i64 x)) W0 c a0 len cap := by
  obtain ⟨i, y, h0, h1, h2⟩ := h.ex
  obtain ⟨k, rfl⟩ := Int.eq_ofNat_of_zero_le hx
  exact ⟨⟨k, y, by go_cell, by go_cell, by go_cell⟩, fun o => by simpa using h.fr o, by simpa using h.lt, h.ge, h.bytesSet _ _, h.ln⟩

set_option maxRecDepth 100000 in
set_option maxHeartbeats 1000000 in
theorem l1Byte_any (W0 c len cap : Nat) (a0 : Option Addr) (w : World) (hc : Cur w W0 c a0 len cap) :
    Calls Try.prog 26 #[.pointer (some ⟨c, 0, none⟩)] w fun e w' => ∃ x : Int, e = .returned (.int .i64 x) ∧ (0 ≤ x ∧ x ≤ 255) ∧ Cur w' W0 c a0 len cap ∧ w.grownBy w' (some c) := by
  have HCur : Hid (Cur w W0 c a0 len cap) := hc
  obtain ⟨⟨i, h, c0, c1, c2⟩, fr, lt, ge, hby, ln⟩ := hc
  have f1 := fr 1
  have f2 := fr 2
  have ln' : (len : Int) ≤ 1048576 := by omega
  have HB : Hid (BytesAt w W0 a0 len) := hby
  clear hby fr
  have hand := i64_and255
  by_cases hil : i < len
  · have hil' : (i : Int) < (len : Int) := by omega
    rcases HB.out with hb | ⟨b, off, rfl, hbW, hz⟩
    · omega
    obtain ⟨z, cz, z0, z1⟩ := hz i hil
    have hbc : b ≠ c := by omega
    clear hz
    go_enter Try.func26, Try.ntmps26
    go_wp2
    generalize wrap64 (wrap64 (h * 6364136223846793005) + 1442695040888963407) = h2
    go_quiet (fail)
    go_wp2
    go_quiet (fail)
    go_wp2
    go_quiet (fail)
    go_wp2
    go_ret
    refine ⟨_, rfl, by omega, ?_, ?_⟩
    · exact ((HCur.out.set2 h2).drewN _).set1 ((i : Int) + 1) (by omega)
    · exact grown_setCell (p := ⟨c, 1, none⟩) (grown_drewN (grown_setCell (p := ⟨c, 2, none⟩) (World.grownBy.refl w (some c)) (.inl rfl) _) _) (.inl rfl) _
  · have hil' : ¬ ((i : Int) < (len : Int)) := by omega
    go_enter Try.func26, Try.ntmps26
    go_wp2
    generalize wrap64 (wrap64 (h * 6364136223846793005) + 1442695040888963407) = h2
    go_quiet (fail)
    go_wp2
    go_quiet (fail)
    go_wp2
    go_ret
    refine ⟨_, rfl, by omega, ?_, ?_⟩
    · exact ((HCur.out.set2 h2).drewN _).drewN _
    · exact grown_drewN (grown_drewN (grown_setCell (World.grownBy.refl _ _) (.inl rfl) _) _) _

set_option maxHeartbeats 400000 in
theorem l1Below_any (W0 c len cap : Nat) (a0 : Option Addr) (n : Int) (w : World) (hc : Cur w W0 c a0 len cap) (n1 : 1 ≤ n) (n2 : n ≤ 256) :
    Calls Try.prog 20 #[.pointer (some ⟨c, 0, none⟩), .int .i64 n] w fun e w' => ∃ x : Int, e = .returned (.int .i64 x) ∧ (0 ≤ x ∧ x < n) ∧ Cur w' W0 c a0 len cap ∧ w.grownBy w' (some c) := by
  have n3 : ¬ n ≤ 0 := by omega
  have n4 : (n == 0) = false := by simp; omega
  have HCur : Hid (Cur w W0 c a0 len cap) := hc
  clear hc
  go_enter Try.func20, Try.ntmps20
  go_wp2_with fail
  refine (l1Byte_any W0 c len cap a0 _ HCur.out).mono ?_
  rintro e w1 ⟨x, rfl, ⟨x0, x1⟩, hc1, hg1⟩
  have HC1 : Hid (Cur w1 W0 c a0 len cap) := hc1
  have HG1 : Hid (w.grownBy w1 (some c)) := hg1
  clear hc1 hg1
  go_wp2
  go_ret
  exact ⟨_, rfl, ⟨Int.emod_nonneg _ (by omega), Int.emod_lt_of_pos _ (by omega)⟩, HC1.out, HG1.out⟩

/-- A row of ints of the draw's own. -/
def IntsAt (w : World) (b len : Nat) (z : Nat → Int) : Prop := ∀ j, j < len → w.cell? ⟨b, j, none⟩ = some (.int .i64 (z j))

set_option maxHeartbeats 400000 in
theorem l1PickInt_of (W0 c len cap b m mc : Nat) (a0 : Option Addr) (z : Nat → Int) (w : World) (hc : Cur w W0 c a0 len cap) (n1 : 1 ≤ m) (n2 : m ≤ 256) (hb : b < w.heap.size) (hne : b ≠ c) (hz : IntsAt w b m z) :
    Calls Try.prog 19 #[.pointer (some ⟨c, 0, none⟩), .slice (some ⟨b, 0, none⟩) m mc] w fun e w' => ∃ k : Nat, k < m ∧ e = .returned (.int .i64 (z k)) ∧ Cur w' W0 c a0 len cap ∧ w.grownBy w' (some c) := by
  have HCur : Hid (Cur w W0 c a0 len cap) := hc
  have HZ : Hid (IntsAt w b m z) := hz
  clear hc hz
  go_enter Try.func19, Try.ntmps19
  go_wp2_with fail
  refine (l1Below_any W0 c len cap a0 _ _ HCur.out (by omega) (by omega)).mono ?_
  rintro e w1 ⟨x, rfl, ⟨x0, x1⟩, hc1, hg1⟩
  obtain ⟨k, rfl⟩ := Int.eq_ofNat_of_zero_le x0
  have cz : w1.cell? ⟨b, k, none⟩ = some (.int .i64 (z k)) := (World.cell?_of_block (hg1.block b hb (by simp [hne]))).trans (HZ.out k (by omega))
  have HC1 : Hid (Cur w1 W0 c a0 len cap) := hc1
  have HG1 : Hid (w.grownBy w1 (some c)) := hg1
  clear hc1 hg1
  go_wp2
  go_ret
  exact ⟨k, by omega, rfl, HC1.out, HG1.out⟩
theorem l1PickInt_any (W0 c len cap b m mc : Nat) (a0 : Option Addr) (z : Nat → Int) (w : World) (hc : Cur w W0 c a0 len cap) (n1 : 1 ≤ m) (n2 : m ≤ 256) (hb : b < w.heap.size) (hne : b ≠ c) (hz : IntsAt w b m z) :
    Calls Try.prog 19 #[.pointer (some ⟨c, 0, none⟩), .slice (some ⟨b, 0, none⟩) m mc] w fun e w' => ∃ x : Int, e = .returned (.int .i64 x) ∧ Cur w' W0 c a0 len cap ∧ w.grownBy w' (some c) := by
  refine (l1PickInt_of W0 c len cap b m mc a0 z w hc n1 n2 hb hne hz).mono ?_
  rintro e w' ⟨k, -, he, h⟩
  exact ⟨_, he, h⟩

end Go.Proofs.Ytpgmgdoejmhamaa
