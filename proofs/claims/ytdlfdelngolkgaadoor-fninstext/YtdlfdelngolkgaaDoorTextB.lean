/- The walks of l1Digits at any number in range, and of lineOf: the op's word, then each number behind a blank. -/
import Derived.Test.YtdlfdelngolkgaaDoorTextA
import Derived.Test.YtdlfdelngolkgaaDoorShelf
import Derived.Lib.AppendIntMem
import Derived.WalkSmall
namespace Go.Proofs.YtdlfdelngolkgaaDoor
open Go.RowKit

set_option maxHeartbeats 1000000 in
theorem l1Digits_big (n : Int) (w : World) (h1 : -99999999999 ≤ n) (h2 : n ≤ 99999999999) :
    Calls Tryd.prog 22 #[.int .i64 n] w fun e w' => e = .returned (.string (numT n)) ∧ Below w.heap.size w w' := by
  by_cases hn : n < 0
  · obtain ⟨m, hm⟩ : ∃ m : Nat, n = -(m : Int) := ⟨n.natAbs, by omega⟩
    have hm1 : 1 ≤ m := by omega
    have hmi : (m : Int) ≤ 99999999999 := by omega
    have hlen := Lib.itoa_length_le (m : Int) (by omega) (by omega)
    have hsz : (numT (m : Int)).size ≤ 21 := by simpa [numT, ByteArray.size] using hlen
    have HF : Hid (numT n = ⟨#[45]⟩ ++ numT (m : Int)) := by
      rw [Hid, hm, numT, Lib.itoa_neg m hm1, numT_nat, cat1]
    have hne : 0 - n = (m : Int) := by omega
    clear hm hlen
    go_enter Tryd.func22, Tryd.ntmps22
    go_wp2_with fail
    refine (l1Digits_nat m _ (by omega)).mono ?_
    rintro e w1 ⟨rfl, hb1⟩
    go_wp2
    go_ret
    exact ⟨ret_string HF.out.symm, hb1⟩
  · obtain ⟨m, rfl⟩ := Int.eq_ofNat_of_zero_le (show 0 ≤ n by omega)
    exact l1Digits_nat m w (by omega)
theorem l1Digits_any (n : Int) (w : World) (h1 : -1000000000 ≤ n) (h2 : n ≤ 1000000000) :
    Calls Tryd.prog 22 #[.int .i64 n] w fun e w' => e = .returned (.string (numT n)) ∧ Below w.heap.size w w' :=
  l1Digits_big n w (by omega) (by omega)

/-- The ops' words. -/
def wordT (i : Nat) : ByteArray := ([⟨#[]⟩, ⟨#[115, 101, 116]⟩, ⟨#[97, 100, 100]⟩, ⟨#[115, 117, 98]⟩, ⟨#[109, 117, 108]⟩, ⟨#[108, 101, 115, 115]⟩, ⟨#[115, 101, 110, 100]⟩, ⟨#[116, 97, 107, 101]⟩, ⟨#[112, 114, 105, 110, 116]⟩, ⟨#[106, 117, 109, 112]⟩, ⟨#[122, 101, 114, 111]⟩, ⟨#[101, 110, 100]⟩] : List ByteArray).getD i ⟨#[]⟩

/-- The package's tables lie as its text lays them. -/
structure Env (w : World) : Prop where
  words : ∀ i, i < 12 → w.cell? ⟨0, i, none⟩ = some (.string (wordT i))
  tab : Lib.TabIs Tryd.prog w "internal/strconv.uint64pow10" .u64 Lib.pow10Tab
  sz : 9 ≤ w.heap.size

theorem gPow : Tryd.prog.globalNamed "internal/strconv.uint64pow10" = some 6 := by kernel_rfl

theorem Env.below {w w' : World} {B : Nat} (h : Env w) (hb : Below B w w') (hB : 9 ≤ B) : Env w' :=
  ⟨fun i hi => (hb.cell (p := ⟨0, i, none⟩) (by simp; omega)).trans (h.words i hi), var?_below hb gPow (by omega) h.tab, Nat.le_trans h.sz hb.size⟩
theorem Env.self {w w' : World} (h : Env w) (hb : Below w.heap.size w w') : Env w' := h.below hb h.sz

/-- A line: the word, then so many numbers, each behind a blank. -/
def lineTo (op : Nat) (z : Nat → Int) : Nat → ByteArray
  | 0 => wordT op
  | k + 1 => lineTo op z k ++ (⟨#[32]⟩ ++ numT (z k))

theorem numT_size (n : Int) (h1 : -1000000000 ≤ n) (h2 : n ≤ 1000000000) : (numT n).size ≤ 21 := by
  have hlen := Lib.itoa_length_le n (by omega) (by omega)
  simpa [numT, ByteArray.size] using hlen
theorem wordT_size (i : Nat) (h : i < 12) : (wordT i).size ≤ 5 := by
  match i, h with
  | 0, _ => decide
  | 1, _ => decide
  | 2, _ => decide
  | 3, _ => decide
  | 4, _ => decide
  | 5, _ => decide
  | 6, _ => decide
  | 7, _ => decide
  | 8, _ => decide
  | 9, _ => decide
  | 10, _ => decide
  | 11, _ => decide
theorem lineTo_size (op : Nat) (z : Nat → Int) (k : Nat) (ho : op < 12) (h : ∀ j, j < k → -1000000000 ≤ z j ∧ z j ≤ 1000000000) : (lineTo op z k).size ≤ 5 + 22 * k := by
  induction k with
  | zero => simpa [lineTo] using wordT_size op ho
  | succ k ih =>
    have h1 := ih (fun j hj => h j (by omega))
    have h2 := numT_size (z k) (h k (by omega)).1 (h k (by omega)).2
    have e : (⟨#[32]⟩ : ByteArray).size = 1 := rfl
    rw [lineTo, ByteArray.size_append, ByteArray.size_append, e]
    omega

def NumsAt (w : World) (a0 : Option Addr) (m : Nat) (z : Nat → Int) : Prop := m = 0 ∨ ∃ b, a0 = some ⟨b, 0, none⟩ ∧ b < w.heap.size ∧ ∀ j, j < m → w.cell? ⟨b, j, none⟩ = some (.int .i64 (z j))

set_option maxRecDepth 100000 in
set_option maxHeartbeats 1000000 in
theorem lineOf_any (op m mc : Nat) (a0 : Option Addr) (z : Nat → Int) (w : World) (hE : Env w) (ho : op < 12) (hm : m ≤ 10) (hz : NumsAt w a0 m z) (hr : ∀ j, j < m → -1000000000 ≤ z j ∧ z j ≤ 1000000000) :
    Calls Tryd.prog 33 #[.int .i64 op, .slice a0 m mc] w fun e w' => e = .returned (.string (lineTo op z m)) ∧ Below w.heap.size w w' := by
  have HE : Hid (Env w) := hE
  have cw := hE.words op ho
  have ho' : (op : Int) < 12 := by omega
  have hm' : (m : Int) ≤ 10 := by omega
  have HZ : Hid (NumsAt w a0 m z) := hz
  have HR : Hid (∀ j, j < m → -1000000000 ≤ z j ∧ z j ≤ 1000000000) := hr
  clear hE hz hr
  go_enter Tryd.func33, Tryd.ntmps33
  go_wp2_with fail
  go_loopw [5, 13] (fun l i wr => ∃ k : Nat, k ≤ m ∧ i = .int .i64 k ∧ l = .string (lineTo op z k) ∧ Below w.heap.size w wr) (fun _ i _ => m - (intOf i).toNat)
  case atStart => exact ⟨0, Nat.zero_le _, rfl, rfl, Below.refl _ _⟩
  case round =>
    obtain ⟨k, hk, rfl, rfl, hbw⟩ := hrel
    by_cases hlt : k < m
    · rcases HZ.out with h0 | ⟨b, rfl, hb, hc⟩
      · omega
      have ck : wr.cell? ⟨b, k, none⟩ = some (.int .i64 (z k)) := (hbw.cell hb).trans (hc k hlt)
      have hzk := HR.out k hlt
      obtain ⟨z1, z2⟩ := hzk
      have s1 := numT_size (z k) z1 z2
      have s2 := lineTo_size op z k ho (fun j hj => HR.out j (by omega))
      have s2' : (lineTo op z k).size ≤ 300 := by omega
      have HW : Hid (Env wr) := HE.out.self hbw
      have hs := hbw.size
      clear hc
      go_wp2_with fail
      refine (Tryd.strconv_Itoa (z k) (by omega) (by omega) _ HW.out.tab).mono ?_
      rintro e w1 ⟨rfl, kk, os, hw1⟩
      have hb1 : Below wr.heap.size wr w1 := by rw [hw1]; exact Lib.below_grow _ wr (Nat.le_refl _) kk os
      clear hw1 HW s2
      rw [show (⟨(Lib.itoa (z k)).toArray⟩ : ByteArray) = numT (z k) from rfl]
      go_wp2
      go_roundw
      case rel => exact ⟨k + 1, by omega, by go_num, rfl, hbw.trans (hb1.mono hs)⟩
      case measure => simp [intOf]; omega
    · have hkm : k = m := by omega
      have HF : Hid (lineTo op z k = lineTo op z m) := by rw [Hid, hkm]
      clear hkm
      go_wp2
      go_ret
      exact ⟨ret_string HF.out, hbw⟩

end Go.Proofs.YtdlfdelngolkgaaDoor
