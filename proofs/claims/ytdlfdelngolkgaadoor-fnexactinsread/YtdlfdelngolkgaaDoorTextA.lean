/- The digits of a number, by the model's l1Digits and by the library's Itoa. -/
import Derived.Test.YtdlfdelngolkgaaDoorInsA
import Derived.Lib.ItoaMem
import Derived.Lib.ItoaLen
import Derived.Laws.IdiomStrings
namespace Go.Proofs.YtdlfdelngolkgaaDoor
open Go.RowKit

/-- A number's text. -/
def numT (n : Int) : ByteArray := ⟨(Lib.itoa n).toArray⟩

theorem dd_big {u : Nat} (h : ¬ u < 10) : Lib.decDigits u = Lib.decDigits (u / 10) ++ [UInt8.ofNat (48 + u % 10)] := by rw [Lib.decDigits, dif_neg h]

theorem numT_nat (m : Nat) : numT m = ⟨(Lib.decDigits m).toArray⟩ := by rw [numT, Lib.itoa_nonneg]
theorem numT_zero : numT ((0 : Nat) : Int) = ⟨#[48]⟩ := by
  rw [numT_nat, Lib.decDigits_one (by omega)]
  rfl
theorem ret_string {x y : ByteArray} (h : x = y) : Ending.returned (.string x) = .returned (.string y) := by rw [h]

theorem cat1 (x : UInt8) (l : List UInt8) : (⟨#[x]⟩ ++ ⟨l.toArray⟩ : ByteArray) = ⟨(x :: l).toArray⟩ := by
  apply ByteArray.ext
  simp
theorem byte_sum (k : Nat) : UInt8.ofNat (48 + k % 10) = 48 + UInt8.ofNat (k % 10) := by simp

/-- What is left to be written of the digits of m. -/
def LeftOf (m k : Nat) (out : List UInt8) : Prop := (0 < k → Lib.decDigits m = Lib.decDigits k ++ out) ∧ (k = 0 → Lib.decDigits m = out)
theorem LeftOf.step {m k : Nat} {out : List UInt8} (h : LeftOf m k out) (hk : 0 < k) : LeftOf m (k / 10) (UInt8.ofNat (48 + k % 10) :: out) := by
  have h1 := h.1 hk
  refine ⟨fun hp => ?_, fun h0 => ?_⟩
  · rw [h1, dd_big (by omega)]
    simp
  · have hk10 : k < 10 := by omega
    rw [h1, Lib.decDigits_one hk10, show k % 10 = k from Nat.mod_eq_of_lt hk10]
    simp

theorem run_byteText (k : Nat) (w : World) : (convert 22 9 (.slice (some ⟨w.heap.size, 0, none⟩) 1 1)).run Tryd.prog (w.alloc (.cells #[.int .u8 (48 + (k : Int) % 10)] 5)) = .ok (.string ⟨#[UInt8.ofNat (48 + k % 10)]⟩) (w.alloc (.cells #[.int .u8 (48 + (k : Int) % 10)] 5)) := by
  refine run_convert_bytes_back (P := Tryd.prog) _ 22 9 5 ⟨w.heap.size, 0, none⟩ 1 [UInt8.ofNat (48 + k % 10)] Tryd.underlying22 Tryd.underlying5 Tryd.underlying9 (fun j hj => ?_)
  have hj0 : j = 0 := by simpa using hj
  subst hj0
  have e : ((UInt8.ofNat (48 + k % 10)).toNat : Int) = 48 + (k : Int) % 10 := by simp; omega
  rw [List.getElem_cons_zero, e]
  simp [Addr.add]

set_option maxRecDepth 100000 in
set_option maxHeartbeats 1000000 in
theorem l1Digits_nat (m : Nat) (w : World) (hm : m ≤ 99999999999) :
    Calls Tryd.prog 22 #[.int .i64 m] w fun e w' => e = .returned (.string (numT m)) ∧ Below w.heap.size w w' := by
  have h0 : ¬ ((m : Int) < 0) := by omega
  by_cases hz : m = 0
  · subst hz
    go_enter Tryd.func22, Tryd.ntmps22
    go_wp2
    go_ret
    exact ⟨ret_string numT_zero.symm, Below.refl _ _⟩
  · have hz' : ((m : Int) == 0) = false := by simp; omega
    have hmi : (m : Int) ≤ 99999999999 := by omega
    go_enter Tryd.func22, Tryd.ntmps22
    go_wp2_with fail
    go_loopw [0, 3] (fun n out wr => ∃ (k : Nat) (l : List UInt8), l.length + k ≤ m ∧ n = .int .i64 k ∧ out = .string ⟨l.toArray⟩ ∧ Hid (LeftOf m k l) ∧ Below w.heap.size w wr) (fun n _ _ => (intOf n).toNat)
    case atStart => exact ⟨m, [], by simp, rfl, rfl, ⟨fun _ => by simp, fun h => by omega⟩, Below.refl _ _⟩
    case round =>
      obtain ⟨k, l, hk, rfl, rfl, HL, hbw⟩ := hrel
      have hs := hbw.size
      have hki : (k : Int) ≤ 99999999999 := by omega
      by_cases hk0 : 0 < k
      · have hk0' : (0 : Int) < (k : Int) := by omega
        have hll : (l.length : Int) ≤ 99999999999 := by omega
        have hcv := run_byteText k wr
        have HS : Hid (LeftOf m (k / 10) ((48 + UInt8.ofNat (k % 10)) :: l)) := by rw [← byte_sum]; exact HL.out.step hk0
        go_wp2
        exact ⟨⟨k / 10, _, by simp; omega, by go_num, by rw [cat1], HS, hbw.alloc hs _⟩, by simp [intOf]; omega⟩
      · have hk0' : ¬ (0 : Int) < (k : Int) := by omega
        have HF : Hid (numT m = ⟨l.toArray⟩) := by rw [Hid, numT_nat, HL.out.2 (by omega)]
        go_wp2
        go_ret
        exact ⟨ret_string HF.out.symm, hbw⟩

end Go.Proofs.YtdlfdelngolkgaaDoor
