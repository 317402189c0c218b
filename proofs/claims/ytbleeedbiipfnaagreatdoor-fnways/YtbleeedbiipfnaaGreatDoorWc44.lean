/- Helpers of the drawn laws: big, the bytes that came in, states that are the same, a byte. -/
import Derived.Test.YtbleeedbiipfnaaGreatDoorWc0
import Derived.Test.YtbleeedbiipfnaaGreatDoorWc27
import Derived.Test.YtbleeedbiipfnaaGreatDoorWc43
import Derived.BigQuiet
import Derived.Test.YtbleeedbiipfnaaGreatDoorWc42
import Derived.Test.YtbleeedbiipfnaaGreatDoorWc10
import Derived.Test.YtbleeedbiipfnaaGreatDoorWc20
import Derived.Lib.QuietBelow
namespace Go.Proofs.YtbleeedbiipfnaaGreatDoor
set_option maxRecDepth 100000
set_option maxHeartbeats 1000000
open Go.ChangeShapes Go.WideShapes Go.ChangeAt Go.RowKit Go.Deep
def wayB (n wn : Nat) (a b : Int) : Bool := belB a n && belB b n && decide (a * n + b < wn)
def wayN (x : SysIn) (a b : Int) : Nat := if wayB x.pn x.wn a b = true then x.wL (a * x.pn + b).toNat else 0
def wayH (x : SysIn) (a b : Int) : Nat → I2 := x.wH (a * x.pn + b).toNat
open Go.Sort
theorem sameInts_same (a0 a1 : Option Addr) (c0 c1 : Nat) (xs : List Int) (w : World) (hlen : xs.length ≤ 1048576) (h0 : Sl w a0 xs) (h1 : Sl w a1 xs) :
  Calls Tryz.prog 16 #[.slice a0 xs.length c0, .slice a1 xs.length c1] w fun e w' => e = .returned (.bool true) ∧ Below w.heap.size w w' := by
 have hl' : (xs.length : Int) ≤ 1048576 := by omega
 have H0 : Hid (Sl w a0 xs) := h0
 have H1 : Hid (Sl w a1 xs) := h1
 clear h0 h1
 go_enter Tryz.func16, Tryz.ntmps16
 go_wp2_with fail
 go_loopw [5] (fun i wr => ∃ k : Nat, k ≤ xs.length ∧ i = .int .i64 k ∧ Below w.heap.size w wr) (fun i _ => xs.length - (intOf i).toNat)
 case atStart => exact ⟨0, Nat.zero_le _, rfl, Below.refl _ _⟩
 case round =>
  obtain ⟨k, hk, rfl, hbw⟩ := hrel
  by_cases hlt : k < xs.length
  ·obtain ⟨b, off, rfl, hbl, ck⟩ := (H0.out.below hbw).at hlt
   obtain ⟨b', off', rfl, hbl', ck'⟩ := (H1.out.below hbw).at hlt
   have hlt' : (k : Int) < (xs.length : Int) := by omega
   go_wp2_with fail
   go_quiet (fail)
   go_wp2
   go_roundw
   case rel => exact ⟨k + 1, by omega, by go_num, below_drewN hbw _⟩
   case measure => simp [intOf]; omega
  ·go_wp2
   go_ret
   exact ⟨rfl, hbw⟩
theorem big_any (a0 : Option Addr) (len cap : Nat) (w : World) :
  Calls Tryz.prog 9 #[.slice a0 len cap] w fun e w' => e = .returned (.bool (decide ((1048576 : Int) < len))) ∧ w' = w := by
 go_enter Tryz.func9, Tryz.ntmps9
 go_wp2
 go_ret
 exact ⟨rfl, rfl⟩
theorem open_bytes {H : Type} {enc : TypeId × Value → H} {w : World} {a0 : Option Addr} {len cap : Nat} {d : DataW H} {p : List MemPlace}
  (h : DataW.Trod enc Tryz.prog w 0 (fun _ => true) true 22 (.slice a0 len cap) d p) : len ≤ maxLen ∧ BytesAt w w.heap.size a0 len := by
 obtain ⟨fuel, hf⟩ := h
 rcases open_ints Tryz.underlying22 Tryz.underlying5 (by kernel_rfl) hf with ⟨hcs, _⟩ | ⟨x, l, c, zs, hcs, _, hl, hm, hz, _, hcell, hwz⟩
 ·simp [Value.cells] at hcs
  obtain ⟨_, rfl, _⟩ := hcs
  exact ⟨Nat.zero_le _, .inl rfl⟩
 ·simp [Value.cells] at hcs
  obtain ⟨rfl, rfl, rfl⟩ := hcs
  refine ⟨Nat.le_trans hl hm, ?_⟩
  by_cases h0 : len = 0
  ·exact .inl h0
  right
  have hz' : zs.length = cap := by simpa using hz
  obtain ⟨b, off, rfl, hc⟩ := ints_at hcell (by omega)
  refine ⟨b, off, rfl, cell_lt (hc 0 (by omega)), fun j hj => ⟨zs.getD j 0, hc j (by omega), ?_⟩⟩
  have hmem : zs.getD j 0 ∈ zs := by
   rw [List.getD_eq_getElem?_getD, List.getElem?_eq_getElem (by omega)]
   exact List.getElem_mem _
  exact bounds_u8 (hwz _ hmem)
end Go.Proofs.YtbleeedbiipfnaaGreatDoor
