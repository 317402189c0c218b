/- The numbers on a way: the walks of the model's Numbers and of the program's. -/
import Derived.Test.YtkniainoimddnabItA
import Derived.Test.YtkniainoimddnabRpB0
namespace Go.Proofs.Ytkniainoimddnab
open Go.RowKit Go.Deep

theorem belowMid {w w1 w2 : World} {B : Nat} (h1 : Below B w w1) (h2 : Below w1.heap.size w1 w2) (hB : B ≤ w1.heap.size) : Below B w w2 := h1.trans (h2.mono hB)

/-- The numbers among the first n items. -/
def numL (h : Nat → I2) : Nat → List Int
  | 0 => []
  | n + 1 => if (h n).m = true then numL h n else numL h n ++ [(h n).v]
theorem numL_le (h : Nat → I2) : ∀ n, (numL h n).length ≤ n
  | 0 => Nat.le_refl _
  | n + 1 => by
    unfold numL
    have := numL_le h n
    split
    · omega
    · simp; omega
theorem numL_hit {h : Nat → I2} {n : Nat} (hh : (h n).m = false) : numL h (n + 1) = numL h n ++ [(h n).v] := by
  rw [numL, if_neg (by rw [hh]; decide)]
theorem numL_not {h : Nat → I2} {n : Nat} (hh : (h n).m = true) : numL h (n + 1) = numL h n := by
  rw [numL, if_pos hh]

set_option maxRecDepth 100000 in
set_option maxHeartbeats 1000000 in
theorem specNumbers_any (b off len cap : Nat) (h : Nat → I2) (w : World) (hlen : len ≤ 1048576) (hb : b < w.heap.size) (hc : ItAt w b off len h) :
    Calls Try.prog 15 #[.slice (some ⟨b, off, none⟩) len cap] w fun e w' => ∃ v, e = .returned v ∧ OwnI w' w.heap.size v (numL h len) ∧ Below w.heap.size w w' := by
  have hl' : (len : Int) ≤ 1048576 := by omega
  have HC : Hid (ItAt w b off len h) := hc
  clear hc
  go_enter Try.func15, Try.ntmps15
  go_wp2_with fail
  go_loopw [3, 4] (fun o i wr => ∃ k : Nat, k ≤ len ∧ i = .int .i64 k ∧ Hid (OwnI wr w.heap.size o (numL h k)) ∧ Below w.heap.size w wr) (fun _ i _ => len - (intOf i).toNat)
  case atStart => exact ⟨0, Nat.zero_le _, rfl, own_empty w, (Below.refl _ _).alloc (Nat.le_refl _) _⟩
  case round =>
    obtain ⟨k, hk, rfl, HO, hbw⟩ := hrel
    have hs := hbw.size
    by_cases hlt : k < len
    · have hlt' : (k : Int) < (len : Int) := by omega
      have hvl := numL_le h k
      obtain ⟨c0, c1⟩ := HC.out.below hbw hb k hlt
      rcases Bool.eq_false_or_eq_true (h k).m with t1 | t1
      · have HH : Hid (numL h (k + 1) = numL h k) := numL_not t1
        rw [t1] at c0
        go_wp2
        go_roundw
        case rel => exact ⟨k + 1, by omega, by go_num, HO.out.to HH.out, hbw⟩
        case measure => simp [intOf]; omega
      · have HH : Hid (numL h (k + 1) = numL h k ++ [(h k).v]) := numL_hit t1
        rw [t1] at c0
        go_wp2_with (at_builtin; refine append_one wr rfl _ _ rfl w.heap.size u3 (numL h k) rfl HO.out (h k).v rfl (by omega) hs ?_; intro v' w4 o4 b4; have H4 : Hid (OwnI w4 w.heap.size v' (numL h (k + 1))) := o4.to HH.out; clear o4)
        go_roundw
        case rel => exact ⟨k + 1, by omega, by go_num, H4.out, hbw.trans b4⟩
        case measure => simp [intOf]; omega
    · have hkl : k = len := by omega
      have H4 : Hid (OwnI wr w.heap.size u3 (numL h len)) := by
        have := HO.out
        rw [hkl] at this
        exact this
      clear HO hkl
      go_wp2
      go_ret
      exact ⟨_, rfl, H4.out, hbw⟩

set_option maxRecDepth 100000 in
set_option maxHeartbeats 1000000 in
theorem implNumbers_any (b off len cap : Nat) (h : Nat → I2) (w : World) (hlen : len ≤ 1048576) (hb : b < w.heap.size) (hc : ItAt w b off len h) :
    Calls Try.prog 17 #[.slice (some ⟨b, off, none⟩) len cap] w fun e w' => ∃ v, e = .returned v ∧ OwnI w' w.heap.size v (numL h len) ∧ Below w.heap.size w w' := by
  have hl' : (len : Int) ≤ 1048576 := by omega
  have HC : Hid (ItAt w b off len h) := hc
  clear hc
  go_enter Try.func17, Try.ntmps17
  go_wp2_with fail
  go_loopw [3, 9] (fun o i wr => ∃ k : Nat, k ≤ len ∧ i = .int .i64 k ∧ Hid (OwnI wr w.heap.size o (numL h k)) ∧ Below w.heap.size w wr) (fun _ i _ => len - (intOf i).toNat)
  case atStart => exact ⟨0, Nat.zero_le _, rfl, own_empty w, (Below.refl _ _).alloc (Nat.le_refl _) _⟩
  case round =>
    obtain ⟨k, hk, rfl, HO, hbw⟩ := hrel
    have hs := hbw.size
    by_cases hlt : k < len
    · have hlt' : (k : Int) < (len : Int) := by omega
      have hvl := numL_le h k
      obtain ⟨c0, c1⟩ := HC.out.below hbw hb k hlt
      rcases Bool.eq_false_or_eq_true (h k).m with t1 | t1
      · have HH : Hid (numL h (k + 1) = numL h k) := numL_not t1
        rw [t1] at c0
        go_wp2
        go_roundw
        case rel => exact ⟨k + 1, by omega, by go_num, (HO.out.below (by go_grown)).to HH.out, by go_grown⟩
        case measure => simp [intOf]; omega
      · have HH : Hid (numL h (k + 1) = numL h k ++ [(h k).v]) := numL_hit t1
        rw [t1] at c0
        go_wp2_with (at_builtin; refine append_oneN _ (N := wr.heap.size + 1) (by simp) rfl _ _ rfl w.heap.size u3 (numL h k) rfl (HO.out.below (by go_grown)) (h k).v rfl (by omega) (by simp; omega) ?_; intro v' w4 o4 b4; have H4 : Hid (OwnI w4 w.heap.size v' (numL h (k + 1))) := o4.to HH.out; clear o4)
        go_roundw
        case rel => exact ⟨k + 1, by omega, by go_num, H4.out, Below.trans (by go_grown) b4⟩
        case measure => simp [intOf]; omega
    · have hkl : k = len := by omega
      have H4 : Hid (OwnI wr w.heap.size u3 (numL h len)) := by
        have := HO.out
        rw [hkl] at this
        exact this
      clear HO hkl
      go_wp2
      go_ret
      exact ⟨_, rfl, H4.out, hbw⟩

end Go.Proofs.Ytkniainoimddnab
