/- The walks of ProgOk, the program's and the model's, over a row of places in memory: both answer what progOkB says. -/
import Derived.Test.YtnfdnnmddadmkaaGreatDoorNc0
import Derived.Test.YtnfdnnmddadmkaaGreatDoorNc7
namespace Go.Proofs.YtnfdnnmddadmkaaGreatDoor
set_option maxRecDepth 100000
set_option maxHeartbeats 1000000
open Go.RowKit
structure I5 where
 o : Int
 r : Int
 a : Int
 b : Int
 n : Int
def InsAt (w : World) (b off len : Nat) (g : Nat → I5) : Prop := ∀ i, i < len →
 w.cell? ⟨b, off + i * 5, none⟩ = some (.int .i64 (g i).o) ∧ w.cell? ⟨b, off + i * 5 + 1, none⟩ = some (.int .i64 (g i).r) ∧ w.cell? ⟨b, off + i * 5 + 2, none⟩ = some (.int .i64 (g i).a) ∧ w.cell? ⟨b, off + i * 5 + 3, none⟩ = some (.int .i64 (g i).b) ∧ w.cell? ⟨b, off + i * 5 + 4, none⟩ = some (.int .i64 (g i).n)
theorem InsAt.below {w w' : World} {B b off len : Nat} {g : Nat → I5} (h : InsAt w b off len g) (hb : Below B w w') (hB : b < B) : InsAt w' b off len g := by
 intro i hi
 obtain ⟨h0, h1, h2, h3, h4⟩ := h i hi
 exact ⟨(hb.cell hB).trans h0, (hb.cell hB).trans h1, (hb.cell hB).trans h2, (hb.cell hB).trans h3, (hb.cell hB).trans h4⟩
def okAt (g : Nat → I5) (len procs : Int) (i : Nat) : Bool := insOkB (g i).o (g i).r (g i).a (g i).b (g i).n len procs
def allOk (g : Nat → I5) (len procs : Int) (k : Nat) : Bool := (List.range k).all (okAt g len procs)
def progOkB (g : Nat → I5) (len : Nat) (procs : Int) : Bool := allOk g len procs len && (inB len 1 30 && inB procs 1 4)
theorem allOk_succ (g : Nat → I5) (len procs : Int) (k : Nat) : allOk g len procs (k + 1) = (allOk g len procs k && okAt g len procs k) := by
 simp [allOk, List.range_succ]
theorem allOk_false (g : Nat → I5) (len procs : Int) {k m : Nat} (hk : k < m) (h : okAt g len procs k = false) : allOk g len procs m = false := by
 rw [allOk, List.all_eq_false]
 exact ⟨k, List.mem_range.2 hk, by simp [h]⟩
theorem specProgOk_any (b off len cap : Nat) (g : Nat → I5) (procs : Int) (w : World) (hlen : len ≤ maxLen) (hb : b < w.heap.size) (hc : InsAt w b off len g) :
  Calls Tryz.prog 108 #[.slice (some ⟨b, off, none⟩) len cap, .int .i64 procs] w fun e w' => e = .returned (.bool (progOkB g len procs)) ∧ Below w.heap.size w w' := by
 unfold maxLen at hlen
 have HC : Hid (InsAt w b off len g) := hc
 clear hc
 go_enter Tryz.func108, Tryz.ntmps108
 go_wp2_with fail
 go_loopw [5] (fun i wr => ∃ k : Nat, k ≤ len ∧ i = .int .i64 k ∧ Hid (allOk g len procs k = true) ∧ Below w.heap.size w wr) (fun i _ => len - (intOf i).toNat)
 case atStart => exact ⟨0, Nat.zero_le _, rfl, rfl, Below.refl _ _⟩
 case round =>
  obtain ⟨k, hk, rfl, HA, hbw⟩ := hrel
  by_cases hlt : k < len
  ·obtain ⟨c0, c1, c2, c3, c4⟩ := HC.out.below hbw hb k hlt
   rcases Bool.eq_false_or_eq_true (okAt g len procs k) with ho | ho
   ·have HO : Hid (okAt g len procs k = true) := ho
    have ho' : insOkB (g k).o (g k).r (g k).a (g k).b (g k).n len procs = true := ho
    clear ho
    go_wp2_with (go_at_call 174; refine (specInsOk_any _ _ _ _ _ _ _ _).mono ?_; rintro e w1 ⟨rfl, hb1⟩)
    go_roundw
    case rel => exact ⟨k + 1, by omega, by go_num, by rw [Hid, allOk_succ, HA.out, HO.out]; rfl, hbw.trans (hb1.mono hbw.size)⟩
    case measure => simp [intOf]; omega
   ·have HO : Hid (okAt g len procs k = false) := ho
    have ho' : insOkB (g k).o (g k).r (g k).a (g k).b (g k).n len procs = false := ho
    clear ho
    go_wp2_with (go_at_call 174; refine (specInsOk_any _ _ _ _ _ _ _ _).mono ?_; rintro e w1 ⟨rfl, hb1⟩)
    go_ret
    exact ⟨ret_bool (by rw [progOkB, allOk_false g len procs hlt HO.out]; rfl), hbw.trans (hb1.mono hbw.size)⟩
  ·have hkl : k = len := by omega
   have HP : Hid (progOkB g len procs = (inB len 1 30 && inB procs 1 4)) := by
    have hA := HA.out
    rw [hkl] at hA
    rw [Hid, progOkB, hA]; rfl
   clear HA hkl
   rcases Bool.eq_false_or_eq_true (inB len 1 30) with t0 | t0
   all_goals
    go_wp2_with (go_at_call 41; refine (l1In_any _ _ _ _).mono ?_; rintro e w' ⟨rfl, rfl⟩)
    go_ret
    exact ⟨ret_bool (by rw [HP.out, t0] <;> rfl), hbw⟩
theorem implProgOk_any (b off len cap : Nat) (g : Nat → I5) (procs : Int) (w : World) (hlen : len ≤ maxLen) (hb : b < w.heap.size) (hc : InsAt w b off len g) :
  Calls Tryz.prog 115 #[.slice (some ⟨b, off, none⟩) len cap, .int .i64 procs] w fun e w' => e = .returned (.bool (progOkB g len procs)) ∧ Below w.heap.size w w' := by
 unfold maxLen at hlen
 have HC : Hid (InsAt w b off len g) := hc
 clear hc
 by_cases hr : 1 ≤ len ∧ len ≤ 30
 case neg =>
  have hv : progOkB g len procs = false := by
   rw [progOkB, show inB len 1 30 = false from by simp [inB]; omega]; simp
  rw [hv]
  clear hv
  by_cases h1 : len < 1
  ·have h1' : (len : Int) < 1 := by omega
   go_enter Tryz.func115, Tryz.ntmps115
   go_wp2
   go_ret
   exact ⟨rfl, Below.refl _ _⟩
  ·have h1' : ¬ (len : Int) < 1 := by omega
   have h2' : (30 : Int) < len := by omega
   go_enter Tryz.func115, Tryz.ntmps115
   go_wp2
   go_ret
   exact ⟨rfl, Below.refl _ _⟩
 case pos =>
 obtain ⟨r1, r2⟩ := hr
 have h1' : ¬ (len : Int) < 1 := by omega
 have h2' : ¬ (30 : Int) < len := by omega
 go_enter Tryz.func115, Tryz.ntmps115
 go_wp2_with fail
 go_loopw [17] (fun i wr => ∃ k : Nat, k ≤ len ∧ i = .int .i64 k ∧ Hid (allOk g len procs k = true) ∧ Below w.heap.size w wr) (fun i _ => len - (intOf i).toNat)
 case atStart => exact ⟨0, Nat.zero_le _, rfl, rfl, Below.refl _ _⟩
 case round =>
  obtain ⟨k, hk, rfl, HA, hbw⟩ := hrel
  have hs := hbw.size
  by_cases hlt : k < len
  ·obtain ⟨c0, c1, c2, c3, c4⟩ := HC.out.below hbw hb k hlt
   rcases Bool.eq_false_or_eq_true (okAt g len procs k) with ho | ho
   ·have HO : Hid (okAt g len procs k = true) := ho
    have ho' : insOkB (g k).o (g k).r (g k).a (g k).b (g k).n len procs = true := ho
    clear ho
    go_wp2_with (go_at_call 179; refine (implInsOk_any _ _ _ _ _ _ _ _).mono ?_; rintro e w1 ⟨rfl, hb1⟩)
    go_roundw
    case rel => exact ⟨k + 1, by omega, by go_num, by rw [Hid, allOk_succ, HA.out, HO.out]; rfl, (hbw.alloc hs _).trans (hb1.mono (by simp; omega))⟩
    case measure => simp [intOf]; omega
   ·have HO : Hid (okAt g len procs k = false) := ho
    have ho' : insOkB (g k).o (g k).r (g k).a (g k).b (g k).n len procs = false := ho
    clear ho
    go_wp2_with (go_at_call 179; refine (implInsOk_any _ _ _ _ _ _ _ _).mono ?_; rintro e w1 ⟨rfl, hb1⟩)
    go_ret
    exact ⟨ret_bool (by rw [progOkB, allOk_false g len procs hlt HO.out]; rfl), (hbw.alloc hs _).trans (hb1.mono (by simp; omega))⟩
  ·have hkl : k = len := by omega
   have h30 : inB len 1 30 = true := by simp [inB]; omega
   have HP : Hid (progOkB g len procs = true) := by
    have hA := HA.out
    rw [hkl] at hA
    have hp : inB procs 1 4 = true := by
     have h0 : okAt g len procs 0 = true := by
      have := (List.all_eq_true.1 (show (List.range len).all (okAt g len procs) = true from hA)) 0 (List.mem_range.2 (by omega))
      exact this
     simp only [okAt, insOkB, Bool.and_eq_true] at h0
     exact h0.1.2
    rw [Hid, progOkB, hA, h30, hp]; rfl
   clear HA hkl h30
   go_wp2
   go_ret
   exact ⟨ret_bool HP.out.symm, hbw⟩
end Go.Proofs.YtnfdnnmddadmkaaGreatDoor
