/- The form of a number as bytes; the walks of the model's PutNum and of the program's. -/
import Derived.Test.YtnfdnnmddadmkaaGreatDoorNc0
import Derived.Test.YtnfdnnmddadmkaaGreatDoorNc16
import Derived.Test.YtnfdnnmddadmkaaGreatDoorNc15
import Derived.Test.YtnfdnnmddadmkaaGreatDoorNc35
import Derived.Laws.BitsLemmas
namespace Go.Proofs.YtnfdnnmddadmkaaGreatDoor
set_option maxRecDepth 100000
set_option maxHeartbeats 1000000
open Go.RowKit Go.Deep
def numL (h : Nat → I2) : Nat → List Int
 | 0 => []
 | n + 1 => if (h n).m = true then numL h n else numL h n ++ [(h n).v]
theorem numL_le (h : Nat → I2) : ∀ n, (numL h n).length ≤ n
 | 0 => Nat.le_refl _
 | n + 1 => by
  unfold numL
  have := numL_le h n
  split
  ·omega
  ·simp; omega
theorem numL_hit {h : Nat → I2} {n : Nat} (hh : (h n).m = false) : numL h (n + 1) = numL h n ++ [(h n).v] := by
 rw [numL, if_neg (by rw [hh]; decide)]
theorem numL_not {h : Nat → I2} {n : Nat} (hh : (h n).m = true) : numL h (n + 1) = numL h n := by
 rw [numL, if_pos hh]
open Go.RowKit Go.Extern.Stop Go.Stop Go.Extern
theorem elemVT (a p : Addr) (W : World) (ha : W.cell? a = some (.pointer (some p))) :
  (ReflectliteValue.method (ReflectliteValue.valueError "reflectlite.Value.Elem" 0) ReflectliteValue.elem #[.agg #[.pointer (some ⟨1, 223, none⟩), .pointer (some a), .int .u64 150]]).run Tryz.prog W
   = .ok (.agg #[.pointer (some ⟨1, 221, none⟩), .pointer (some p), .int .u64 409]) W := by
 rw [rlm]
 simp only [Sem.run_bind, partsT, Result.andThen]
 simp [ReflectliteValue.elem, loadVar, isAgg, underlying, Tryz.underlying223, ha, Result.andThen, elemOfT, mkE]
theorem rls (v x : Value) : ReflectliteValue.set #[v, x] = (do
  let (some (dst, a, fl), some (src, b, _)) := (← ReflectliteValue.parts v, ← ReflectliteValue.parts x)
   | unsupported (.noEntry "extern/(internal/reflectlite.Value).Set.zeroValue")
  if fl / ReflectliteValue.flagAddr % 2 == 0 then unsupported (.noEntry "extern/(internal/reflectlite.Value).Set.unaddressable")
  let val ← loadVar src b
  if ← Rtype.directlyAssignable dst src then storeVar dst a val
  else if ← Rtype.implements dst src then
   if (← Rtype.kind src) == 20 then
    match val with
    | .nilIface => unsupported (.noEntry "extern/reflectlite: a nil value of one interface type handed on as a value of another")
    | _ => storeVar dst a val
   else storeVar dst a (.iface src val)
  else panicString ("reflectlite.Set: value of type " ++ (← Rtype.spelt src) ++ " is not assignable to type " ++ (← Rtype.spelt dst))
  pure (.tuple #[])) := rfl
theorem partsEa (a : Addr) (w : World) : (ReflectliteValue.parts (.agg #[.pointer (some ⟨1, 221, none⟩), .pointer (some a), .int .u64 409])).run Tryz.prog w = .ok (some (221, a, 409)) w := by kernel_rfl
theorem partsE (a : Addr) (w : World) : (ReflectliteValue.parts (.agg #[.pointer (some ⟨1, 221, none⟩), .pointer (some a), .int .u64 153])).run Tryz.prog w = .ok (some (221, a, 153)) w := by kernel_rfl
theorem directE (w : World) : (Rtype.directlyAssignable 221 221).run Tryz.prog w = .ok true w := by kernel_rfl
theorem setE (ta b : Addr) (x : Int) (old : Value) (W : World) (hb : W.cell? b = some (.int .i64 x)) (ht : W.cell? ta = some old) (hf : W.frozen? ta = false) :
  (ReflectliteValue.set #[.agg #[.pointer (some ⟨1, 221, none⟩), .pointer (some ta), .int .u64 409], .agg #[.pointer (some ⟨1, 221, none⟩), .pointer (some b), .int .u64 153]]).run Tryz.prog W
   = .ok (.tuple #[]) (W.setCell ta (.int .i64 x)) := by
 rw [rls]
 simp only [Sem.run_bind, partsEa, partsE, Result.andThen]
 simp [ReflectliteValue.flagAddr, loadVar, loadCells, loadCellsFrom, hb, Result.andThen, directE, storeVar, Value.cells, storeCells, Addr.add]
 rw [run_store Tryz.prog W ta _ _ (by rfl)]
 simp [ht, hf]
def fd (x : Int) : Nat := if x < 0 then (-2 * x - 1).toNat else (2 * x).toNat
def fmN : Nat → Nat → List Int
 | 0, n => [(n : Int)]
 | k + 1, n => if n < 128 then [(n : Int)] else ((n % 128 + 128 : Nat) : Int) :: fmN k (n / 128)
def puB (x : Int) : Bool := decide (-2000000000 ≤ x ∧ x ≤ 2000000000)
def puL (x : Int) : List Int := if puB x = true then fmN 4 (fd x) else []
theorem fm_last (k n : Nat) (h : n < 128) : fmN k n = [(n : Int)] := by
 cases k with
 | zero => rfl
 | succ k => rw [fmN, if_pos h]
theorem fm_step (k n : Nat) (h : 128 ≤ n) (hk : n < 128 ^ (k + 1)) : ∃ j, k = j + 1 ∧ n / 128 < 128 ^ (j + 1) ∧ fmN k n = ((n % 128 + 128 : Nat) : Int) :: fmN j (n / 128) := by
 cases k with
 | zero => simp at hk; omega
 | succ k =>
  refine ⟨k, rfl, ?_, ?_⟩
  ·rw [Nat.pow_succ] at hk
   exact Nat.div_lt_of_lt_mul (by rw [Nat.mul_comm]; exact hk)
  ·rw [fmN, if_neg (by omega)]
theorem fm_len : ∀ k n, (fmN k n).length ≤ k + 1
 | 0, n => by simp [fmN]
 | k + 1, n => by
  rw [fmN]
  split
  ·simp
  ·have := fm_len k (n / 128)
   simp
   omega
theorem fd_le (x : Int) (h : puB x = true) : fd x ≤ 4000000000 := by
 unfold puB at h
 have := of_decide_eq_true h
 unfold fd
 split <;> omega
theorem puL_len (x : Int) : (puL x).length ≤ 5 := by
 unfold puL
 split
 ·exact fm_len 4 _
 ·simp
structure PuR (n k r : Nat) (f : List Int) : Prop where
 eq : f ++ fmN k r = fmN 4 n
 ln : f.length + k = 4
 lt : r < 128 ^ (k + 1)
 le : r ≤ 4000000000
theorem PuR.new (n : Nat) (h : n ≤ 4000000000) : PuR n 4 n [] := ⟨rfl, rfl, by omega, h⟩
theorem PuR.step {n k r : Nat} {f : List Int} (h : PuR n k r f) (hr : 128 ≤ r) : ∃ j, PuR n j (r / 128) (f ++ [((r % 128 + 128 : Nat) : Int)]) := by
 obtain ⟨j, rfl, hj, e⟩ := fm_step k r hr h.lt
 refine ⟨j, ?_, ?_, hj, Nat.le_trans (Nat.div_le_self _ _) h.le⟩
 ·rw [List.append_assoc, List.singleton_append, ← e, h.eq]
 ·have := h.ln
  simp
  omega
theorem PuR.last {n k r : Nat} {f : List Int} (h : PuR n k r f) (hr : r < 128) : f ++ [(r : Int)] = fmN 4 n := by
 rw [← h.eq, fm_last k r hr]
theorem fd_val (x : Int) : ((fd x : Nat) : Int) = if x < 0 then -2 * x - 1 else 2 * x := by
 unfold fd
 split <;> omega
theorem folded_any (x : Int) (w : World) (h1 : -2000000000 ≤ x) (h2 : x ≤ 2000000000) :
  Calls Tryz.prog 146 #[.int .i64 x] w fun e w' => e = .returned (.int .i64 (if x < 0 then -2 * x - 1 else 2 * x)) ∧ w' = w := by
 by_cases hc : x < 0
 ·go_enter Tryz.func146, Tryz.ntmps146
  go_wp2
  go_ret
  exact ⟨by simp, rfl⟩
 ·go_enter Tryz.func146, Tryz.ntmps146
  go_wp2
  go_ret
  exact ⟨by simp, rfl⟩
theorem specPutNum_any (x : Int) (w : World) :
  Calls Tryz.prog 81 #[.int .i64 x] w fun e w' => ∃ v, e = .returned v ∧ OwnB w' w.heap.size v (puL x) ∧ Below w.heap.size w w' := by
 have H0 : Hid (OwnB (w.alloc (.cells #[] 5)) w.heap.size (.slice (some ⟨w.heap.size, 0, none⟩) 0 0) []) := ownB_empty w
 have B0 : Below w.heap.size w (w.alloc (.cells #[] 5)) := (Below.refl _ _).alloc (Nat.le_refl _) _
 by_cases hx : puB x = true
 ·have hx1 := of_decide_eq_true hx
  have hin : inB x (-2000000000) 2000000000 = true := decide_eq_true hx1
  obtain ⟨h1, h2⟩ := hx1
  have HN : Hid (puL x = fmN 4 (fd x)) := by show puL x = fmN 4 (fd x); rw [puL, if_pos hx]
  have hle := fd_le x hx
  have EF : Hid (((fd x : Nat) : Int) = if x < 0 then -2 * x - 1 else 2 * x) := fd_val x
  generalize fd x = n at hle HN EF
  clear hx
  by_cases hc : x < 0
  ·have EN : Hid (-2 * x - 1 = (n : Int)) := by have e := EF.out; rw [if_pos hc] at e; exact e.symm
   clear EF
   go_enter Tryz.func81, Tryz.ntmps81
   go_wp2_with fail
   generalize w.alloc (.cells #[] 5) = w0 at *
   refine (l1In_any x (-2000000000) 2000000000 w0).mono ?_
   rintro e w1 ⟨rfl, rfl⟩
   rw [hin]
   clear hin
   go_wp2_with fail
   go_loopw [3, 4] (fun o q wr => ∃ (k r : Nat) (f : List Int), q = .int .i64 (r : Int) ∧ Hid (OwnB wr w.heap.size o f ∧ PuR n k r f) ∧ Below w.heap.size w wr) (fun _ q _ => (intOf q).toNat)
   case atStart => exact ⟨4, n, [], by rw [EN.out], ⟨H0.out, PuR.new n hle⟩, B0⟩
   case round =>
    clear H0 B0 EN
    obtain ⟨k, r, f, rfl, HR, hbw⟩ := hrel
    have hr4 : (r : Int) ≤ 4000000000 := by have := HR.out.2.le; omega
    by_cases hr : 128 ≤ r
    ·have hr1 : (127 : Int) < (r : Int) := by omega
     have hr2 : (128 : Int) ≤ (r : Int) := by omega
     have hw1 : IntKind.u8.wrap ((r : Int) % 128 + 128) = (r : Int) % 128 + 128 := by rw [IntKind.wrap_u8]; omega
     have hs : w.heap.size ≤ wr.heap.size := hbw.size
     have hf : f.length ≤ 1048576 := by have := HR.out.2.ln; omega
     go_wp2_with (at_builtin; refine append_byte wr rfl _ _ rfl w.heap.size u3 f rfl HR.out.1 ((r : Int) % 128 + 128) rfl hf hs ?_; intro v' w4 o4 b4; have H4 : Hid (OwnB w4 w.heap.size v' (f ++ [((r % 128 + 128 : Nat) : Int)])) := o4.to (by rw [Int.natCast_add, Int.natCast_emod]; rfl); clear o4)
     go_roundw
     case rel =>
      obtain ⟨j, hj⟩ := HR.out.2.step hr
      exact ⟨j, r / 128, _, by go_num, ⟨H4.out, hj⟩, hbw.trans b4⟩
     case measure => simp [intOf]; omega
    ·have hr1 : ¬ (127 : Int) < (r : Int) := by omega
     have hr2 : ¬ (128 : Int) ≤ (r : Int) := by omega
     have hw1 : IntKind.u8.wrap (r : Int) = (r : Int) := by rw [IntKind.wrap_u8]; omega
     have hs : w.heap.size ≤ wr.heap.size := hbw.size
     have hf : f.length ≤ 1048576 := by have := HR.out.2.ln; omega
     go_wp2_with (at_builtin; refine append_byte wr rfl _ _ rfl w.heap.size u3 f rfl HR.out.1 (r : Int) rfl hf hs ?_; intro v' w4 o4 b4; have H4 : Hid (OwnB w4 w.heap.size v' (puL x)) := o4.to (by rw [HN.out]; exact (HR.out.2.last (by omega)).symm); clear o4)
     go_ret
     exact ⟨_, rfl, H4.out, hbw.trans b4⟩
  ·have EN : Hid (2 * x = (n : Int)) := by have e := EF.out; rw [if_neg hc] at e; exact e.symm
   clear EF
   go_enter Tryz.func81, Tryz.ntmps81
   go_wp2_with fail
   generalize w.alloc (.cells #[] 5) = w0 at *
   refine (l1In_any x (-2000000000) 2000000000 w0).mono ?_
   rintro e w1 ⟨rfl, rfl⟩
   rw [hin]
   clear hin
   go_wp2_with fail
   go_loopw [3, 4] (fun o q wr => ∃ (k r : Nat) (f : List Int), q = .int .i64 (r : Int) ∧ Hid (OwnB wr w.heap.size o f ∧ PuR n k r f) ∧ Below w.heap.size w wr) (fun _ q _ => (intOf q).toNat)
   case atStart => exact ⟨4, n, [], by rw [EN.out], ⟨H0.out, PuR.new n hle⟩, B0⟩
   case round =>
    clear H0 B0 EN
    obtain ⟨k, r, f, rfl, HR, hbw⟩ := hrel
    have hr4 : (r : Int) ≤ 4000000000 := by have := HR.out.2.le; omega
    by_cases hr : 128 ≤ r
    ·have hr1 : (127 : Int) < (r : Int) := by omega
     have hr2 : (128 : Int) ≤ (r : Int) := by omega
     have hw1 : IntKind.u8.wrap ((r : Int) % 128 + 128) = (r : Int) % 128 + 128 := by rw [IntKind.wrap_u8]; omega
     have hs : w.heap.size ≤ wr.heap.size := hbw.size
     have hf : f.length ≤ 1048576 := by have := HR.out.2.ln; omega
     go_wp2_with (at_builtin; refine append_byte wr rfl _ _ rfl w.heap.size u3 f rfl HR.out.1 ((r : Int) % 128 + 128) rfl hf hs ?_; intro v' w4 o4 b4; have H4 : Hid (OwnB w4 w.heap.size v' (f ++ [((r % 128 + 128 : Nat) : Int)])) := o4.to (by rw [Int.natCast_add, Int.natCast_emod]; rfl); clear o4)
     go_roundw
     case rel =>
      obtain ⟨j, hj⟩ := HR.out.2.step hr
      exact ⟨j, r / 128, _, by go_num, ⟨H4.out, hj⟩, hbw.trans b4⟩
     case measure => simp [intOf]; omega
    ·have hr1 : ¬ (127 : Int) < (r : Int) := by omega
     have hr2 : ¬ (128 : Int) ≤ (r : Int) := by omega
     have hw1 : IntKind.u8.wrap (r : Int) = (r : Int) := by rw [IntKind.wrap_u8]; omega
     have hs : w.heap.size ≤ wr.heap.size := hbw.size
     have hf : f.length ≤ 1048576 := by have := HR.out.2.ln; omega
     go_wp2_with (at_builtin; refine append_byte wr rfl _ _ rfl w.heap.size u3 f rfl HR.out.1 (r : Int) rfl hf hs ?_; intro v' w4 o4 b4; have H4 : Hid (OwnB w4 w.heap.size v' (puL x)) := o4.to (by rw [HN.out]; exact (HR.out.2.last (by omega)).symm); clear o4)
     go_ret
     exact ⟨_, rfl, H4.out, hbw.trans b4⟩
 ·have HN : Hid (puL x = []) := by show puL x = []; rw [puL, if_neg hx]
  have hin : inB x (-2000000000) 2000000000 = false := by
   cases hv : inB x (-2000000000) 2000000000 with
   | false => rfl
   | true => exact absurd hv hx
  clear hx
  go_enter Tryz.func81, Tryz.ntmps81
  go_wp2_with fail
  generalize w.alloc (.cells #[] 5) = w0 at *
  refine (l1In_any x (-2000000000) 2000000000 w0).mono ?_
  rintro e w1 ⟨rfl, rfl⟩
  rw [hin]
  clear hin
  go_wp2
  go_ret
  exact ⟨_, rfl, by rw [HN.out]; exact H0.out, B0⟩
theorem implPutNum_any (x : Int) (w : World) :
  Calls Tryz.prog 88 #[.int .i64 x] w fun e w' => ∃ v, e = .returned v ∧ OwnB w' w.heap.size v (puL x) ∧ Below w.heap.size w w' := by
 have H0 : Hid (OwnB (w.alloc (.cells #[] 5)) w.heap.size (.slice (some ⟨w.heap.size, 0, none⟩) 0 0) []) := ownB_empty w
 have B0 : Below w.heap.size w (w.alloc (.cells #[] 5)) := (Below.refl _ _).alloc (Nat.le_refl _) _
 by_cases hx : puB x = true
 ·have hx1 := of_decide_eq_true hx
  obtain ⟨h1, h2⟩ := hx1
  have HN : Hid (puL x = fmN 4 (fd x)) := by show puL x = fmN 4 (fd x); rw [puL, if_pos hx]
  have hle := fd_le x hx
  have EF : Hid (((fd x : Nat) : Int) = if x < 0 then -2 * x - 1 else 2 * x) := fd_val x
  generalize fd x = n at hle HN EF
  clear hx
  have hn1 : ¬ x < -2000000000 := by omega
  have hn2 : ¬ 2000000000 < x := by omega
  by_cases hc : x < 0
  ·have EN : Hid (-2 * x - 1 = (n : Int)) := by have e := EF.out; rw [if_pos hc] at e; exact e.symm
   clear EF
   go_enter Tryz.func88, Tryz.ntmps88
   go_wp2_with fail
   generalize w.alloc (.cells #[] 5) = w0 at *
   refine (folded_any x w0 h1 h2).mono ?_
   rintro e w1 ⟨rfl, rfl⟩
   rw [if_pos hc]
   go_wp2_with fail
   go_loopw [3, 4] (fun o q wr => ∃ (k r : Nat) (f : List Int), q = .int .i64 (r : Int) ∧ Hid (OwnB wr w.heap.size o f ∧ PuR n k r f) ∧ Below w.heap.size w wr) (fun _ q _ => (intOf q).toNat)
   case atStart => exact ⟨4, n, [], by rw [EN.out], ⟨H0.out, PuR.new n hle⟩, B0⟩
   case round =>
    clear H0 B0 EN
    obtain ⟨k, r, f, rfl, HR, hbw⟩ := hrel
    have hr4 : (r : Int) ≤ 4000000000 := by have := HR.out.2.le; omega
    by_cases hr : 128 ≤ r
    ·have hr1 : (127 : Int) < (r : Int) := by omega
     have hr2 : (128 : Int) ≤ (r : Int) := by omega
     have hw1 : IntKind.u8.wrap ((r : Int) % 128 + 128) = (r : Int) % 128 + 128 := by rw [IntKind.wrap_u8]; omega
     have hs : w.heap.size ≤ wr.heap.size := hbw.size
     have hf : f.length ≤ 1048576 := by have := HR.out.2.ln; omega
     go_wp2_with (at_builtin; refine append_byte wr rfl _ _ rfl w.heap.size u3 f rfl HR.out.1 ((r : Int) % 128 + 128) rfl hf hs ?_; intro v' w4 o4 b4; have H4 : Hid (OwnB w4 w.heap.size v' (f ++ [((r % 128 + 128 : Nat) : Int)])) := o4.to (by rw [Int.natCast_add, Int.natCast_emod]; rfl); clear o4)
     go_roundw
     case rel =>
      obtain ⟨j, hj⟩ := HR.out.2.step hr
      exact ⟨j, r / 128, _, by go_num, ⟨H4.out, hj⟩, hbw.trans b4⟩
     case measure => simp [intOf]; omega
    ·have hr1 : ¬ (127 : Int) < (r : Int) := by omega
     have hr2 : ¬ (128 : Int) ≤ (r : Int) := by omega
     have hw1 : IntKind.u8.wrap (r : Int) = (r : Int) := by rw [IntKind.wrap_u8]; omega
     have hs : w.heap.size ≤ wr.heap.size := hbw.size
     have hf : f.length ≤ 1048576 := by have := HR.out.2.ln; omega
     go_wp2_with (at_builtin; refine append_byte wr rfl _ _ rfl w.heap.size u3 f rfl HR.out.1 (r : Int) rfl hf hs ?_; intro v' w4 o4 b4; have H4 : Hid (OwnB w4 w.heap.size v' (puL x)) := o4.to (by rw [HN.out]; exact (HR.out.2.last (by omega)).symm); clear o4)
     go_ret
     exact ⟨_, rfl, H4.out, hbw.trans b4⟩
  ·have EN : Hid (2 * x = (n : Int)) := by have e := EF.out; rw [if_neg hc] at e; exact e.symm
   clear EF
   go_enter Tryz.func88, Tryz.ntmps88
   go_wp2_with fail
   generalize w.alloc (.cells #[] 5) = w0 at *
   refine (folded_any x w0 h1 h2).mono ?_
   rintro e w1 ⟨rfl, rfl⟩
   rw [if_neg (by omega)]
   go_wp2_with fail
   go_loopw [3, 4] (fun o q wr => ∃ (k r : Nat) (f : List Int), q = .int .i64 (r : Int) ∧ Hid (OwnB wr w.heap.size o f ∧ PuR n k r f) ∧ Below w.heap.size w wr) (fun _ q _ => (intOf q).toNat)
   case atStart => exact ⟨4, n, [], by rw [EN.out], ⟨H0.out, PuR.new n hle⟩, B0⟩
   case round =>
    clear H0 B0 EN
    obtain ⟨k, r, f, rfl, HR, hbw⟩ := hrel
    have hr4 : (r : Int) ≤ 4000000000 := by have := HR.out.2.le; omega
    by_cases hr : 128 ≤ r
    ·have hr1 : (127 : Int) < (r : Int) := by omega
     have hr2 : (128 : Int) ≤ (r : Int) := by omega
     have hw1 : IntKind.u8.wrap ((r : Int) % 128 + 128) = (r : Int) % 128 + 128 := by rw [IntKind.wrap_u8]; omega
     have hs : w.heap.size ≤ wr.heap.size := hbw.size
     have hf : f.length ≤ 1048576 := by have := HR.out.2.ln; omega
     go_wp2_with (at_builtin; refine append_byte wr rfl _ _ rfl w.heap.size u3 f rfl HR.out.1 ((r : Int) % 128 + 128) rfl hf hs ?_; intro v' w4 o4 b4; have H4 : Hid (OwnB w4 w.heap.size v' (f ++ [((r % 128 + 128 : Nat) : Int)])) := o4.to (by rw [Int.natCast_add, Int.natCast_emod]; rfl); clear o4)
     go_roundw
     case rel =>
      obtain ⟨j, hj⟩ := HR.out.2.step hr
      exact ⟨j, r / 128, _, by go_num, ⟨H4.out, hj⟩, hbw.trans b4⟩
     case measure => simp [intOf]; omega
    ·have hr1 : ¬ (127 : Int) < (r : Int) := by omega
     have hr2 : ¬ (128 : Int) ≤ (r : Int) := by omega
     have hw1 : IntKind.u8.wrap (r : Int) = (r : Int) := by rw [IntKind.wrap_u8]; omega
     have hs : w.heap.size ≤ wr.heap.size := hbw.size
     have hf : f.length ≤ 1048576 := by have := HR.out.2.ln; omega
     go_wp2_with (at_builtin; refine append_byte wr rfl _ _ rfl w.heap.size u3 f rfl HR.out.1 (r : Int) rfl hf hs ?_; intro v' w4 o4 b4; have H4 : Hid (OwnB w4 w.heap.size v' (puL x)) := o4.to (by rw [HN.out]; exact (HR.out.2.last (by omega)).symm); clear o4)
     go_ret
     exact ⟨_, rfl, H4.out, hbw.trans b4⟩
 ·have HN : Hid (puL x = []) := by show puL x = []; rw [puL, if_neg hx]
  have hx1 : ¬ (-2000000000 ≤ x ∧ x ≤ 2000000000) := fun h => hx (decide_eq_true h)
  clear hx
  by_cases hn1 : x < -2000000000
  ·clear hx1
   go_enter Tryz.func88, Tryz.ntmps88
   go_wp2
   go_ret
   exact ⟨_, rfl, by rw [HN.out]; exact H0.out, B0⟩
  ·have hn2 : 2000000000 < x := by omega
   clear hx1
   go_enter Tryz.func88, Tryz.ntmps88
   go_wp2
   go_ret
   exact ⟨_, rfl, by rw [HN.out]; exact H0.out, B0⟩
end Go.Proofs.YtnfdnnmddadmkaaGreatDoor
