/- The walk of the model's StateOk: it answers what stOkB says. -/
import Derived.Test.YtkjeakklbgpdaaaGreatDoorCc0
import Derived.Test.YtkjeakklbgpdaaaGreatDoorCc7
import Derived.Deep.OwnRows
import Derived.Deep.RegionWith
import Derived.Test.YtkjeakklbgpdaaaGreatDoorCc8
import Derived.Maps.AppendAt
import Derived.Test.YtkjeakklbgpdaaaGreatDoorRows
import Derived.WalkKit
import Derived.WalkSpells
import Derived.WalkLawsBesides
import Derived.Handy
import Derived.Deep.QuietTactic
import Derived.BigQuiet
namespace Go.Proofs.YtkjeakklbgpdaaaGreatDoor
set_option maxRecDepth 100000
set_option maxHeartbeats 1000000
open Go.RowKit
structure I5 where
 o : Int
 r : Int
 a : Int
 b : Int
 n : Int
def InsAt (w : World) (b off len : Nat) (g : Nat → I5) : Prop := ∀ i, i < len →
 w.cell? ⟨b, off + i * 5, none⟩ = some (.int .i64 (g i).o) ∧ w.cell? ⟨b, off + i * 5 + 1, none⟩ = some (.int .i64 (g i).r) ∧ w.cell? ⟨b, off + i * 5 + 2, none⟩ = some (.int .i64 (g i).a) ∧ w.cell? ⟨b, off + i * 5 + 3, none⟩ = some (.int .i64 (g i).b) ∧ w.cell? ⟨b, off + i * 5 + 4, none⟩ = some (.int .i64 (g i).n)
theorem InsAt.below {w w' : World} {B b off len : Nat} {g : Nat → I5} (h : InsAt w b off len g) (hb : Below B w w') (hB : b < B) : InsAt w' b off len g := by
 intro i hi
 obtain ⟨h0, h1, h2, h3, h4⟩ := h i hi
 exact ⟨(hb.cell hB).trans h0, (hb.cell hB).trans h1, (hb.cell hB).trans h2, (hb.cell hB).trans h3, (hb.cell hB).trans h4⟩
def okAt (g : Nat → I5) (len procs : Int) (i : Nat) : Bool := insOkB (g i).o (g i).r (g i).a (g i).b (g i).n len procs
def allOk (g : Nat → I5) (len procs : Int) (k : Nat) : Bool := (List.range k).all (okAt g len procs)
def progOkB (g : Nat → I5) (len : Nat) (procs : Int) : Bool := allOk g len procs len && (inB len 1 30 && inB procs 1 4)
theorem allOk_succ (g : Nat → I5) (len procs : Int) (k : Nat) : allOk g len procs (k + 1) = (allOk g len procs k && okAt g len procs k) := by
 simp [allOk, List.range_succ]
theorem allOk_false (g : Nat → I5) (len procs : Int) {k m : Nat} (hk : k < m) (h : okAt g len procs k = false) : allOk g len procs m = false := by
 rw [allOk, List.all_eq_false]
 exact ⟨k, List.mem_range.2 hk, by simp [h]⟩
theorem specProgOk_any (b off len cap : Nat) (g : Nat → I5) (procs : Int) (w : World) (hlen : len ≤ maxLen) (hb : b < w.heap.size) (hc : InsAt w b off len g) :
  Calls Tryz.prog 35 #[.slice (some ⟨b, off, none⟩) len cap, .int .i64 procs] w fun e w' => e = .returned (.bool (progOkB g len procs)) ∧ Below w.heap.size w w' := by
 unfold maxLen at hlen
 have HC : Hid (InsAt w b off len g) := hc
 clear hc
 go_enter Tryz.func35, Tryz.ntmps35
 go_wp2_with fail
 go_loopw [5] (fun i wr => ∃ k : Nat, k ≤ len ∧ i = .int .i64 k ∧ Hid (allOk g len procs k = true) ∧ Below w.heap.size w wr) (fun i _ => len - (intOf i).toNat)
 case atStart => exact ⟨0, Nat.zero_le _, rfl, rfl, Below.refl _ _⟩
 case round =>
  obtain ⟨k, hk, rfl, HA, hbw⟩ := hrel
  by_cases hlt : k < len
  ·obtain ⟨c0, c1, c2, c3, c4⟩ := HC.out.below hbw hb k hlt
   rcases Bool.eq_false_or_eq_true (okAt g len procs k) with ho | ho
   ·have HO : Hid (okAt g len procs k = true) := ho
    have ho' : insOkB (g k).o (g k).r (g k).a (g k).b (g k).n len procs = true := ho
    clear ho
    go_wp2_with (go_at_call 80; refine (specInsOk_any _ _ _ _ _ _ _ _).mono ?_; rintro e w1 ⟨rfl, hb1⟩)
    go_roundw
    case rel => exact ⟨k + 1, by omega, by go_num, by rw [Hid, allOk_succ, HA.out, HO.out]; rfl, hbw.trans (hb1.mono hbw.size)⟩
    case measure => simp [intOf]; omega
   ·have HO : Hid (okAt g len procs k = false) := ho
    have ho' : insOkB (g k).o (g k).r (g k).a (g k).b (g k).n len procs = false := ho
    clear ho
    go_wp2_with (go_at_call 80; refine (specInsOk_any _ _ _ _ _ _ _ _).mono ?_; rintro e w1 ⟨rfl, hb1⟩)
    go_ret
    exact ⟨ret_bool (by rw [progOkB, allOk_false g len procs hlt HO.out]; rfl), hbw.trans (hb1.mono hbw.size)⟩
  ·have hkl : k = len := by omega
   have HP : Hid (progOkB g len procs = (inB len 1 30 && inB procs 1 4)) := by
    have hA := HA.out
    rw [hkl] at hA
    rw [Hid, progOkB, hA]; rfl
   clear HA hkl
   rcases Bool.eq_false_or_eq_true (inB len 1 30) with t0 | t0
   all_goals
    go_wp2_with (go_at_call 34; refine (l1In_any _ _ _ _).mono ?_; rintro e w' ⟨rfl, rfl⟩)
    go_ret
    exact ⟨ret_bool (by rw [HP.out, t0] <;> rfl), hbw⟩
theorem implProgOk_any (b off len cap : Nat) (g : Nat → I5) (procs : Int) (w : World) (hlen : len ≤ maxLen) (hb : b < w.heap.size) (hc : InsAt w b off len g) :
  Calls Tryz.prog 89 #[.slice (some ⟨b, off, none⟩) len cap, .int .i64 procs] w fun e w' => e = .returned (.bool (progOkB g len procs)) ∧ Below w.heap.size w w' := by
 unfold maxLen at hlen
 have HC : Hid (InsAt w b off len g) := hc
 clear hc
 by_cases hr : 1 ≤ len ∧ len ≤ 30
 case neg =>
  have hv : progOkB g len procs = false := by
   rw [progOkB, show inB len 1 30 = false from by simp [inB]; omega]; simp
  rw [hv]
  clear hv
  by_cases h1 : len < 1
  ·have h1' : (len : Int) < 1 := by omega
   go_enter Tryz.func89, Tryz.ntmps89
   go_wp2
   go_ret
   exact ⟨rfl, Below.refl _ _⟩
  ·have h1' : ¬ (len : Int) < 1 := by omega
   have h2' : (30 : Int) < len := by omega
   go_enter Tryz.func89, Tryz.ntmps89
   go_wp2
   go_ret
   exact ⟨rfl, Below.refl _ _⟩
 case pos =>
 obtain ⟨r1, r2⟩ := hr
 have h1' : ¬ (len : Int) < 1 := by omega
 have h2' : ¬ (30 : Int) < len := by omega
 go_enter Tryz.func89, Tryz.ntmps89
 go_wp2_with fail
 go_loopw [17] (fun i wr => ∃ k : Nat, k ≤ len ∧ i = .int .i64 k ∧ Hid (allOk g len procs k = true) ∧ Below w.heap.size w wr) (fun i _ => len - (intOf i).toNat)
 case atStart => exact ⟨0, Nat.zero_le _, rfl, rfl, Below.refl _ _⟩
 case round =>
  obtain ⟨k, hk, rfl, HA, hbw⟩ := hrel
  have hs := hbw.size
  by_cases hlt : k < len
  ·obtain ⟨c0, c1, c2, c3, c4⟩ := HC.out.below hbw hb k hlt
   rcases Bool.eq_false_or_eq_true (okAt g len procs k) with ho | ho
   ·have HO : Hid (okAt g len procs k = true) := ho
    have ho' : insOkB (g k).o (g k).r (g k).a (g k).b (g k).n len procs = true := ho
    clear ho
    go_wp2_with (go_at_call 124; refine (implInsOk_any _ _ _ _ _ _ _ _).mono ?_; rintro e w1 ⟨rfl, hb1⟩)
    go_roundw
    case rel => exact ⟨k + 1, by omega, by go_num, by rw [Hid, allOk_succ, HA.out, HO.out]; rfl, (hbw.alloc hs _).trans (hb1.mono (by simp; omega))⟩
    case measure => simp [intOf]; omega
   ·have HO : Hid (okAt g len procs k = false) := ho
    have ho' : insOkB (g k).o (g k).r (g k).a (g k).b (g k).n len procs = false := ho
    clear ho
    go_wp2_with (go_at_call 124; refine (implInsOk_any _ _ _ _ _ _ _ _).mono ?_; rintro e w1 ⟨rfl, hb1⟩)
    go_ret
    exact ⟨ret_bool (by rw [progOkB, allOk_false g len procs hlt HO.out]; rfl), (hbw.alloc hs _).trans (hb1.mono (by simp; omega))⟩
  ·have hkl : k = len := by omega
   have h30 : inB len 1 30 = true := by simp [inB]; omega
   have HP : Hid (progOkB g len procs = true) := by
    have hA := HA.out
    rw [hkl] at hA
    have hp : inB procs 1 4 = true := by
     have h0 : okAt g len procs 0 = true := by
      have := (List.all_eq_true.1 (show (List.range len).all (okAt g len procs) = true from hA)) 0 (List.mem_range.2 (by omega))
      exact this
     simp only [okAt, insOkB, Bool.and_eq_true] at h0
     exact h0.1.2
    rw [Hid, progOkB, hA, h30, hp]; rfl
   clear HA hkl h30
   go_wp2
   go_ret
   exact ⟨ret_bool HP.out.symm, hbw⟩
open Go.Deep
theorem infoIns : (Tryz.prog.info? 95).map (fun i => (i.zero, i.size, i.bytes)) = some (some (insV 0 0 0 0 0), 5, 40) := by kernel_rfl
theorem run_make_ins (n : Nat) (hn : n ≤ 1048576) (w : World) :
  (Instr.makeSlice 56 (.int .i64 (n : Int)) (.int .i64 (n : Int))).run Tryz.prog w = .ok (.slice (some ⟨w.heap.size, 0, none⟩) n n) (w.alloc (.cells (madeCells (insV 0 0 0 0 0).cells (n * 5)) 95)) := by
 have hinfo := infoIns
 cases hi : Tryz.prog.info? 95 with
 | none => rw [hi] at hinfo; cases hinfo
 | some i =>
  rw [hi] at hinfo
  simp only [Option.map_some, Option.some.injEq, Prod.mk.injEq] at hinfo
  obtain ⟨hz, hs, hb⟩ := hinfo
  have h := run_make (P := Tryz.prog) w 56 95 i _ Tryz.underlying56 hi hz .i64 .i64 (n : Int) (n : Int) (by omega) (Int.le_refl _) (by rw [hb]; omega) (by omega)
  rw [hs] at h
  simpa using h
theorem madeIns_row (w : World) (n : Nat) : (w.alloc (.cells (madeCells (insV 0 0 0 0 0).cells (n * 5)) 95)).rowIs w.heap.size 95 (n * 5) (fun _ => .int .i64 0) := by
 refine ⟨_, blk_alloc_new _ _, size_madeCells _ _, fun i hi => ?_⟩
 have h5 : i % 5 < 5 := Nat.mod_lt _ (by omega)
 have : ∀ j, j < 5 → (#[Value.int .i64 0, .int .i64 0, .int .i64 0, .int .i64 0, .int .i64 0] : Array Value)[j]! = .int .i64 0 := by
  intro j hj
  match j, hj with
  | 0, _ => rfl
  | 1, _ => rfl
  | 2, _ => rfl
  | 3, _ => rfl
  | 4, _ => rfl
 simp only [madeCells, Value.cells]
 rw [Array.getElem?_map, Array.getElem?_range, if_pos hi]
 exact congrArg some (this (i % 5) h5)
def Filled (f : Nat → Value) (g : Nat → I5) (k : Nat) : Prop := ∀ i, i < k →
 f (i * 5) = .int .i64 (g i).o ∧ f (i * 5 + 1) = .int .i64 (g i).r ∧ f (i * 5 + 2) = .int .i64 (g i).a ∧ f (i * 5 + 3) = .int .i64 (g i).b ∧ f (i * 5 + 4) = .int .i64 (g i).n
theorem Filled.at {w : World} {b : Nat} {t : TypeId} {len k : Nat} {f : Nat → Value} {g : Nat → I5} (h : Filled f g k) (hr : w.rowIs b t (len * 5) f) (hk : k ≤ len) : InsAt w b 0 k g := by
 intro i hi
 obtain ⟨h0, h1, h2, h3, h4⟩ := h i hi
 refine ⟨?_, ?_, ?_, ?_, ?_⟩
 ·rw [hr.cell (by omega), Nat.zero_add, h0]
 ·rw [hr.cell (by omega), Nat.zero_add, h1]
 ·rw [hr.cell (by omega), Nat.zero_add, h2]
 ·rw [hr.cell (by omega), Nat.zero_add, h3]
 ·rw [hr.cell (by omega), Nat.zero_add, h4]
theorem Filled.step {w : World} {b : Nat} {t : TypeId} {len k : Nat} {f : Nat → Value} {g : Nat → I5} (hr : w.rowIs b t (len * 5) f) (h : Filled f g k) :
  ∃ f', (((((w.setCell ⟨b, k * 5, none⟩ (.int .i64 (g k).o)).setCell ⟨b, k * 5 + 1, none⟩ (.int .i64 (g k).r)).setCell ⟨b, k * 5 + 2, none⟩ (.int .i64 (g k).a)).setCell ⟨b, k * 5 + 3, none⟩ (.int .i64 (g k).b)).setCell ⟨b, k * 5 + 4, none⟩ (.int .i64 (g k).n)).rowIs b t (len * 5) f' ∧ Filled f' g (k + 1) := by
 refine ⟨_, ((((hr.set _ _).set _ _).set _ _).set _ _).set _ _, fun i hi => ?_⟩
 by_cases hik : i = k
 ·subst hik
  simp
 ·have hlt : i < k := by omega
  obtain ⟨h0, h1, h2, h3, h4⟩ := h i hlt
  refine ⟨?_, ?_, ?_, ?_, ?_⟩
  ·rw [if_neg (by omega), if_neg (by omega), if_neg (by omega), if_neg (by omega), if_neg (by omega)]; exact h0
  ·rw [if_neg (by omega), if_neg (by omega), if_neg (by omega), if_neg (by omega), if_neg (by omega)]; exact h1
  ·rw [if_neg (by omega), if_neg (by omega), if_neg (by omega), if_neg (by omega), if_neg (by omega)]; exact h2
  ·rw [if_neg (by omega), if_neg (by omega), if_neg (by omega), if_neg (by omega), if_neg (by omega)]; exact h3
  ·rw [if_neg (by omega), if_neg (by omega), if_neg (by omega), if_neg (by omega), if_neg (by omega)]; exact h4
theorem eqIns_same (op r a b n : Int) (w : World) :
  Calls Tryz.prog 128 #[insV op r a b n, insV op r a b n] w fun e w' => e = .returned (.bool true) ∧ Below w.heap.size w w' := by
 go_enter Tryz.func128, Tryz.ntmps128
 go_wp2
 go_ret
 exact ⟨rfl, by go_grown⟩
theorem eqInsS_same (b1 b2 len c1 c2 : Nat) (g : Nat → I5) (w : World) (hlen : len ≤ 1048576) (hb1 : b1 < w.heap.size) (hb2 : b2 < w.heap.size) (hc1 : InsAt w b1 0 len g) (hc2 : InsAt w b2 0 len g) :
  Calls Tryz.prog 101 #[.slice (some ⟨b1, 0, none⟩) len c1, .slice (some ⟨b2, 0, none⟩) len c2] w fun e w' => e = .returned (.bool true) ∧ Below w.heap.size w w' := by
 have hl' : (len : Int) ≤ 1048576 := by omega
 have HC1 : Hid (InsAt w b1 0 len g) := hc1
 have HC2 : Hid (InsAt w b2 0 len g) := hc2
 clear hc1 hc2
 go_enter Tryz.func101, Tryz.ntmps101
 go_wp2_with fail
 go_loopw [5] (fun i wr => ∃ k : Nat, k ≤ len ∧ i = .int .i64 k ∧ Below w.heap.size w wr) (fun i _ => len - (intOf i).toNat)
 case atStart => exact ⟨0, Nat.zero_le _, rfl, Below.refl _ _⟩
 case round =>
  obtain ⟨k, hk, rfl, hbw⟩ := hrel
  have hs := hbw.size
  by_cases hlt : k < len
  ·obtain ⟨c0, c1, c2, c3, c4⟩ := HC1.out.below hbw hb1 k hlt
   obtain ⟨d0, d1, d2, d3, d4⟩ := HC2.out.below hbw hb2 k hlt
   have hlt' : (k : Int) < (len : Int) := by omega
   rw [Nat.zero_add] at c0 c1 c2 c3 c4 d0 d1 d2 d3 d4
   go_wp2_with fail
   first | (go_region_with (go_at_call 128; refine (eqIns_same _ _ _ _ _ _).mono ?_; rintro e w1 ⟨rfl, hq1⟩)) | fail
   all_goals
    go_wp2
    go_roundw
    case rel => exact ⟨k + 1, by omega, by go_num, hbw.drew.trans (hq1.mono hs)⟩
    case measure => simp [intOf]; omega
  ·go_wp2
   go_ret
   exact ⟨rfl, hbw⟩
theorem info_int : ∃ i, Tryz.prog.info? 3 = some i ∧ i.zero = some (.int .i64 0) ∧ i.size = 1 ∧ i.bytes = 8 := by
 have hinfo := infoInt
 cases hi : Tryz.prog.info? 3 with
 | none => rw [hi] at hinfo; cases hinfo
 | some i =>
  rw [hi] at hinfo
  simp only [Option.map_some, Option.some.injEq, Prod.mk.injEq] at hinfo
  exact ⟨i, rfl, hinfo⟩
theorem run_append_none (w : World) (ty : TypeId) (B c : Nat) (v : Value) (xs : List Int) (h : OwnI w B v xs) :
  (Builtin.append_ #[39, 39] ty #[v, .slice none 0 c]).run Tryz.prog w = .ok v w := by
 obtain ⟨i, hi, _⟩ := info_int
 rcases h.2 with ⟨rfl, _⟩ | ⟨g, cap, cur, rfl, _, _, hnc, _⟩
 ·simp [Builtin.append_, run_underlying Tryz.underlying39, sizeOf, typeInfo, hi, Builtin.lenOf, Builtin.firstCells]
 ·simp [Builtin.append_, run_underlying Tryz.underlying39, sizeOf, typeInfo, hi, Builtin.lenOf, Builtin.firstCells, hnc, storeCells]
theorem run_append_ints (w : World) (ty : TypeId) (B c : Nat) (v : Value) (a0 : Option Addr) (xs ys : List Int) (h : OwnI w B v xs) (hy : Sl w a0 ys) (hn : xs.length + ys.length ≤ 4000000) (hB : B ≤ w.heap.size) :
  ∃ v' w', (Builtin.append_ #[39, 39] ty #[v, .slice a0 ys.length c]).run Tryz.prog w = .ok v' w' ∧ OwnI w' B v' (xs ++ ys) ∧ w.grownBy w' v.ownBlock ∧ (v'.ownBlock = v.ownBlock ∨ v'.ownBlock = some w.heap.size) := by
 obtain ⟨i, hi, hz, hs, hb⟩ := info_int
 cases a0 with
 | none =>
  have hy0 : ys = [] := by
   rcases hy with h0 | ⟨b, off, e, _⟩
   ·exact h0
   ·cases e
  subst hy0
  exact ⟨v, w, run_append_none w ty B c v xs h, by simpa using h, World.grownBy.refl _ _, .inl rfl⟩
 | some a =>
  have hnews : ∀ j u, (ys.map (Value.int .i64))[j]? = some u → w.cell? (a.add j) = some u := by
   rcases hy with h0 | ⟨b, off, e, hlt, hc⟩
   ·subst h0; intro j u hj; simp at hj
   ·cases e
    exact src_of_sl (.inr ⟨b, off, rfl, hlt, hc⟩) (Below.refl _ _)
  obtain ⟨v', w', h1, h2, h3, _, h5⟩ := run_append_own_at (P := Tryz.prog) w B 39 ty 3 i (.int .i64 0) 1 8 Tryz.underlying39 hi hz hs hb rfl (by decide) v xs.length (xs.map (Value.int .i64)) h a ys.length c (ys.map (Value.int .i64)) (by simp) hnews (one_ints ys) (by unfold maxLen; omega) (by omega) hB
  refine ⟨v', w', h1, ?_, h3, h5⟩
  unfold OwnI
  rw [List.length_append, List.map_append]
  exact h2
theorem wpList_append_ints {ops : Array Oper} {rest : List Oper} {op : Oper} {act : Act} {Q : Exit → Act → World → Prop} (w : World) (hgd : op.guard = none) (s x : Operand)
  (ho : op.op = .call { callee := .builtin .append, args := #[s, x], argTypes := #[39, 39] })
  (B c : Nat) (v : Value) (a0 : Option Addr) (xs ys : List Int) (hs : act.eval s = v) (hx : act.eval x = .slice a0 ys.length c) (hv : OwnI w B v xs) (hy : Sl w a0 ys) (hn : xs.length + ys.length ≤ 4000000) (hB : B ≤ w.heap.size)
  (h : ∀ v' w', OwnI w' B v' (xs ++ ys) → w.grownBy w' v.ownBlock → (v'.ownBlock = v.ownBlock ∨ v'.ownBlock = some w.heap.size) → wpList Tryz.prog ops Q rest (act.put op.dst v') w') :
  wpList Tryz.prog ops Q (op :: rest) act w := by
 obtain ⟨v', w', h1, h2, h3, h4⟩ := run_append_ints w op.type B c v a0 xs ys hv hy hn hB
 refine wpList_plain hgd fun K hK => ?_
 unfold Oper.wp execOp
 simp only [ho, resolve, invoke, builtin, Sem.run_bind, Sem.run_pure, Result.andThen_ok, List.map_toArray, List.map_cons, List.map_nil, hs, hx, h1]
 exact hK _ _ (h v' w' h2 h3 h4)
theorem own_empty (w : World) : OwnI (w.alloc (.cells #[] 3)) w.heap.size (.slice (some ⟨w.heap.size, 0, none⟩) 0 0) [] :=
 World.ownsRow_made (base := w.heap.size) (e := 3) (size := 1) w #[] 0 (Nat.le_refl _) (by unfold maxLen; omega) rfl
theorem own_emptyN (w : World) {N : Nat} (h : N = w.heap.size) : OwnI (w.alloc (.cells #[] 3)) N (.slice (some ⟨N, 0, none⟩) 0 0) [] := by
 subst h
 exact own_empty w
theorem wpList_append_new {ops : Array Oper} {rest : List Oper} {op : Oper} {act : Act} {Q : Exit → Act → World → Prop} (w : World) {N : Nat} (hN : N = w.heap.size) (hgd : op.guard = none) (s x : Operand)
  (ho : op.op = .call { callee := .builtin .append, args := #[s, x], argTypes := #[39, 39] })
  (c : Nat) (a0 : Option Addr) (ys : List Int) (hs : act.eval s = .slice (some ⟨N, 0, none⟩) 0 0) (hx : act.eval x = .slice a0 ys.length c) (hy : Sl w a0 ys) (hn : ys.length ≤ 1048576)
  (h : ∀ v' w', OwnI w' w.heap.size v' ys → Below w.heap.size w w' → wpList Tryz.prog ops Q rest (act.put op.dst v') w') :
  wpList Tryz.prog ops Q (op :: rest) act (w.alloc (.cells #[] 3)) := by
 subst hN
 have hb : Below w.heap.size w (w.alloc (.cells #[] 3)) := (Below.refl _ _).alloc (Nat.le_refl _) _
 refine wpList_append_ints _ hgd s x ho w.heap.size c (.slice (some ⟨w.heap.size, 0, none⟩) 0 0) a0 [] ys hs hx (own_empty w) (hy.below hb) (by simp; omega) (by simp) ?_
 intro v' w' o g _
 exact h v' w' (by simpa using o) (hb.grown g (by simp) (fun k hk => by cases hk; exact Nat.le_refl _))
def STOP (p : Prop) : Prop := p
theorem append_stop {P : Program} {ops : Array Oper} {rest : List Oper} {op : Oper} {act : Act} {Q : Exit → Act → World → Prop} {w : World} {a : Array Operand} {t : Array TypeId} (_ : op.op = .call { callee := .builtin .append, args := a, argTypes := t }) (h : STOP (wpList P ops Q (op :: rest) act w)) : wpList P ops Q (op :: rest) act w := h
theorem clone_any (a0 : Option Addr) (cap : Nat) (xs : List Int) (w : World) (hlen : xs.length ≤ 1048576) (h : Sl w a0 xs) :
  Calls Tryz.prog 163 #[.slice a0 xs.length cap] w fun e w' => ∃ v, e = .returned v ∧ OwnI w' w.heap.size v xs ∧ Below w.heap.size w w' := by
 cases a0 with
 | none =>
  have h0 : xs = [] := by
   rcases h with h0 | ⟨b, off, e, _⟩
   ·exact h0
   ·cases e
  subst h0
  have he : ∀ wx : World, (binOp .eql 39 (.slice none 0 cap) (.slice none 0 0)).run Tryz.prog wx = .ok (.bool true) wx := fun wx => by kernel_rfl
  go_enter Tryz.func163, Tryz.ntmps163
  go_wp2
  go_ret
  exact ⟨_, rfl, World.ownsRow_nil _ _ _ _, Below.refl _ _⟩
 | some a =>
  have HS : Hid (Sl w (some a) xs) := h
  have he : ∀ wx : World, (binOp .eql 39 (.slice (some a) xs.length cap) (.slice none 0 0)).run Tryz.prog wx = .ok (.bool false) wx := fun wx => by kernel_rfl
  clear h
  go_enter Tryz.func163, Tryz.ntmps163
  go_wp2_with (at_builtin; refine wpList_append_ints _ rfl _ _ rfl w.heap.size cap (.slice (some ⟨w.heap.size, 0, none⟩) 0 0) (some a) [] xs rfl rfl (own_empty w) (HS.out.below ((Below.refl _ _).alloc (Nat.le_refl _) _)) (by simp; omega) (by simp) ?_; intro v' w1 o1 g1 _; have HF : Hid (OwnI w1 w.heap.size v' xs ∧ Below w.heap.size w w1) := ⟨by simpa using o1, ((Below.refl _ _).alloc (Nat.le_refl _) _).grown g1 (by simp) (fun k hk => by cases hk; exact Nat.le_refl _)⟩; clear o1 g1)
  go_ret
  exact ⟨_, rfl, HF.out⟩
theorem copyState_any (p code : Int) (ra oa : Option Addr) (rc oc : Nat) (rs os : List Int) (w : World) (hr : rs.length ≤ 1048576) (ho : os.length ≤ 1048576) (h1 : Sl w ra rs) (h2 : Sl w oa os) :
  Calls Tryz.prog 155 #[stV p ra rs.length rc oa os.length oc code] w fun e w' => ∃ v, e = .returned v ∧ StOwn w' w.heap.size v p rs os code ∧ Below w.heap.size w w' := by
 have H1 : Hid (Sl w ra rs) := h1
 have H2 : Hid (Sl w oa os) := h2
 clear h1 h2
 go_enter Tryz.func155, Tryz.ntmps155
 go_wp2_with fail
 refine (clone_any ra rc rs _ hr (H1.out.below (by go_grown))).mono ?_
 rintro e w1 ⟨v1, rfl, o1, b1⟩
 have B1 : Hid (Below w.heap.size w w1) := below_up (by go_grown) b1 (by simp; omega)
 obtain ⟨hc1, hf1⟩ := bcell b1
 have y1 : w.heap.size + 1 < w1.heap.size := by have := b1.size; simp at this; omega
 have y0 : w.heap.size < w1.heap.size := by omega
 obtain ⟨ra1, rc1, rfl, _⟩ := o1.form
 have s0 : w1.cell? ⟨w.heap.size, 0, none⟩ = some (.int .i64 p) := by rw [hc1 _ _ (by simp; omega)]; simp
 have s1 : w1.cell? ⟨w.heap.size, 1, none⟩ = some (.slice ra rs.length rc) := by rw [hc1 _ _ (by simp; omega)]; simp
 have s2 : w1.cell? ⟨w.heap.size, 2, none⟩ = some (.slice oa os.length oc) := by rw [hc1 _ _ (by simp; omega)]; simp
 have s3 : w1.cell? ⟨w.heap.size, 3, none⟩ = some (.int .i64 code) := by rw [hc1 _ _ (by simp; omega)]; simp
 have L1 : Hid (∀ k, (Value.slice ra1 rs.length rc1).ownBlock = some k → w.heap.size + 1 < k ∧ k < w1.heap.size) := fun k hk => by have := o1.lt k hk; simp at this; omega
 have BS : Hid (Below w.heap.size w (w1.setCell ⟨w.heap.size, 1, none⟩ (.slice ra1 rs.length rc1))) := B1.out.setCell (by simp) _
 have O1 : Hid (OwnI (w1.setCell ⟨w.heap.size, 1, none⟩ (.slice ra1 rs.length rc1)) (w.heap.size + 1 + 1) (.slice ra1 rs.length rc1) rs) := by
  simp only [World.size_alloc] at o1
  exact o1.setBelow (by simp; omega) _
 clear o1 b1 B1
 go_wp2_with fail
 refine (clone_any oa oc os _ ho (H2.out.below BS.out)).mono ?_
 rintro e w2 ⟨v2, rfl, o2, b2⟩
 have B2 : Hid (Below w.heap.size w w2) := below_up BS.out b2 (by simp; omega)
 obtain ⟨hc2, hf2⟩ := bcell b2
 obtain ⟨oa2, oc2, rfl, _⟩ := o2.form
 have O1' : Hid (OwnI w2 (w.heap.size + 1 + 1) (.slice ra1 rs.length rc1) rs) := O1.out.below b2
 simp only [World.size_setCell] at o2
 have O2 : Hid (OwnI w2 w1.heap.size (.slice oa2 os.length oc2) os) := o2
 clear o2 b2 BS O1
 go_wp2
 refine bodyPost_ret (v := stV p ra1 rs.length rc1 oa2 os.length oc2 code) (by simp [results, Tryz.results155, go_sem, hc2, y1, hc1]) rfl ⟨_, rfl, ⟨_, _, rfl, ?_, ?_, ?_⟩, ?_⟩
 ·refine OwnI.mono (B := w.heap.size + 1 + 1) ?_ (by omega)
  repeat (refine OwnI.setBelow ?_ (by first | (simp; done) | (simp; omega)) _)
  exact O1'.out
 ·refine OwnI.mono (B := w1.heap.size) ?_ (by omega)
  repeat (refine OwnI.setBelow ?_ (by simpa using by omega) _)
  exact O2.out
 ·intro k hk hk'
  have h1 := L1.out k hk
  have h2 := O2.out.lt k hk'
  omega
 ·have := B2.out
  go_grown
theorem l2Copy_any (p code : Int) (ra oa : Option Addr) (rc oc : Nat) (rs os : List Int) (w : World) (hr : rs.length ≤ 1048576) (ho : os.length ≤ 1048576) (h1 : Sl w ra rs) (h2 : Sl w oa os) :
  Calls Tryz.prog 140 #[stV p ra rs.length rc oa os.length oc code] w fun e w' => ∃ v, e = .returned v ∧ StOwn w' w.heap.size v p rs os code ∧ Below w.heap.size w w' := by
 have H1 : Hid (Sl w ra rs) := h1
 have H2 : Hid (Sl w oa os) := h2
 clear h1 h2
 go_enter Tryz.func140, Tryz.ntmps140
 go_wp2_with (at_builtin; refine append_stop rfl ?_)
 unfold STOP
 refine wpList_append_new _ (N := w.heap.size + 1 + 1) (by simp) rfl _ _ rfl rc ra rs rfl rfl (H1.out.below (by go_grown)) hr ?_
 intro v1 w1 o1 b1
 have B1 : Hid (Below w.heap.size w w1) := below_up (by go_grown) b1 (by simp; omega)
 obtain ⟨hc1, hf1⟩ := bcell b1
 have y1 : w.heap.size + 1 < w1.heap.size := by have := b1.size; simp at this; omega
 have y0 : w.heap.size < w1.heap.size := by omega
 obtain ⟨ra1, rc1, rfl, _⟩ := o1.form
 have s0 : w1.cell? ⟨w.heap.size, 0, none⟩ = some (.int .i64 p) := by rw [hc1 _ _ (by simp; omega)]; simp
 have s1 : w1.cell? ⟨w.heap.size, 1, none⟩ = some (.slice ra rs.length rc) := by rw [hc1 _ _ (by simp; omega)]; simp
 have s2 : w1.cell? ⟨w.heap.size, 2, none⟩ = some (.slice oa os.length oc) := by rw [hc1 _ _ (by simp; omega)]; simp
 have s3 : w1.cell? ⟨w.heap.size, 3, none⟩ = some (.int .i64 code) := by rw [hc1 _ _ (by simp; omega)]; simp
 have L1 : Hid (∀ k, (Value.slice ra1 rs.length rc1).ownBlock = some k → w.heap.size + 1 < k ∧ k < w1.heap.size) := fun k hk => by have := o1.lt k hk; simp at this; omega
 have BS : Hid (Below w.heap.size w (w1.setCell ⟨w.heap.size, 1, none⟩ (.slice ra1 rs.length rc1))) := B1.out.setCell (by simp) _
 have O1 : Hid (OwnI (w1.setCell ⟨w.heap.size, 1, none⟩ (.slice ra1 rs.length rc1)) (w.heap.size + 1 + 1) (.slice ra1 rs.length rc1) rs) := by
  simp only [World.size_alloc] at o1
  exact o1.setBelow (by simp; omega) _
 clear o1 b1 B1
 go_wp2_with (at_builtin; refine append_stop rfl ?_)
 unfold STOP
 refine wpList_append_new (w1.setCell ⟨w.heap.size, 1, none⟩ (.slice ra1 rs.length rc1)) (N := w1.heap.size) (by simp) rfl _ _ rfl oc oa os rfl rfl (H2.out.below BS.out) ho ?_
 intro v2 w2 o2 b2
 have B2 : Hid (Below w.heap.size w w2) := below_up BS.out b2 (by simp; omega)
 obtain ⟨hc2, hf2⟩ := bcell b2
 obtain ⟨oa2, oc2, rfl, _⟩ := o2.form
 have O1' : Hid (OwnI w2 (w.heap.size + 1 + 1) (.slice ra1 rs.length rc1) rs) := O1.out.below b2
 simp only [World.size_setCell] at o2
 have O2 : Hid (OwnI w2 w1.heap.size (.slice oa2 os.length oc2) os) := o2
 clear o2 b2 BS O1
 go_wp2
 refine bodyPost_ret (v := stV p ra1 rs.length rc1 oa2 os.length oc2 code) (by simp [results, Tryz.results140, go_sem, hc2, y1, hc1]) rfl ⟨_, rfl, ⟨_, _, rfl, ?_, ?_, ?_⟩, ?_⟩
 ·refine OwnI.mono (B := w.heap.size + 1 + 1) ?_ (by omega)
  repeat (refine OwnI.setBelow ?_ (by first | (simp; done) | (simp; omega)) _)
  exact O1'.out
 ·refine OwnI.mono (B := w1.heap.size) ?_ (by omega)
  repeat (refine OwnI.setBelow ?_ (by simpa using by omega) _)
  exact O2.out
 ·intro k hk hk'
  have h1 := L1.out k hk
  have h2 := O2.out.lt k hk'
  omega
 ·have := B2.out
  go_grown
def BytesAt (w : World) (W0 : Nat) (a0 : Option Addr) (len : Nat) : Prop :=
 len = 0 ∨ ∃ b off, a0 = some ⟨b, off, none⟩ ∧ b < W0 ∧ ∀ j, j < len → ∃ z : Int, w.cell? ⟨b, off + j, none⟩ = some (.int .u8 z) ∧ 0 ≤ z ∧ z ≤ 255
structure Cur (w : World) (W0 c : Nat) (a0 : Option Addr) (len cap : Nat) : Prop where
 ex : ∃ (i : Nat) (h : Int), w.cell? ⟨c, 0, none⟩ = some (.slice a0 len cap) ∧ w.cell? ⟨c, 1, none⟩ = some (.int .i64 i) ∧ w.cell? ⟨c, 2, none⟩ = some (.int .i64 h)
 fr : ∀ o, w.frozen? ⟨c, o, none⟩ = false
 lt : c < w.heap.size
 ge : W0 ≤ c
 by' : BytesAt w W0 a0 len
 ln : len ≤ 1048576
theorem grown_drewN {w w' : World} {row : Option Nat} (h : w.grownBy w' row) (n : Nat) : w.grownBy (w'.drewN n) row := ⟨h.os, h.tape, h.output, h.size, h.block⟩
theorem grown_setCell {w w' : World} {row : Option Nat} (h : w.grownBy w' row) {p : Addr} (hp : row = some p.block ∨ w.heap.size ≤ p.block) (v : Value) : w.grownBy (w'.setCell p v) row :=
 ⟨h.os, h.tape, h.output, by simpa using h.size, fun k hk hne => by
  rw [Below.heap_setCell w' p v k (fun e => by
   subst e
   rcases hp with hp | hp
   ·exact hne hp.symm
   ·omega)]
  exact h.block k hk hne⟩
def IntsAt (w : World) (b len : Nat) (z : Nat → Int) : Prop := ∀ j, j < len → w.cell? ⟨b, j, none⟩ = some (.int .i64 (z j))
theorem inB_below (p : Int) (n : Nat) : inB p 0 ((n : Int) - 1) = belB p n := by
 rw [Bool.eq_iff_iff]; simp [inB, belB]; omega
end Go.Proofs.YtkjeakklbgpdaaaGreatDoor
