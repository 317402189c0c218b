/- A drawn program: some list of places in memory of its own; nothing else is written than the cursor. -/
import Derived.Test.YtcplnkhdclcgfaaGreatDoorGc0
import Derived.Test.YtcplnkhdclcgfaaGreatDoorGc7
import Derived.Test.YtcplnkhdclcgfaaGreatDoorGc8
import Derived.Maps.AppendAt
import Derived.Test.YtcplnkhdclcgfaaGreatDoorGc9
import Derived.Maps.Range
import Derived.Deep.Onto
import Derived.Deep.Slices
namespace Go.Proofs.YtcplnkhdclcgfaaGreatDoor
set_option maxRecDepth 100000
set_option maxHeartbeats 1000000
open Go.RowKit
structure I5 where
 o : Int
 r : Int
 a : Int
 b : Int
 n : Int
def InsAt (w : World) (b off len : Nat) (g : Nat → I5) : Prop := ∀ i, i < len →
 w.cell? ⟨b, off + i * 5, none⟩ = some (.int .i64 (g i).o) ∧ w.cell? ⟨b, off + i * 5 + 1, none⟩ = some (.int .i64 (g i).r) ∧ w.cell? ⟨b, off + i * 5 + 2, none⟩ = some (.int .i64 (g i).a) ∧ w.cell? ⟨b, off + i * 5 + 3, none⟩ = some (.int .i64 (g i).b) ∧ w.cell? ⟨b, off + i * 5 + 4, none⟩ = some (.int .i64 (g i).n)
theorem InsAt.below {w w' : World} {B b off len : Nat} {g : Nat → I5} (h : InsAt w b off len g) (hb : Below B w w') (hB : b < B) : InsAt w' b off len g := by
 intro i hi
 obtain ⟨h0, h1, h2, h3, h4⟩ := h i hi
 exact ⟨(hb.cell hB).trans h0, (hb.cell hB).trans h1, (hb.cell hB).trans h2, (hb.cell hB).trans h3, (hb.cell hB).trans h4⟩
def okAt (g : Nat → I5) (len procs : Int) (i : Nat) : Bool := insOkB (g i).o (g i).r (g i).a (g i).b (g i).n len procs
def allOk (g : Nat → I5) (len procs : Int) (k : Nat) : Bool := (List.range k).all (okAt g len procs)
def progOkB (g : Nat → I5) (len : Nat) (procs : Int) : Bool := allOk g len procs len && (inB len 1 30 && inB procs 1 4)
theorem allOk_succ (g : Nat → I5) (len procs : Int) (k : Nat) : allOk g len procs (k + 1) = (allOk g len procs k && okAt g len procs k) := by
 simp [allOk, List.range_succ]
theorem allOk_false (g : Nat → I5) (len procs : Int) {k m : Nat} (hk : k < m) (h : okAt g len procs k = false) : allOk g len procs m = false := by
 rw [allOk, List.all_eq_false]
 exact ⟨k, List.mem_range.2 hk, by simp [h]⟩
theorem specProgOk_any (b off len cap : Nat) (g : Nat → I5) (procs : Int) (w : World) (hlen : len ≤ maxLen) (hb : b < w.heap.size) (hc : InsAt w b off len g) :
  Calls Tryz.prog 112 #[.slice (some ⟨b, off, none⟩) len cap, .int .i64 procs] w fun e w' => e = .returned (.bool (progOkB g len procs)) ∧ Below w.heap.size w w' := by
 unfold maxLen at hlen
 have HC : Hid (InsAt w b off len g) := hc
 clear hc
 go_enter Tryz.func112, Tryz.ntmps112
 go_wp2_with fail
 go_loopw [5] (fun i wr => ∃ k : Nat, k ≤ len ∧ i = .int .i64 k ∧ Hid (allOk g len procs k = true) ∧ Below w.heap.size w wr) (fun i _ => len - (intOf i).toNat)
 case atStart => exact ⟨0, Nat.zero_le _, rfl, rfl, Below.refl _ _⟩
 case round =>
  obtain ⟨k, hk, rfl, HA, hbw⟩ := hrel
  by_cases hlt : k < len
  ·obtain ⟨c0, c1, c2, c3, c4⟩ := HC.out.below hbw hb k hlt
   rcases Bool.eq_false_or_eq_true (okAt g len procs k) with ho | ho
   ·have HO : Hid (okAt g len procs k = true) := ho
    have ho' : insOkB (g k).o (g k).r (g k).a (g k).b (g k).n len procs = true := ho
    clear ho
    go_wp2_with (go_at_call 191; refine (specInsOk_any _ _ _ _ _ _ _ _).mono ?_; rintro e w1 ⟨rfl, hb1⟩)
    go_roundw
    case rel => exact ⟨k + 1, by omega, by go_num, by rw [Hid, allOk_succ, HA.out, HO.out]; rfl, hbw.trans (hb1.mono hbw.size)⟩
    case measure => simp [intOf]; omega
   ·have HO : Hid (okAt g len procs k = false) := ho
    have ho' : insOkB (g k).o (g k).r (g k).a (g k).b (g k).n len procs = false := ho
    clear ho
    go_wp2_with (go_at_call 191; refine (specInsOk_any _ _ _ _ _ _ _ _).mono ?_; rintro e w1 ⟨rfl, hb1⟩)
    go_ret
    exact ⟨ret_bool (by rw [progOkB, allOk_false g len procs hlt HO.out]; rfl), hbw.trans (hb1.mono hbw.size)⟩
  ·have hkl : k = len := by omega
   have HP : Hid (progOkB g len procs = (inB len 1 30 && inB procs 1 4)) := by
    have hA := HA.out
    rw [hkl] at hA
    rw [Hid, progOkB, hA]; rfl
   clear HA hkl
   rcases Bool.eq_false_or_eq_true (inB len 1 30) with t0 | t0
   all_goals
    go_wp2_with (go_at_call 83; refine (l1In_any _ _ _ _).mono ?_; rintro e w' ⟨rfl, rfl⟩)
    go_ret
    exact ⟨ret_bool (by rw [HP.out, t0] <;> rfl), hbw⟩
theorem implProgOk_any (b off len cap : Nat) (g : Nat → I5) (procs : Int) (w : World) (hlen : len ≤ maxLen) (hb : b < w.heap.size) (hc : InsAt w b off len g) :
  Calls Tryz.prog 123 #[.slice (some ⟨b, off, none⟩) len cap, .int .i64 procs] w fun e w' => e = .returned (.bool (progOkB g len procs)) ∧ Below w.heap.size w w' := by
 unfold maxLen at hlen
 have HC : Hid (InsAt w b off len g) := hc
 clear hc
 by_cases hr : 1 ≤ len ∧ len ≤ 30
 case neg =>
  have hv : progOkB g len procs = false := by
   rw [progOkB, show inB len 1 30 = false from by simp [inB]; omega]; simp
  rw [hv]
  clear hv
  by_cases h1 : len < 1
  ·have h1' : (len : Int) < 1 := by omega
   go_enter Tryz.func123, Tryz.ntmps123
   go_wp2
   go_ret
   exact ⟨rfl, Below.refl _ _⟩
  ·have h1' : ¬ (len : Int) < 1 := by omega
   have h2' : (30 : Int) < len := by omega
   go_enter Tryz.func123, Tryz.ntmps123
   go_wp2
   go_ret
   exact ⟨rfl, Below.refl _ _⟩
 case pos =>
 obtain ⟨r1, r2⟩ := hr
 have h1' : ¬ (len : Int) < 1 := by omega
 have h2' : ¬ (30 : Int) < len := by omega
 go_enter Tryz.func123, Tryz.ntmps123
 go_wp2_with fail
 go_loopw [17] (fun i wr => ∃ k : Nat, k ≤ len ∧ i = .int .i64 k ∧ Hid (allOk g len procs k = true) ∧ Below w.heap.size w wr) (fun i _ => len - (intOf i).toNat)
 case atStart => exact ⟨0, Nat.zero_le _, rfl, rfl, Below.refl _ _⟩
 case round =>
  obtain ⟨k, hk, rfl, HA, hbw⟩ := hrel
  have hs := hbw.size
  by_cases hlt : k < len
  ·obtain ⟨c0, c1, c2, c3, c4⟩ := HC.out.below hbw hb k hlt
   rcases Bool.eq_false_or_eq_true (okAt g len procs k) with ho | ho
   ·have HO : Hid (okAt g len procs k = true) := ho
    have ho' : insOkB (g k).o (g k).r (g k).a (g k).b (g k).n len procs = true := ho
    clear ho
    go_wp2_with (go_at_call 198; refine (implInsOk_any _ _ _ _ _ _ _ _).mono ?_; rintro e w1 ⟨rfl, hb1⟩)
    go_roundw
    case rel => exact ⟨k + 1, by omega, by go_num, by rw [Hid, allOk_succ, HA.out, HO.out]; rfl, (hbw.alloc hs _).trans (hb1.mono (by simp; omega))⟩
    case measure => simp [intOf]; omega
   ·have HO : Hid (okAt g len procs k = false) := ho
    have ho' : insOkB (g k).o (g k).r (g k).a (g k).b (g k).n len procs = false := ho
    clear ho
    go_wp2_with (go_at_call 198; refine (implInsOk_any _ _ _ _ _ _ _ _).mono ?_; rintro e w1 ⟨rfl, hb1⟩)
    go_ret
    exact ⟨ret_bool (by rw [progOkB, allOk_false g len procs hlt HO.out]; rfl), (hbw.alloc hs _).trans (hb1.mono (by simp; omega))⟩
  ·have hkl : k = len := by omega
   have h30 : inB len 1 30 = true := by simp [inB]; omega
   have HP : Hid (progOkB g len procs = true) := by
    have hA := HA.out
    rw [hkl] at hA
    have hp : inB procs 1 4 = true := by
     have h0 : okAt g len procs 0 = true := by
      have := (List.all_eq_true.1 (show (List.range len).all (okAt g len procs) = true from hA)) 0 (List.mem_range.2 (by omega))
      exact this
     simp only [okAt, insOkB, Bool.and_eq_true] at h0
     exact h0.1.2
    rw [Hid, progOkB, hA, h30, hp]; rfl
   clear HA hkl h30
   go_wp2
   go_ret
   exact ⟨ret_bool HP.out.symm, hbw⟩
theorem info_int : ∃ i, Tryz.prog.info? 3 = some i ∧ i.zero = some (.int .i64 0) ∧ i.size = 1 ∧ i.bytes = 8 := by
 have hinfo := infoInt
 cases hi : Tryz.prog.info? 3 with
 | none => rw [hi] at hinfo; cases hinfo
 | some i =>
  rw [hi] at hinfo
  simp only [Option.map_some, Option.some.injEq, Prod.mk.injEq] at hinfo
  exact ⟨i, rfl, hinfo⟩
theorem run_append_none (w : World) (ty : TypeId) (B c : Nat) (v : Value) (xs : List Int) (h : OwnI w B v xs) :
  (Builtin.append_ #[37, 37] ty #[v, .slice none 0 c]).run Tryz.prog w = .ok v w := by
 obtain ⟨i, hi, _⟩ := info_int
 rcases h.2 with ⟨rfl, _⟩ | ⟨g, cap, cur, rfl, _, _, hnc, _⟩
 ·simp [Builtin.append_, run_underlying Tryz.underlying37, sizeOf, typeInfo, hi, Builtin.lenOf, Builtin.firstCells]
 ·simp [Builtin.append_, run_underlying Tryz.underlying37, sizeOf, typeInfo, hi, Builtin.lenOf, Builtin.firstCells, hnc, storeCells]
theorem run_append_ints (w : World) (ty : TypeId) (B c : Nat) (v : Value) (a0 : Option Addr) (xs ys : List Int) (h : OwnI w B v xs) (hy : Sl w a0 ys) (hn : xs.length + ys.length ≤ 4000000) (hB : B ≤ w.heap.size) :
  ∃ v' w', (Builtin.append_ #[37, 37] ty #[v, .slice a0 ys.length c]).run Tryz.prog w = .ok v' w' ∧ OwnI w' B v' (xs ++ ys) ∧ w.grownBy w' v.ownBlock ∧ (v'.ownBlock = v.ownBlock ∨ v'.ownBlock = some w.heap.size) := by
 obtain ⟨i, hi, hz, hs, hb⟩ := info_int
 cases a0 with
 | none =>
  have hy0 : ys = [] := by
   rcases hy with h0 | ⟨b, off, e, _⟩
   ·exact h0
   ·cases e
  subst hy0
  exact ⟨v, w, run_append_none w ty B c v xs h, by simpa using h, World.grownBy.refl _ _, .inl rfl⟩
 | some a =>
  have hnews : ∀ j u, (ys.map (Value.int .i64))[j]? = some u → w.cell? (a.add j) = some u := by
   rcases hy with h0 | ⟨b, off, e, hlt, hc⟩
   ·subst h0; intro j u hj; simp at hj
   ·cases e
    exact src_of_sl (.inr ⟨b, off, rfl, hlt, hc⟩) (Below.refl _ _)
  obtain ⟨v', w', h1, h2, h3, _, h5⟩ := run_append_own_at (P := Tryz.prog) w B 37 ty 3 i (.int .i64 0) 1 8 Tryz.underlying37 hi hz hs hb rfl (by decide) v xs.length (xs.map (Value.int .i64)) h a ys.length c (ys.map (Value.int .i64)) (by simp) hnews (one_ints ys) (by unfold maxLen; omega) (by omega) hB
  refine ⟨v', w', h1, ?_, h3, h5⟩
  unfold OwnI
  rw [List.length_append, List.map_append]
  exact h2
theorem wpList_append_ints {ops : Array Oper} {rest : List Oper} {op : Oper} {act : Act} {Q : Exit → Act → World → Prop} (w : World) (hgd : op.guard = none) (s x : Operand)
  (ho : op.op = .call { callee := .builtin .append, args := #[s, x], argTypes := #[37, 37] })
  (B c : Nat) (v : Value) (a0 : Option Addr) (xs ys : List Int) (hs : act.eval s = v) (hx : act.eval x = .slice a0 ys.length c) (hv : OwnI w B v xs) (hy : Sl w a0 ys) (hn : xs.length + ys.length ≤ 4000000) (hB : B ≤ w.heap.size)
  (h : ∀ v' w', OwnI w' B v' (xs ++ ys) → w.grownBy w' v.ownBlock → (v'.ownBlock = v.ownBlock ∨ v'.ownBlock = some w.heap.size) → wpList Tryz.prog ops Q rest (act.put op.dst v') w') :
  wpList Tryz.prog ops Q (op :: rest) act w := by
 obtain ⟨v', w', h1, h2, h3, h4⟩ := run_append_ints w op.type B c v a0 xs ys hv hy hn hB
 refine wpList_plain hgd fun K hK => ?_
 unfold Oper.wp execOp
 simp only [ho, resolve, invoke, builtin, Sem.run_bind, Sem.run_pure, Result.andThen_ok, List.map_toArray, List.map_cons, List.map_nil, hs, hx, h1]
 exact hK _ _ (h v' w' h2 h3 h4)
theorem own_empty (w : World) : OwnI (w.alloc (.cells #[] 3)) w.heap.size (.slice (some ⟨w.heap.size, 0, none⟩) 0 0) [] :=
 World.ownsRow_made (base := w.heap.size) (e := 3) (size := 1) w #[] 0 (Nat.le_refl _) (by unfold maxLen; omega) rfl
theorem wpList_append_new {ops : Array Oper} {rest : List Oper} {op : Oper} {act : Act} {Q : Exit → Act → World → Prop} (w : World) {N : Nat} (hN : N = w.heap.size) (hgd : op.guard = none) (s x : Operand)
  (ho : op.op = .call { callee := .builtin .append, args := #[s, x], argTypes := #[37, 37] })
  (c : Nat) (a0 : Option Addr) (ys : List Int) (hs : act.eval s = .slice (some ⟨N, 0, none⟩) 0 0) (hx : act.eval x = .slice a0 ys.length c) (hy : Sl w a0 ys) (hn : ys.length ≤ 1048576)
  (h : ∀ v' w', OwnI w' w.heap.size v' ys → Below w.heap.size w w' → wpList Tryz.prog ops Q rest (act.put op.dst v') w') :
  wpList Tryz.prog ops Q (op :: rest) act (w.alloc (.cells #[] 3)) := by
 subst hN
 have hb : Below w.heap.size w (w.alloc (.cells #[] 3)) := (Below.refl _ _).alloc (Nat.le_refl _) _
 refine wpList_append_ints _ hgd s x ho w.heap.size c (.slice (some ⟨w.heap.size, 0, none⟩) 0 0) a0 [] ys hs hx (own_empty w) (hy.below hb) (by simp; omega) (by simp) ?_
 intro v' w' o g _
 exact h v' w' (by simpa using o) (hb.grown g (by simp) (fun k hk => by cases hk; exact Nat.le_refl _))
def STOP (p : Prop) : Prop := p
theorem append_stop {P : Program} {ops : Array Oper} {rest : List Oper} {op : Oper} {act : Act} {Q : Exit → Act → World → Prop} {w : World} {a : Array Operand} {t : Array TypeId} (_ : op.op = .call { callee := .builtin .append, args := a, argTypes := t }) (h : STOP (wpList P ops Q (op :: rest) act w)) : wpList P ops Q (op :: rest) act w := h
theorem clone_any (a0 : Option Addr) (cap : Nat) (xs : List Int) (w : World) (hlen : xs.length ≤ 1048576) (h : Sl w a0 xs) :
  Calls Tryz.prog 174 #[.slice a0 xs.length cap] w fun e w' => ∃ v, e = .returned v ∧ OwnI w' w.heap.size v xs ∧ Below w.heap.size w w' := by
 cases a0 with
 | none =>
  have h0 : xs = [] := by
   rcases h with h0 | ⟨b, off, e, _⟩
   ·exact h0
   ·cases e
  subst h0
  have he : ∀ wx : World, (binOp .eql 37 (.slice none 0 cap) (.slice none 0 0)).run Tryz.prog wx = .ok (.bool true) wx := fun wx => by kernel_rfl
  go_enter Tryz.func174, Tryz.ntmps174
  go_wp2
  go_ret
  exact ⟨_, rfl, World.ownsRow_nil _ _ _ _, Below.refl _ _⟩
 | some a =>
  have HS : Hid (Sl w (some a) xs) := h
  have he : ∀ wx : World, (binOp .eql 37 (.slice (some a) xs.length cap) (.slice none 0 0)).run Tryz.prog wx = .ok (.bool false) wx := fun wx => by kernel_rfl
  clear h
  go_enter Tryz.func174, Tryz.ntmps174
  go_wp2_with (at_builtin; refine wpList_append_ints _ rfl _ _ rfl w.heap.size cap (.slice (some ⟨w.heap.size, 0, none⟩) 0 0) (some a) [] xs rfl rfl (own_empty w) (HS.out.below ((Below.refl _ _).alloc (Nat.le_refl _) _)) (by simp; omega) (by simp) ?_; intro v' w1 o1 g1 _; have HF : Hid (OwnI w1 w.heap.size v' xs ∧ Below w.heap.size w w1) := ⟨by simpa using o1, ((Below.refl _ _).alloc (Nat.le_refl _) _).grown g1 (by simp) (fun k hk => by cases hk; exact Nat.le_refl _)⟩; clear o1 g1)
  go_ret
  exact ⟨_, rfl, HF.out⟩
theorem copyState_any (p code : Int) (ra oa : Option Addr) (rc oc : Nat) (rs os : List Int) (w : World) (hr : rs.length ≤ 1048576) (ho : os.length ≤ 1048576) (h1 : Sl w ra rs) (h2 : Sl w oa os) :
  Calls Tryz.prog 98 #[stV p ra rs.length rc oa os.length oc code] w fun e w' => ∃ v, e = .returned v ∧ StOwn w' w.heap.size v p rs os code ∧ Below w.heap.size w w' := by
 have H1 : Hid (Sl w ra rs) := h1
 have H2 : Hid (Sl w oa os) := h2
 clear h1 h2
 go_enter Tryz.func98, Tryz.ntmps98
 go_wp2_with fail
 refine (clone_any ra rc rs _ hr (H1.out.below (by go_grown))).mono ?_
 rintro e w1 ⟨v1, rfl, o1, b1⟩
 have B1 : Hid (Below w.heap.size w w1) := below_up (by go_grown) b1 (by simp; omega)
 obtain ⟨hc1, hf1⟩ := bcell b1
 have y1 : w.heap.size + 1 < w1.heap.size := by have := b1.size; simp at this; omega
 have y0 : w.heap.size < w1.heap.size := by omega
 obtain ⟨ra1, rc1, rfl, _⟩ := o1.form
 have s0 : w1.cell? ⟨w.heap.size, 0, none⟩ = some (.int .i64 p) := by rw [hc1 _ _ (by simp; omega)]; simp
 have s1 : w1.cell? ⟨w.heap.size, 1, none⟩ = some (.slice ra rs.length rc) := by rw [hc1 _ _ (by simp; omega)]; simp
 have s2 : w1.cell? ⟨w.heap.size, 2, none⟩ = some (.slice oa os.length oc) := by rw [hc1 _ _ (by simp; omega)]; simp
 have s3 : w1.cell? ⟨w.heap.size, 3, none⟩ = some (.int .i64 code) := by rw [hc1 _ _ (by simp; omega)]; simp
 have L1 : Hid (∀ k, (Value.slice ra1 rs.length rc1).ownBlock = some k → w.heap.size + 1 < k ∧ k < w1.heap.size) := fun k hk => by have := o1.lt k hk; simp at this; omega
 have BS : Hid (Below w.heap.size w (w1.setCell ⟨w.heap.size, 1, none⟩ (.slice ra1 rs.length rc1))) := B1.out.setCell (by simp) _
 have O1 : Hid (OwnI (w1.setCell ⟨w.heap.size, 1, none⟩ (.slice ra1 rs.length rc1)) (w.heap.size + 1 + 1) (.slice ra1 rs.length rc1) rs) := by
  simp only [World.size_alloc] at o1
  exact o1.setBelow (by simp; omega) _
 clear o1 b1 B1
 go_wp2_with fail
 refine (clone_any oa oc os _ ho (H2.out.below BS.out)).mono ?_
 rintro e w2 ⟨v2, rfl, o2, b2⟩
 have B2 : Hid (Below w.heap.size w w2) := below_up BS.out b2 (by simp; omega)
 obtain ⟨hc2, hf2⟩ := bcell b2
 obtain ⟨oa2, oc2, rfl, _⟩ := o2.form
 have O1' : Hid (OwnI w2 (w.heap.size + 1 + 1) (.slice ra1 rs.length rc1) rs) := O1.out.below b2
 simp only [World.size_setCell] at o2
 have O2 : Hid (OwnI w2 w1.heap.size (.slice oa2 os.length oc2) os) := o2
 clear o2 b2 BS O1
 go_wp2
 refine bodyPost_ret (v := stV p ra1 rs.length rc1 oa2 os.length oc2 code) (by simp [results, Tryz.results98, go_sem, hc2, y1, hc1]) rfl ⟨_, rfl, ⟨_, _, rfl, ?_, ?_, ?_⟩, ?_⟩
 ·refine OwnI.mono (B := w.heap.size + 1 + 1) ?_ (by omega)
  repeat (refine OwnI.setBelow ?_ (by first | (simp; done) | (simp; omega)) _)
  exact O1'.out
 ·refine OwnI.mono (B := w1.heap.size) ?_ (by omega)
  repeat (refine OwnI.setBelow ?_ (by simpa using by omega) _)
  exact O2.out
 ·intro k hk hk'
  have h1 := L1.out k hk
  have h2 := O2.out.lt k hk'
  omega
 ·have := B2.out
  go_grown
theorem l2Copy_any (p code : Int) (ra oa : Option Addr) (rc oc : Nat) (rs os : List Int) (w : World) (hr : rs.length ≤ 1048576) (ho : os.length ≤ 1048576) (h1 : Sl w ra rs) (h2 : Sl w oa os) :
  Calls Tryz.prog 122 #[stV p ra rs.length rc oa os.length oc code] w fun e w' => ∃ v, e = .returned v ∧ StOwn w' w.heap.size v p rs os code ∧ Below w.heap.size w w' := by
 have H1 : Hid (Sl w ra rs) := h1
 have H2 : Hid (Sl w oa os) := h2
 clear h1 h2
 go_enter Tryz.func122, Tryz.ntmps122
 go_wp2_with (at_builtin; refine append_stop rfl ?_)
 unfold STOP
 refine wpList_append_new _ (N := w.heap.size + 1 + 1) (by simp) rfl _ _ rfl rc ra rs rfl rfl (H1.out.below (by go_grown)) hr ?_
 intro v1 w1 o1 b1
 have B1 : Hid (Below w.heap.size w w1) := below_up (by go_grown) b1 (by simp; omega)
 obtain ⟨hc1, hf1⟩ := bcell b1
 have y1 : w.heap.size + 1 < w1.heap.size := by have := b1.size; simp at this; omega
 have y0 : w.heap.size < w1.heap.size := by omega
 obtain ⟨ra1, rc1, rfl, _⟩ := o1.form
 have s0 : w1.cell? ⟨w.heap.size, 0, none⟩ = some (.int .i64 p) := by rw [hc1 _ _ (by simp; omega)]; simp
 have s1 : w1.cell? ⟨w.heap.size, 1, none⟩ = some (.slice ra rs.length rc) := by rw [hc1 _ _ (by simp; omega)]; simp
 have s2 : w1.cell? ⟨w.heap.size, 2, none⟩ = some (.slice oa os.length oc) := by rw [hc1 _ _ (by simp; omega)]; simp
 have s3 : w1.cell? ⟨w.heap.size, 3, none⟩ = some (.int .i64 code) := by rw [hc1 _ _ (by simp; omega)]; simp
 have L1 : Hid (∀ k, (Value.slice ra1 rs.length rc1).ownBlock = some k → w.heap.size + 1 < k ∧ k < w1.heap.size) := fun k hk => by have := o1.lt k hk; simp at this; omega
 have BS : Hid (Below w.heap.size w (w1.setCell ⟨w.heap.size, 1, none⟩ (.slice ra1 rs.length rc1))) := B1.out.setCell (by simp) _
 have O1 : Hid (OwnI (w1.setCell ⟨w.heap.size, 1, none⟩ (.slice ra1 rs.length rc1)) (w.heap.size + 1 + 1) (.slice ra1 rs.length rc1) rs) := by
  simp only [World.size_alloc] at o1
  exact o1.setBelow (by simp; omega) _
 clear o1 b1 B1
 go_wp2_with (at_builtin; refine append_stop rfl ?_)
 unfold STOP
 refine wpList_append_new (w1.setCell ⟨w.heap.size, 1, none⟩ (.slice ra1 rs.length rc1)) (N := w1.heap.size) (by simp) rfl _ _ rfl oc oa os rfl rfl (H2.out.below BS.out) ho ?_
 intro v2 w2 o2 b2
 have B2 : Hid (Below w.heap.size w w2) := below_up BS.out b2 (by simp; omega)
 obtain ⟨hc2, hf2⟩ := bcell b2
 obtain ⟨oa2, oc2, rfl, _⟩ := o2.form
 have O1' : Hid (OwnI w2 (w.heap.size + 1 + 1) (.slice ra1 rs.length rc1) rs) := O1.out.below b2
 simp only [World.size_setCell] at o2
 have O2 : Hid (OwnI w2 w1.heap.size (.slice oa2 os.length oc2) os) := o2
 clear o2 b2 BS O1
 go_wp2
 refine bodyPost_ret (v := stV p ra1 rs.length rc1 oa2 os.length oc2 code) (by simp [results, Tryz.results122, go_sem, hc2, y1, hc1]) rfl ⟨_, rfl, ⟨_, _, rfl, ?_, ?_, ?_⟩, ?_⟩
 ·refine OwnI.mono (B := w.heap.size + 1 + 1) ?_ (by omega)
  repeat (refine OwnI.setBelow ?_ (by first | (simp; done) | (simp; omega)) _)
  exact O1'.out
 ·refine OwnI.mono (B := w1.heap.size) ?_ (by omega)
  repeat (refine OwnI.setBelow ?_ (by simpa using by omega) _)
  exact O2.out
 ·intro k hk hk'
  have h1 := L1.out k hk
  have h2 := O2.out.lt k hk'
  omega
 ·have := B2.out
  go_grown
theorem inB_below (p : Int) (n : Nat) : inB p 0 ((n : Int) - 1) = belB p n := by
 rw [Bool.eq_iff_iff]; simp [inB, belB]; omega
def isI : Value → Bool
 | .int .i64 _ => true
 | _ => false
def Lst (w : World) (B : Nat) (v : Value) (n : Nat) : Prop := ∃ xs, w.ownsRow B 99 5 v n xs ∧ xs.all isI = true
end Go.Proofs.YtcplnkhdclcgfaaGreatDoor
