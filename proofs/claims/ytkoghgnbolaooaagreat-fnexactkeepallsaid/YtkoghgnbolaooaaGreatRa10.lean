/- The walk of the model's StateOk: it answers what stOkB says. -/
import Derived.Test.YtkoghgnbolaooaaGreatRa7
import Derived.Test.YtkoghgnbolaooaaGreatRa8
import Derived.Maps.AppendAt
import Derived.Test.YtkoghgnbolaooaaGreatRows
import Derived.WalkKit
import Derived.WalkSpells
import Derived.WalkLawsBesides
import Derived.Handy
import Derived.Deep.QuietTactic
import Derived.BigQuiet
import Derived.Test.YtkoghgnbolaooaaGreatRa9
namespace Go.Proofs.YtkoghgnbolaooaaGreat
open Go.RowKit

structure I5 where
  o : Int
  r : Int
  a : Int
  b : Int
  n : Int

/-- From cell off of block b on there lie len places, the i-th being g i. -/
def InsAt (w : World) (b off len : Nat) (g : Nat → I5) : Prop := ∀ i, i < len →
  w.cell? ⟨b, off + i * 5, none⟩ = some (.int .i64 (g i).o) ∧ w.cell? ⟨b, off + i * 5 + 1, none⟩ = some (.int .i64 (g i).r) ∧ w.cell? ⟨b, off + i * 5 + 2, none⟩ = some (.int .i64 (g i).a) ∧ w.cell? ⟨b, off + i * 5 + 3, none⟩ = some (.int .i64 (g i).b) ∧ w.cell? ⟨b, off + i * 5 + 4, none⟩ = some (.int .i64 (g i).n)

theorem InsAt.below {w w' : World} {B b off len : Nat} {g : Nat → I5} (h : InsAt w b off len g) (hb : Below B w w') (hB : b < B) : InsAt w' b off len g := by
  intro i hi
  obtain ⟨h0, h1, h2, h3, h4⟩ := h i hi
  exact ⟨(hb.cell hB).trans h0, (hb.cell hB).trans h1, (hb.cell hB).trans h2, (hb.cell hB).trans h3, (hb.cell hB).trans h4⟩

def okAt (g : Nat → I5) (len procs : Int) (i : Nat) : Bool := insOkB (g i).o (g i).r (g i).a (g i).b (g i).n len procs
def allOk (g : Nat → I5) (len procs : Int) (k : Nat) : Bool := (List.range k).all (okAt g len procs)
def progOkB (g : Nat → I5) (len : Nat) (procs : Int) : Bool := allOk g len procs len && (inB len 1 30 && inB procs 1 4)

theorem allOk_succ (g : Nat → I5) (len procs : Int) (k : Nat) : allOk g len procs (k + 1) = (allOk g len procs k && okAt g len procs k) := by
  simp [allOk, List.range_succ]
theorem allOk_false (g : Nat → I5) (len procs : Int) {k m : Nat} (hk : k < m) (h : okAt g len procs k = false) : allOk g len procs m = false := by
  rw [allOk, List.all_eq_false]
  exact ⟨k, List.mem_range.2 hk, by simp [h]⟩

set_option maxRecDepth 100000 in
set_option maxHeartbeats 1000000 in
theorem specProgOk_any (b off len cap : Nat) (g : Nat → I5) (procs : Int) (w : World) (hlen : len ≤ maxLen) (hb : b < w.heap.size) (hc : InsAt w b off len g) :
    Calls Tryz.prog 47 #[.slice (some ⟨b, off, none⟩) len cap, .int .i64 procs] w fun e w' => e = .returned (.bool (progOkB g len procs)) ∧ Below w.heap.size w w' := by
  unfold maxLen at hlen
  have HC : Hid (InsAt w b off len g) := hc
  clear hc
  go_enter Tryz.func47, Tryz.ntmps47
  go_wp2_with fail
  go_loopw [5] (fun i wr => ∃ k : Nat, k ≤ len ∧ i = .int .i64 k ∧ Hid (allOk g len procs k = true) ∧ Below w.heap.size w wr) (fun i _ => len - (intOf i).toNat)
  case atStart => exact ⟨0, Nat.zero_le _, rfl, rfl, Below.refl _ _⟩
  case round =>
    obtain ⟨k, hk, rfl, HA, hbw⟩ := hrel
    by_cases hlt : k < len
    · obtain ⟨c0, c1, c2, c3, c4⟩ := HC.out.below hbw hb k hlt
      rcases Bool.eq_false_or_eq_true (okAt g len procs k) with ho | ho
      · have HO : Hid (okAt g len procs k = true) := ho
        have ho' : insOkB (g k).o (g k).r (g k).a (g k).b (g k).n len procs = true := ho
        clear ho
        go_wp2_with (go_at_call 71; refine (specInsOk_any _ _ _ _ _ _ _ _).mono ?_; rintro e w1 ⟨rfl, hb1⟩)
        go_roundw
        case rel => exact ⟨k + 1, by omega, by go_num, by rw [Hid, allOk_succ, HA.out, HO.out]; rfl, hbw.trans (hb1.mono hbw.size)⟩
        case measure => simp [intOf]; omega
      · have HO : Hid (okAt g len procs k = false) := ho
        have ho' : insOkB (g k).o (g k).r (g k).a (g k).b (g k).n len procs = false := ho
        clear ho
        go_wp2_with (go_at_call 71; refine (specInsOk_any _ _ _ _ _ _ _ _).mono ?_; rintro e w1 ⟨rfl, hb1⟩)
        go_ret
        exact ⟨ret_bool (by rw [progOkB, allOk_false g len procs hlt HO.out]; rfl), hbw.trans (hb1.mono hbw.size)⟩
    · have hkl : k = len := by omega
      have HP : Hid (progOkB g len procs = (inB len 1 30 && inB procs 1 4)) := by
        have hA := HA.out
        rw [hkl] at hA
        rw [Hid, progOkB, hA]; rfl
      clear HA hkl
      rcases Bool.eq_false_or_eq_true (inB len 1 30) with t0 | t0
      all_goals
        go_wp2_with (go_at_call 38; refine (l1In_any _ _ _ _).mono ?_; rintro e w' ⟨rfl, rfl⟩)
        go_ret
        exact ⟨ret_bool (by rw [HP.out, t0] <;> rfl), hbw⟩

set_option maxRecDepth 100000 in
set_option maxHeartbeats 1000000 in
theorem implProgOk_any (b off len cap : Nat) (g : Nat → I5) (procs : Int) (w : World) (hlen : len ≤ maxLen) (hb : b < w.heap.size) (hc : InsAt w b off len g) :
    Calls Tryz.prog 73 #[.slice (some ⟨b, off, none⟩) len cap, .int .i64 procs] w fun e w' => e = .returned (.bool (progOkB g len procs)) ∧ Below w.heap.size w w' := by
  unfold maxLen at hlen
  have HC : Hid (InsAt w b off len g) := hc
  clear hc
  by_cases hr : 1 ≤ len ∧ len ≤ 30
  case neg =>
    have hv : progOkB g len procs = false := by
      rw [progOkB, show inB len 1 30 = false from by simp [inB]; omega]; simp
    rw [hv]
    clear hv
    by_cases h1 : len < 1
    · have h1' : (len : Int) < 1 := by omega
      go_enter Tryz.func73, Tryz.ntmps73
      go_wp2
      go_ret
      exact ⟨rfl, Below.refl _ _⟩
    · have h1' : ¬ (len : Int) < 1 := by omega
      have h2' : (30 : Int) < len := by omega
      go_enter Tryz.func73, Tryz.ntmps73
      go_wp2
      go_ret
      exact ⟨rfl, Below.refl _ _⟩
  case pos =>
  obtain ⟨r1, r2⟩ := hr
  have h1' : ¬ (len : Int) < 1 := by omega
  have h2' : ¬ (30 : Int) < len := by omega
  go_enter Tryz.func73, Tryz.ntmps73
  go_wp2_with fail
  go_loopw [17] (fun i wr => ∃ k : Nat, k ≤ len ∧ i = .int .i64 k ∧ Hid (allOk g len procs k = true) ∧ Below w.heap.size w wr) (fun i _ => len - (intOf i).toNat)
  case atStart => exact ⟨0, Nat.zero_le _, rfl, rfl, Below.refl _ _⟩
  case round =>
    obtain ⟨k, hk, rfl, HA, hbw⟩ := hrel
    have hs := hbw.size
    by_cases hlt : k < len
    · obtain ⟨c0, c1, c2, c3, c4⟩ := HC.out.below hbw hb k hlt
      rcases Bool.eq_false_or_eq_true (okAt g len procs k) with ho | ho
      · have HO : Hid (okAt g len procs k = true) := ho
        have ho' : insOkB (g k).o (g k).r (g k).a (g k).b (g k).n len procs = true := ho
        clear ho
        go_wp2_with (go_at_call 99; refine (implInsOk_any _ _ _ _ _ _ _ _).mono ?_; rintro e w1 ⟨rfl, hb1⟩)
        go_roundw
        case rel => exact ⟨k + 1, by omega, by go_num, by rw [Hid, allOk_succ, HA.out, HO.out]; rfl, (hbw.alloc hs _).trans (hb1.mono (by simp; omega))⟩
        case measure => simp [intOf]; omega
      · have HO : Hid (okAt g len procs k = false) := ho
        have ho' : insOkB (g k).o (g k).r (g k).a (g k).b (g k).n len procs = false := ho
        clear ho
        go_wp2_with (go_at_call 99; refine (implInsOk_any _ _ _ _ _ _ _ _).mono ?_; rintro e w1 ⟨rfl, hb1⟩)
        go_ret
        exact ⟨ret_bool (by rw [progOkB, allOk_false g len procs hlt HO.out]; rfl), (hbw.alloc hs _).trans (hb1.mono (by simp; omega))⟩
    · have hkl : k = len := by omega
      have h30 : inB len 1 30 = true := by simp [inB]; omega
      have HP : Hid (progOkB g len procs = true) := by
        have hA := HA.out
        rw [hkl] at hA
        have hp : inB procs 1 4 = true := by
          have h0 : okAt g len procs 0 = true := by
            have := (List.all_eq_true.1 (show (List.range len).all (okAt g len procs) = true from hA)) 0 (List.mem_range.2 (by omega))
            exact this
          simp only [okAt, insOkB, Bool.and_eq_true] at h0
          exact h0.1.2
        rw [Hid, progOkB, hA, h30, hp]; rfl
      clear HA hkl h30
      go_wp2
      go_ret
      exact ⟨ret_bool HP.out.symm, hbw⟩

end Go.Proofs.YtkoghgnbolaooaaGreat

namespace Go.Proofs.YtkoghgnbolaooaaGreat
open Go.RowKit

theorem ret_int {k : IntKind} {a b : Int} (h : a = b) : Ending.returned (.int k a) = .returned (.int k b) := by rw [h]

def marks (k : Int) (n : Nat) : List Int := (List.range n).map (fun i : Nat => k + (i : Int))
theorem marks_length (k : Int) (n : Nat) : (marks k n).length = n := by simp [marks]
theorem marks_at (k : Int) (n j : Nat) (h : j < n) : zi (marks k n) j = k + j := by
  unfold zi marks
  rw [List.getD_eq_getElem?_getD, List.getElem?_map, List.getElem?_range h]; rfl

theorem own_some {w : World} {B n cap : Nat} {a0 : Option Addr} {ys : List Int} (h : OwnI w B (.slice a0 n cap) ys) (hn : 0 < ys.length) : ∃ g, a0 = some ⟨g, 0, none⟩ ∧ n = ys.length ∧ B ≤ g ∧ g < w.heap.size := by
  obtain ⟨g, c, hv, hb, hl⟩ := h.block hn
  simp only [Value.slice.injEq] at hv
  exact ⟨g, hv.1, hv.2.1, hb, hl⟩

set_option maxRecDepth 100000 in
set_option maxHeartbeats 1000000 in
theorem markIntS_any (a0 : Option Addr) (cap B : Nat) (xs : List Int) (k : Int) (w : World) (hlen : xs.length ≤ 1048576) (k0 : 0 ≤ k) (k1 : k ≤ 100000000) (h : OwnI w B (.slice a0 xs.length cap) xs) :
    Calls Tryz.prog 34 #[.slice a0 xs.length cap, .int .i64 k] w fun e w' => e = .returned (.int .i64 (k + xs.length)) ∧ OwnI w' B (.slice a0 xs.length cap) (marks k xs.length) ∧ w.grownBy w' (Value.slice a0 xs.length cap).ownBlock := by
  have hl' : (xs.length : Int) ≤ 1048576 := by omega
  have HO : Hid (OwnI w B (.slice a0 xs.length cap) xs) := h
  clear h
  go_enter Tryz.func34, Tryz.ntmps34
  go_wp2_with fail
  go_loopw [1, 5] (fun q i wr => ∃ j : Nat, j ≤ xs.length ∧ i = .int .i64 j ∧ q = .int .i64 (k + j) ∧ Hid ((∃ ys, ys.length = xs.length ∧ OwnI wr B (.slice a0 xs.length cap) ys ∧ ∀ t, t < j → zi ys t = k + t) ∧ w.grownBy wr (Value.slice a0 xs.length cap).ownBlock)) (fun _ i _ => xs.length - (intOf i).toNat)
  case atStart => exact ⟨0, Nat.zero_le _, rfl, by simp, ⟨xs, rfl, HO.out, fun t ht => by omega⟩, World.grownBy.refl _ _⟩
  case round =>
    clear HO
    obtain ⟨j, hj, rfl, rfl, HR⟩ := hrel
    by_cases hlt : j < xs.length
    · have hlt' : (j : Int) < (xs.length : Int) := by omega
      have hg : ∃ g, a0 = some ⟨g, 0, none⟩ ∧ g < wr.heap.size := by
        obtain ⟨⟨ys, he, ho, _⟩, _⟩ := HR.out
        obtain ⟨g, hg, _, _, hl⟩ := own_some ho (by omega)
        exact ⟨g, hg, hl⟩
      obtain ⟨g, rfl, hgl⟩ := hg
      have fz : wr.frozen? ⟨g, j, none⟩ = false := by obtain ⟨⟨ys, he, ho, _⟩, _⟩ := HR.out; rw [← he] at ho; exact ho.frozen j
      have cz : ∃ z : Int, wr.cell? ⟨g, j, none⟩ = some (.int .i64 z) := by obtain ⟨⟨ys, he, ho, _⟩, _⟩ := HR.out; rw [← he] at ho hlt; exact ⟨_, ho.cell hlt⟩
      obtain ⟨z, cz⟩ := cz
      go_wp2
      go_roundw
      case rel =>
        refine ⟨j + 1, by omega, by go_num, by go_num, ?_⟩
        obtain ⟨⟨ys, he, ho, hy⟩, hgr⟩ := HR.out
        obtain ⟨ho', hg'⟩ := ho.set he.symm j (k + j)
        refine ⟨⟨ys.set j (k + j), by simpa using he, ho', fun t ht => ?_⟩, hgr.trans hg'⟩
        by_cases htj : t = j
        · subst htj; exact getD_set_self ys t _ (by omega)
        · rw [getD_set_ne ys t j _ htj]; exact hy t (by omega)
      case measure => simp [intOf]; omega
    · have hlt' : ¬ (j : Int) < (xs.length : Int) := by omega
      have HF : Hid (OwnI wr B (.slice a0 xs.length cap) (marks k xs.length) ∧ w.grownBy wr (Value.slice a0 xs.length cap).ownBlock) := by
        obtain ⟨⟨ys, he, ho, hy⟩, hgr⟩ := HR.out
        have : ys = marks k xs.length := ext_getD (by rw [he, marks_length]) fun i hi => by rw [hy i (by omega), marks_at _ _ _ (by omega)]
        rw [this] at ho
        exact ⟨ho, hgr⟩
      have hjl : (j : Int) = xs.length := by omega
      have HJ : Hid ((j : Int) = xs.length) := hjl
      clear HR hjl
      go_wp2
      go_ret
      exact ⟨ret_int (by rw [HJ.out]), HF.out⟩

set_option maxRecDepth 100000 in
set_option maxHeartbeats 1000000 in
theorem heldIntS_marks (a0 : Option Addr) (cap n : Nat) (k : Int) (w : World) (hlen : n ≤ 1048576) (k0 : 0 ≤ k) (k1 : k ≤ 100000000) (h : Sl w a0 (marks k n)) :
    Calls Tryz.prog 35 #[.slice a0 n cap, .int .i64 k] w fun e w' => e = .returned (.int .i64 (k + n)) ∧ w' = w := by
  have hl' : (n : Int) ≤ 1048576 := by omega
  have HS : Hid (Sl w a0 (marks k n)) := h
  clear h
  go_enter Tryz.func35, Tryz.ntmps35
  go_wp2_with fail
  go_loop [1, 5] (fun q i => ∃ j : Nat, j ≤ n ∧ i = .int .i64 j ∧ q = .int .i64 (k + j)) (fun _ i => n - (intOf i).toNat)
  case atStart => exact ⟨0, Nat.zero_le _, rfl, by simp⟩
  case round =>
    obtain ⟨j, hj, rfl, rfl⟩ := hrel
    by_cases hlt : j < n
    · have hlt' : (j : Int) < (n : Int) := by omega
      obtain ⟨b, off, rfl, hbl, ck⟩ := HS.out.at (k := j) (by rw [marks_length]; exact hlt)
      rw [marks_at _ _ _ hlt] at ck
      go_wp2
      go_round
      case rel => exact ⟨j + 1, by omega, by go_num, by go_num⟩
      case measure => simp [intOf]; omega
    · have hlt' : ¬ (j : Int) < (n : Int) := by omega
      have HJ : Hid ((j : Int) = n) := by show (j : Int) = n; omega
      go_wp2
      go_ret
      exact ⟨ret_int (by rw [HJ.out]), rfl⟩

/-- A state whose lists are marked from k on. -/
theorem own_apart {w w' : World} {B : Nat} {v u : Value} {xs : List Int} (h : OwnI w B v xs) (hg : w.grownBy w' u.ownBlock) (ha : ∀ k, u.ownBlock = some k → v.ownBlock ≠ some k) : OwnI w' B v xs := by
  refine h.kept hg ?_
  cases hu : u.ownBlock with
  | none => 
    cases hv : v.ownBlock with
    | none => exact .inl rfl
    | some k => exact .inr (by simp)
  | some k => exact .inr (ha k hu)

theorem gcell {W w1 : World} {row : Option Nat} (hg : W.grownBy w1 row) {b : Nat} (hb : b < W.heap.size) (hne : some b ≠ row) : (∀ o, w1.cell? ⟨b, o, none⟩ = W.cell? ⟨b, o, none⟩) ∧ (∀ o, w1.frozen? ⟨b, o, none⟩ = W.frozen? ⟨b, o, none⟩) :=
  ⟨fun _ => World.cell?_of_block (hg.block b hb hne), fun _ => World.frozen?_of_block (hg.block b hb hne)⟩
/-- Block k is that of one of the lists of the state v. -/
def hasBlock (v : Value) (k : Nat) : Prop := ∃ p vr vo code, v = .agg #[p, vr, vo, code] ∧ (vr.ownBlock = some k ∨ vo.ownBlock = some k)
theorem hasBlock_iff (p vr vo code : Value) (k : Nat) : hasBlock (.agg #[p, vr, vo, code]) k ↔ vr.ownBlock = some k ∨ vo.ownBlock = some k := by
  constructor
  · rintro ⟨p', vr', vo', code', e, h⟩
    simp only [Value.agg.injEq, Array.mk.injEq, List.cons.injEq, and_true] at e
    obtain ⟨_, rfl, rfl, _⟩ := e
    exact h
  · exact fun h => ⟨p, vr, vo, code, rfl, h⟩
theorem StOwn.lt {w : World} {B : Nat} {v : Value} {p code : Int} {rs os : List Int} (h : StOwn w B v p rs os code) {k : Nat} (hk : hasBlock v k) : B ≤ k ∧ k < w.heap.size := by
  obtain ⟨vr, vo, rfl, h1, h2, _⟩ := h
  rcases (hasBlock_iff _ _ _ _ _).1 hk with h | h
  · exact h1.lt k h
  · exact h2.lt k h

/-- Nothing has turned but what lies in the lists of the state v. -/
structure Marked (v : Value) (w w' : World) : Prop where
  os : w'.os = w.os
  tape : w'.tape = w.tape
  output : w'.output = w.output
  size : w.heap.size ≤ w'.heap.size
  block : ∀ k, k < w.heap.size → ¬ hasBlock v k → w'.heap[k]? = w.heap[k]?

theorem Marked.below {v : Value} {w w' : World} {B : Nat} (h : Marked v w w') (hB : B ≤ w.heap.size) (hv : ∀ k, hasBlock v k → B ≤ k) : Below B w w' :=
  ⟨h.os, h.tape, h.output, h.size, fun k hk => h.block k (by omega) (fun hh => by have := hv k hh; omega)⟩
theorem Marked.own {v : Value} {w w' : World} {B : Nat} {u : Value} {xs : List Int} (h : Marked v w w') (hu : OwnI w B u xs) (ha : ∀ k, u.ownBlock = some k → ¬ hasBlock v k) : OwnI w' B u xs := by
  rcases hu.2 with ⟨rfl, h0⟩ | ⟨g, cap, cur, rfl, hb, hg, hr⟩
  · exact ⟨hu.1, .inl ⟨rfl, h0⟩⟩
  · refine ⟨hu.1, .inr ⟨g, cap, cur, rfl, hb, ?_, hr⟩⟩
    rw [h.block g (hu.lt g rfl).2 (ha g rfl)]
    exact hg
theorem Marked.st {v : Value} {w w' : World} {B : Nat} {u : Value} {p code : Int} {rs os : List Int} (h : Marked v w w') (hu : StOwn w B u p rs os code) (ha : ∀ k, hasBlock u k → ¬ hasBlock v k) : StOwn w' B u p rs os code := by
  obtain ⟨vr, vo, rfl, h1, h2, h3⟩ := hu
  exact ⟨vr, vo, rfl, h.own h1 fun k hk => ha k ((hasBlock_iff _ _ _ _ _).2 (.inl hk)), h.own h2 fun k hk => ha k ((hasBlock_iff _ _ _ _ _).2 (.inr hk)), h3⟩
theorem Marked.cell {v : Value} {w w' : World} (h : Marked v w w') {b : Nat} (hb : b < w.heap.size) (hv : ¬ hasBlock v b) (j : Nat) : w'.cell? ⟨b, j, none⟩ = w.cell? ⟨b, j, none⟩ := World.cell?_of_block (h.block b hb hv)
theorem Marked.frozen {v : Value} {w w' : World} (h : Marked v w w') {b : Nat} (hb : b < w.heap.size) (hv : ¬ hasBlock v b) (j : Nat) : w'.frozen? ⟨b, j, none⟩ = w.frozen? ⟨b, j, none⟩ := World.frozen?_of_block (h.block b hb hv)

set_option maxRecDepth 100000 in
set_option maxHeartbeats 1000000 in
theorem markState_any (v : Value) (B : Nat) (p code : Int) (rs os : List Int) (k : Int) (w : World) (hr : rs.length ≤ 1048576) (ho : os.length ≤ 1048576) (k0 : 0 ≤ k) (k1 : k ≤ 50000000) (h : StOwn w B v p rs os code) :
    Calls Tryz.prog 23 #[v, .int .i64 k] w fun e w' => e = .returned (.int .i64 (k + rs.length + os.length)) ∧ StOwn w' B v p (marks k rs.length) (marks (k + rs.length) os.length) code ∧ Marked v w w' := by
  obtain ⟨vr, vo, rfl, o1, o2, ha⟩ := h
  obtain ⟨ra, rc, rfl, s1⟩ := o1.form
  obtain ⟨oa, oc, rfl, s2⟩ := o2.form
  have O1 : Hid (OwnI w B (.slice ra rs.length rc) rs) := o1
  have O2 : Hid (OwnI w B (.slice oa os.length oc) os) := o2
  have HA : Hid (∀ k, (Value.slice ra rs.length rc).ownBlock = some k → (Value.slice oa os.length oc).ownBlock ≠ some k) := ha
  clear o1 o2 ha s1 s2
  go_enter Tryz.func23, Tryz.ntmps23
  go_wp2_with fail
  refine (markIntS_any ra rc B rs k _ hr k0 (by omega) (by exact O1.out.below (by go_grown))).mono ?_
  rintro e w1 ⟨rfl, o1, g1⟩
  have hne : some w.heap.size ≠ (Value.slice ra rs.length rc).ownBlock := fun e => by have := (O1.out.lt _ e.symm).2; omega
  obtain ⟨hc1, hf1⟩ := gcell g1 (b := w.heap.size) (by simp) hne
  have O2' : Hid (OwnI w1 B (.slice oa os.length oc) os) := own_apart (by exact O2.out.below (by go_grown)) g1 HA.out
  have O1' : Hid (OwnI w1 B (.slice ra rs.length rc) (marks k rs.length)) := o1
  have G1 : Hid (w.grownBy w1 (Value.slice ra rs.length rc).ownBlock) := World.grownBy_alloc w _ _ |>.trans g1
  have y1 : w.heap.size < w1.heap.size := by have := g1.size; simp at this; omega
  clear o1 g1 O1 O2
  go_wp2_with fail
  refine (markIntS_any oa oc B os _ _ ho (by omega) (by omega) O2'.out).mono ?_
  rintro e w2 ⟨rfl, o2, g2⟩
  have HA' : ∀ k, (Value.slice oa os.length oc).ownBlock = some k → (Value.slice ra rs.length rc).ownBlock ≠ some k := fun k h1 h2 => HA.out k h2 h1
  have O1'' : Hid (OwnI w2 B (.slice ra rs.length rc) (marks k rs.length)) := own_apart O1'.out g2 HA'
  have O2'' : Hid (OwnI w2 B (.slice oa os.length oc) (marks (k + rs.length) os.length)) := o2
  have G2 : Hid (Marked (stV p ra rs.length rc oa os.length oc code) w w2) := ⟨g2.os.trans G1.out.os, g2.tape.trans G1.out.tape, g2.output.trans G1.out.output, Nat.le_trans G1.out.size g2.size, fun k hk hn => by
    rw [hasBlock_iff] at hn
    have h1 : some k ≠ (Value.slice ra rs.length rc).ownBlock := fun e => hn (.inl e.symm)
    have h2 : some k ≠ (Value.slice oa os.length oc).ownBlock := fun e => hn (.inr e.symm)
    exact (g2.block k (by have := G1.out.size; omega) h2).trans (G1.out.block k hk h1)⟩
  clear o2 g2 O1' O2' G1 HA'
  go_wp2
  go_ret
  exact ⟨rfl, ⟨_, _, rfl, O1''.out, O2''.out, HA.out⟩, G2.out⟩

set_option maxRecDepth 100000 in
set_option maxHeartbeats 1000000 in
theorem heldState_marks (p code : Int) (ra oa : Option Addr) (rn rc on oc : Nat) (k : Int) (w : World) (hr : rn ≤ 1048576) (ho : on ≤ 1048576) (k0 : 0 ≤ k) (k1 : k ≤ 50000000) (h1 : Sl w ra (marks k rn)) (h2 : Sl w oa (marks (k + rn) on)) :
    Calls Tryz.prog 24 #[stV p ra rn rc oa on oc code, .int .i64 k] w fun e w' => e = .returned (.int .i64 (k + rn + on)) ∧ Below w.heap.size w w' := by
  have H1 : Hid (Sl w ra (marks k rn)) := h1
  have H2 : Hid (Sl w oa (marks (k + rn) on)) := h2
  have n1 : ¬ k + (rn : Int) < 0 := by omega
  have n2 : ¬ k + (rn : Int) + on < 0 := by omega
  clear h1 h2
  go_enter Tryz.func24, Tryz.ntmps24
  go_wp2_with fail
  refine (heldIntS_marks ra rc rn k _ hr k0 (by omega) (H1.out.below (by go_grown))).mono ?_
  rintro e w1 ⟨rfl, rfl⟩
  go_wp2_with fail
  refine (heldIntS_marks oa oc on _ _ ho (by omega) (by omega) (H2.out.below (by go_grown))).mono ?_
  rintro e w1 ⟨rfl, rfl⟩
  go_wp2
  go_ret
  exact ⟨rfl, by go_grown⟩

set_option maxHeartbeats 400000 in
theorem toEvent_any (k p v : Int) (w : World) :
    Calls Tryz.prog 27 #[evV k p v] w fun e w' => e = .returned (evV k p v) ∧ Below w.heap.size w w' := by
  go_enter Tryz.func27, Tryz.ntmps27
  go_wp2
  refine bodyPost_ret (v := evV k p v) (by simp [results, Tryz.results27, go_sem]) rfl ⟨rfl, ?_⟩
  go_grown

set_option maxHeartbeats 400000 in
theorem eqEvent_same (k p v : Int) (w : World) :
    Calls Tryz.prog 33 #[evV k p v, evV k p v] w fun e w' => e = .returned (.bool true) ∧ Below w.heap.size w w' := by
  go_enter Tryz.func33, Tryz.ntmps33
  go_wp2
  go_ret
  exact ⟨rfl, by go_grown⟩

/-- The four cells of a state in a block. -/
def BoxC (w : World) (N : Nat) (p vr vo code : Value) : Prop := w.cell? ⟨N, 0, none⟩ = some p ∧ w.cell? ⟨N, 1, none⟩ = some vr ∧ w.cell? ⟨N, 2, none⟩ = some vo ∧ w.cell? ⟨N, 3, none⟩ = some code
theorem BoxC.below {w w' : World} {N : Nat} {p vr vo code : Value} (h : BoxC w N p vr vo code) (hb : Below w.heap.size w w') : BoxC w' N p vr vo code := by
  obtain ⟨h0, h1, h2, h3⟩ := h
  have hN : N < w.heap.size := World.block_lt_of_cell? w _ h0
  exact ⟨(hb.cell (p := ⟨N, 0, none⟩) hN).trans h0, (hb.cell (p := ⟨N, 1, none⟩) hN).trans h1, (hb.cell (p := ⟨N, 2, none⟩) hN).trans h2, (hb.cell (p := ⟨N, 3, none⟩) hN).trans h3⟩
theorem BoxC.new (w : World) (p vr vo code : Value) (t : TypeId) : BoxC (w.alloc (.cells #[p, vr, vo, code] t)) w.heap.size p vr vo code := by
  unfold BoxC
  simp

theorem BoxC.marked {v : Value} {w w' : World} {N : Nat} {p vr vo code : Value} (h : BoxC w N p vr vo code) (hm : Marked v w w') (hv : ¬ hasBlock v N) : BoxC w' N p vr vo code := by
  obtain ⟨h0, h1, h2, h3⟩ := h
  have hN : N < w.heap.size := World.block_lt_of_cell? w _ h0
  exact ⟨(hm.cell hN hv _).trans h0, (hm.cell hN hv _).trans h1, (hm.cell hN hv _).trans h2, (hm.cell hN hv _).trans h3⟩

end Go.Proofs.YtkoghgnbolaooaaGreat

namespace Go.Proofs.YtkoghgnbolaooaaGreat
open Go.RowKit

theorem info_int : ∃ i, Tryz.prog.info? 3 = some i ∧ i.zero = some (.int .i64 0) ∧ i.size = 1 ∧ i.bytes = 8 := by
  have hinfo := infoInt
  cases hi : Tryz.prog.info? 3 with
  | none => rw [hi] at hinfo; cases hinfo
  | some i =>
    rw [hi] at hinfo
    simp only [Option.map_some, Option.some.injEq, Prod.mk.injEq] at hinfo
    exact ⟨i, rfl, hinfo⟩

/-- Nothing is appended from nil. -/
theorem run_append_none (w : World) (ty : TypeId) (B c : Nat) (v : Value) (xs : List Int) (h : OwnI w B v xs) :
    (Builtin.append_ #[41, 41] ty #[v, .slice none 0 c]).run Tryz.prog w = .ok v w := by
  obtain ⟨i, hi, _⟩ := info_int
  rcases h.2 with ⟨rfl, _⟩ | ⟨g, cap, cur, rfl, _, _, hnc, _⟩
  · simp [Builtin.append_, run_underlying Tryz.underlying41, sizeOf, typeInfo, hi, Builtin.lenOf, Builtin.firstCells]
  · simp [Builtin.append_, run_underlying Tryz.underlying41, sizeOf, typeInfo, hi, Builtin.lenOf, Builtin.firstCells, hnc, storeCells]

/-- What append does with ints, behind a list of one's own. -/
theorem run_append_ints (w : World) (ty : TypeId) (B c : Nat) (v : Value) (a0 : Option Addr) (xs ys : List Int) (h : OwnI w B v xs) (hy : Sl w a0 ys) (hn : xs.length + ys.length ≤ 4000000) (hB : B ≤ w.heap.size) :
    ∃ v' w', (Builtin.append_ #[41, 41] ty #[v, .slice a0 ys.length c]).run Tryz.prog w = .ok v' w' ∧ OwnI w' B v' (xs ++ ys) ∧ w.grownBy w' v.ownBlock ∧ (v'.ownBlock = v.ownBlock ∨ v'.ownBlock = some w.heap.size) := by
  obtain ⟨i, hi, hz, hs, hb⟩ := info_int
  cases a0 with
  | none =>
    have hy0 : ys = [] := by
      rcases hy with h0 | ⟨b, off, e, _⟩
      · exact h0
      · cases e
    subst hy0
    exact ⟨v, w, run_append_none w ty B c v xs h, by simpa using h, World.grownBy.refl _ _, .inl rfl⟩
  | some a =>
    have hnews : ∀ j u, (ys.map (Value.int .i64))[j]? = some u → w.cell? (a.add j) = some u := by
      rcases hy with h0 | ⟨b, off, e, hlt, hc⟩
      · subst h0; intro j u hj; simp at hj
      · cases e
        exact src_of_sl (.inr ⟨b, off, rfl, hlt, hc⟩) (Below.refl _ _)
    obtain ⟨v', w', h1, h2, h3, _, h5⟩ := run_append_own_at (P := Tryz.prog) w B 41 ty 3 i (.int .i64 0) 1 8 Tryz.underlying41 hi hz hs hb rfl (by decide) v xs.length (xs.map (Value.int .i64)) h a ys.length c (ys.map (Value.int .i64)) (by simp) hnews (one_ints ys) (by unfold maxLen; omega) (by omega) hB
    refine ⟨v', w', h1, ?_, h3, h5⟩
    unfold OwnI
    rw [List.length_append, List.map_append]
    exact h2

theorem wpList_append_ints {ops : Array Oper} {rest : List Oper} {op : Oper} {act : Act} {Q : Exit → Act → World → Prop} (w : World) (hgd : op.guard = none) (s x : Operand)
    (ho : op.op = .call { callee := .builtin .append, args := #[s, x], argTypes := #[41, 41] })
    (B c : Nat) (v : Value) (a0 : Option Addr) (xs ys : List Int) (hs : act.eval s = v) (hx : act.eval x = .slice a0 ys.length c) (hv : OwnI w B v xs) (hy : Sl w a0 ys) (hn : xs.length + ys.length ≤ 4000000) (hB : B ≤ w.heap.size)
    (h : ∀ v' w', OwnI w' B v' (xs ++ ys) → w.grownBy w' v.ownBlock → (v'.ownBlock = v.ownBlock ∨ v'.ownBlock = some w.heap.size) → wpList Tryz.prog ops Q rest (act.put op.dst v') w') :
    wpList Tryz.prog ops Q (op :: rest) act w := by
  obtain ⟨v', w', h1, h2, h3, h4⟩ := run_append_ints w op.type B c v a0 xs ys hv hy hn hB
  refine wpList_plain hgd fun K hK => ?_
  unfold Oper.wp execOp
  simp only [ho, resolve, invoke, builtin, Sem.run_bind, Sem.run_pure, Result.andThen_ok, List.map_toArray, List.map_cons, List.map_nil, hs, hx, h1]
  exact hK _ _ (h v' w' h2 h3 h4)

theorem own_empty (w : World) : OwnI (w.alloc (.cells #[] 3)) w.heap.size (.slice (some ⟨w.heap.size, 0, none⟩) 0 0) [] :=
  World.ownsRow_made (base := w.heap.size) (e := 3) (size := 1) w #[] 0 (Nat.le_refl _) (by unfold maxLen; omega) rfl

theorem own_emptyN (w : World) {N : Nat} (h : N = w.heap.size) : OwnI (w.alloc (.cells #[] 3)) N (.slice (some ⟨N, 0, none⟩) 0 0) [] := by
  subst h
  exact own_empty w

/-- A new list of these ints. -/
theorem wpList_append_new {ops : Array Oper} {rest : List Oper} {op : Oper} {act : Act} {Q : Exit → Act → World → Prop} (w : World) {N : Nat} (hN : N = w.heap.size) (hgd : op.guard = none) (s x : Operand)
    (ho : op.op = .call { callee := .builtin .append, args := #[s, x], argTypes := #[41, 41] })
    (c : Nat) (a0 : Option Addr) (ys : List Int) (hs : act.eval s = .slice (some ⟨N, 0, none⟩) 0 0) (hx : act.eval x = .slice a0 ys.length c) (hy : Sl w a0 ys) (hn : ys.length ≤ 1048576)
    (h : ∀ v' w', OwnI w' w.heap.size v' ys → Below w.heap.size w w' → wpList Tryz.prog ops Q rest (act.put op.dst v') w') :
    wpList Tryz.prog ops Q (op :: rest) act (w.alloc (.cells #[] 3)) := by
  subst hN
  have hb : Below w.heap.size w (w.alloc (.cells #[] 3)) := (Below.refl _ _).alloc (Nat.le_refl _) _
  refine wpList_append_ints _ hgd s x ho w.heap.size c (.slice (some ⟨w.heap.size, 0, none⟩) 0 0) a0 [] ys hs hx (own_empty w) (hy.below hb) (by simp; omega) (by simp) ?_
  intro v' w' o g _
  exact h v' w' (by simpa using o) (hb.grown g (by simp) (fun k hk => by cases hk; exact Nat.le_refl _))

/-- Where the walk stands still, at an append. -/
def STOP (p : Prop) : Prop := p
theorem append_stop {P : Program} {ops : Array Oper} {rest : List Oper} {op : Oper} {act : Act} {Q : Exit → Act → World → Prop} {w : World} {a : Array Operand} {t : Array TypeId} (_ : op.op = .call { callee := .builtin .append, args := a, argTypes := t }) (h : STOP (wpList P ops Q (op :: rest) act w)) : wpList P ops Q (op :: rest) act w := h

set_option maxRecDepth 100000 in
set_option maxHeartbeats 1000000 in
theorem clone_any (a0 : Option Addr) (cap : Nat) (xs : List Int) (w : World) (hlen : xs.length ≤ 1048576) (h : Sl w a0 xs) :
    Calls Tryz.prog 64 #[.slice a0 xs.length cap] w fun e w' => ∃ v, e = .returned v ∧ OwnI w' w.heap.size v xs ∧ Below w.heap.size w w' := by
  cases a0 with
  | none =>
    have h0 : xs = [] := by
      rcases h with h0 | ⟨b, off, e, _⟩
      · exact h0
      · cases e
    subst h0
    have he : ∀ wx : World, (binOp .eql 41 (.slice none 0 cap) (.slice none 0 0)).run Tryz.prog wx = .ok (.bool true) wx := fun wx => by kernel_rfl
    go_enter Tryz.func64, Tryz.ntmps64
    go_wp2
    go_ret
    exact ⟨_, rfl, World.ownsRow_nil _ _ _ _, Below.refl _ _⟩
  | some a =>
    have HS : Hid (Sl w (some a) xs) := h
    have he : ∀ wx : World, (binOp .eql 41 (.slice (some a) xs.length cap) (.slice none 0 0)).run Tryz.prog wx = .ok (.bool false) wx := fun wx => by kernel_rfl
    clear h
    go_enter Tryz.func64, Tryz.ntmps64
    go_wp2_with (at_builtin; refine wpList_append_ints _ rfl _ _ rfl w.heap.size cap (.slice (some ⟨w.heap.size, 0, none⟩) 0 0) (some a) [] xs rfl rfl (own_empty w) (HS.out.below ((Below.refl _ _).alloc (Nat.le_refl _) _)) (by simp; omega) (by simp) ?_; intro v' w1 o1 g1 _; have HF : Hid (OwnI w1 w.heap.size v' xs ∧ Below w.heap.size w w1) := ⟨by simpa using o1, ((Below.refl _ _).alloc (Nat.le_refl _) _).grown g1 (by simp) (fun k hk => by cases hk; exact Nat.le_refl _)⟩; clear o1 g1)
    go_ret
    exact ⟨_, rfl, HF.out⟩

set_option maxRecDepth 100000 in
set_option maxHeartbeats 1000000 in
theorem copyState_any (p code : Int) (ra oa : Option Addr) (rc oc : Nat) (rs os : List Int) (w : World) (hr : rs.length ≤ 1048576) (ho : os.length ≤ 1048576) (h1 : Sl w ra rs) (h2 : Sl w oa os) :
    Calls Tryz.prog 44 #[stV p ra rs.length rc oa os.length oc code] w fun e w' => ∃ v, e = .returned v ∧ StOwn w' w.heap.size v p rs os code ∧ Below w.heap.size w w' := by
  have H1 : Hid (Sl w ra rs) := h1
  have H2 : Hid (Sl w oa os) := h2
  clear h1 h2
  go_enter Tryz.func44, Tryz.ntmps44
  go_wp2_with fail
  refine (clone_any ra rc rs _ hr (H1.out.below (by go_grown))).mono ?_
  rintro e w1 ⟨v1, rfl, o1, b1⟩
  have B1 : Hid (Below w.heap.size w w1) := below_up (by go_grown) b1 (by simp; omega)
  obtain ⟨hc1, hf1⟩ := bcell b1
  have y1 : w.heap.size + 1 < w1.heap.size := by have := b1.size; simp at this; omega
  have y0 : w.heap.size < w1.heap.size := by omega
  obtain ⟨ra1, rc1, rfl, _⟩ := o1.form
  have s0 : w1.cell? ⟨w.heap.size, 0, none⟩ = some (.int .i64 p) := by rw [hc1 _ _ (by simp; omega)]; simp
  have s1 : w1.cell? ⟨w.heap.size, 1, none⟩ = some (.slice ra rs.length rc) := by rw [hc1 _ _ (by simp; omega)]; simp
  have s2 : w1.cell? ⟨w.heap.size, 2, none⟩ = some (.slice oa os.length oc) := by rw [hc1 _ _ (by simp; omega)]; simp
  have s3 : w1.cell? ⟨w.heap.size, 3, none⟩ = some (.int .i64 code) := by rw [hc1 _ _ (by simp; omega)]; simp
  have L1 : Hid (∀ k, (Value.slice ra1 rs.length rc1).ownBlock = some k → w.heap.size + 1 < k ∧ k < w1.heap.size) := fun k hk => by have := o1.lt k hk; simp at this; omega
  have BS : Hid (Below w.heap.size w (w1.setCell ⟨w.heap.size, 1, none⟩ (.slice ra1 rs.length rc1))) := B1.out.setCell (by simp) _
  have O1 : Hid (OwnI (w1.setCell ⟨w.heap.size, 1, none⟩ (.slice ra1 rs.length rc1)) (w.heap.size + 1 + 1) (.slice ra1 rs.length rc1) rs) := by
    simp only [World.size_alloc] at o1
    exact o1.setBelow (by simp; omega) _
  clear o1 b1 B1
  go_wp2_with fail
  refine (clone_any oa oc os _ ho (H2.out.below BS.out)).mono ?_
  rintro e w2 ⟨v2, rfl, o2, b2⟩
  have B2 : Hid (Below w.heap.size w w2) := below_up BS.out b2 (by simp; omega)
  obtain ⟨hc2, hf2⟩ := bcell b2
  obtain ⟨oa2, oc2, rfl, _⟩ := o2.form
  have O1' : Hid (OwnI w2 (w.heap.size + 1 + 1) (.slice ra1 rs.length rc1) rs) := O1.out.below b2
  simp only [World.size_setCell] at o2
  have O2 : Hid (OwnI w2 w1.heap.size (.slice oa2 os.length oc2) os) := o2
  clear o2 b2 BS O1
  go_wp2
  refine bodyPost_ret (v := stV p ra1 rs.length rc1 oa2 os.length oc2 code) (by simp [results, Tryz.results44, go_sem, hc2, y1, hc1]) rfl ⟨_, rfl, ⟨_, _, rfl, ?_, ?_, ?_⟩, ?_⟩
  · refine OwnI.mono (B := w.heap.size + 1 + 1) ?_ (by omega)
    repeat (refine OwnI.setBelow ?_ (by first | (simp; done) | (simp; omega)) _)
    exact O1'.out
  · refine OwnI.mono (B := w1.heap.size) ?_ (by omega)
    repeat (refine OwnI.setBelow ?_ (by simpa using by omega) _)
    exact O2.out
  · intro k hk hk'
    have h1 := L1.out k hk
    have h2 := O2.out.lt k hk'
    omega
  · have := B2.out
    go_grown

set_option maxRecDepth 100000 in
set_option maxHeartbeats 1000000 in
theorem l2Copy_any (p code : Int) (ra oa : Option Addr) (rc oc : Nat) (rs os : List Int) (w : World) (hr : rs.length ≤ 1048576) (ho : os.length ≤ 1048576) (h1 : Sl w ra rs) (h2 : Sl w oa os) :
    Calls Tryz.prog 39 #[stV p ra rs.length rc oa os.length oc code] w fun e w' => ∃ v, e = .returned v ∧ StOwn w' w.heap.size v p rs os code ∧ Below w.heap.size w w' := by
  have H1 : Hid (Sl w ra rs) := h1
  have H2 : Hid (Sl w oa os) := h2
  clear h1 h2
  go_enter Tryz.func39, Tryz.ntmps39
  go_wp2_with (at_builtin; refine append_stop rfl ?_)
  unfold STOP
  refine wpList_append_new _ (N := w.heap.size + 1 + 1) (by simp) rfl _ _ rfl rc ra rs rfl rfl (H1.out.below (by go_grown)) hr ?_
  intro v1 w1 o1 b1
  have B1 : Hid (Below w.heap.size w w1) := below_up (by go_grown) b1 (by simp; omega)
  obtain ⟨hc1, hf1⟩ := bcell b1
  have y1 : w.heap.size + 1 < w1.heap.size := by have := b1.size; simp at this; omega
  have y0 : w.heap.size < w1.heap.size := by omega
  obtain ⟨ra1, rc1, rfl, _⟩ := o1.form
  have s0 : w1.cell? ⟨w.heap.size, 0, none⟩ = some (.int .i64 p) := by rw [hc1 _ _ (by simp; omega)]; simp
  have s1 : w1.cell? ⟨w.heap.size, 1, none⟩ = some (.slice ra rs.length rc) := by rw [hc1 _ _ (by simp; omega)]; simp
  have s2 : w1.cell? ⟨w.heap.size, 2, none⟩ = some (.slice oa os.length oc) := by rw [hc1 _ _ (by simp; omega)]; simp
  have s3 : w1.cell? ⟨w.heap.size, 3, none⟩ = some (.int .i64 code) := by rw [hc1 _ _ (by simp; omega)]; simp
  have L1 : Hid (∀ k, (Value.slice ra1 rs.length rc1).ownBlock = some k → w.heap.size + 1 < k ∧ k < w1.heap.size) := fun k hk => by have := o1.lt k hk; simp at this; omega
  have BS : Hid (Below w.heap.size w (w1.setCell ⟨w.heap.size, 1, none⟩ (.slice ra1 rs.length rc1))) := B1.out.setCell (by simp) _
  have O1 : Hid (OwnI (w1.setCell ⟨w.heap.size, 1, none⟩ (.slice ra1 rs.length rc1)) (w.heap.size + 1 + 1) (.slice ra1 rs.length rc1) rs) := by
    simp only [World.size_alloc] at o1
    exact o1.setBelow (by simp; omega) _
  clear o1 b1 B1
  go_wp2_with (at_builtin; refine append_stop rfl ?_)
  unfold STOP
  refine wpList_append_new (w1.setCell ⟨w.heap.size, 1, none⟩ (.slice ra1 rs.length rc1)) (N := w1.heap.size) (by simp) rfl _ _ rfl oc oa os rfl rfl (H2.out.below BS.out) ho ?_
  intro v2 w2 o2 b2
  have B2 : Hid (Below w.heap.size w w2) := below_up BS.out b2 (by simp; omega)
  obtain ⟨hc2, hf2⟩ := bcell b2
  obtain ⟨oa2, oc2, rfl, _⟩ := o2.form
  have O1' : Hid (OwnI w2 (w.heap.size + 1 + 1) (.slice ra1 rs.length rc1) rs) := O1.out.below b2
  simp only [World.size_setCell] at o2
  have O2 : Hid (OwnI w2 w1.heap.size (.slice oa2 os.length oc2) os) := o2
  clear o2 b2 BS O1
  go_wp2
  refine bodyPost_ret (v := stV p ra1 rs.length rc1 oa2 os.length oc2 code) (by simp [results, Tryz.results39, go_sem, hc2, y1, hc1]) rfl ⟨_, rfl, ⟨_, _, rfl, ?_, ?_, ?_⟩, ?_⟩
  · refine OwnI.mono (B := w.heap.size + 1 + 1) ?_ (by omega)
    repeat (refine OwnI.setBelow ?_ (by first | (simp; done) | (simp; omega)) _)
    exact O1'.out
  · refine OwnI.mono (B := w1.heap.size) ?_ (by omega)
    repeat (refine OwnI.setBelow ?_ (by simpa using by omega) _)
    exact O2.out
  · intro k hk hk'
    have h1 := L1.out k hk
    have h2 := O2.out.lt k hk'
    omega
  · have := B2.out
    go_grown

end Go.Proofs.YtkoghgnbolaooaaGreat

namespace Go.Proofs.YtkoghgnbolaooaaGreat
open Go.RowKit

theorem i64_and255 (n : Int) : bits .and .i64 n 255 = n % 256 := by
  have h255 : (BitVec.ofInt 64 255).toNat = 2 ^ 8 - 1 := by decide
  have key : (BitVec.ofInt 64 n &&& BitVec.ofInt 64 255).toNat = (n % ((2 ^ 64 : Nat) : Int)).toNat % 2 ^ 8 := by
    rw [BitVec.toNat_and, BitVec.toNat_ofInt, h255, Nat.and_two_pow_sub_one_eq_mod]
  show IntKind.i64.wrap ((BitVec.ofInt 64 n &&& BitVec.ofInt 64 255).toNat : Nat) = n % 256
  rw [key, IntKind.wrap_i64]
  omega

/-- The bytes of a draw, in memory that was there before. -/
def BytesAt (w : World) (W0 : Nat) (a0 : Option Addr) (len : Nat) : Prop :=
  len = 0 ∨ ∃ b off, a0 = some ⟨b, off, none⟩ ∧ b < W0 ∧ ∀ j, j < len → ∃ z : Int, w.cell? ⟨b, off + j, none⟩ = some (.int .u8 z) ∧ 0 ≤ z ∧ z ≤ 255

/-- Block c is a cursor over these bytes. -/
structure Cur (w : World) (W0 c : Nat) (a0 : Option Addr) (len cap : Nat) : Prop where
  ex : ∃ (i : Nat) (h : Int), w.cell? ⟨c, 0, none⟩ = some (.slice a0 len cap) ∧ w.cell? ⟨c, 1, none⟩ = some (.int .i64 i) ∧ w.cell? ⟨c, 2, none⟩ = some (.int .i64 h)
  fr : ∀ o, w.frozen? ⟨c, o, none⟩ = false
  lt : c < w.heap.size
  ge : W0 ≤ c
  by' : BytesAt w W0 a0 len
  ln : len ≤ 1048576

theorem BytesAt.kept {w w' : World} {W0 len : Nat} {a0 : Option Addr} (h : BytesAt w W0 a0 len) (hb : ∀ k, k < W0 → w'.heap[k]? = w.heap[k]?) : BytesAt w' W0 a0 len := by
  rcases h with h | ⟨b, off, e, hlt, hz⟩
  · exact .inl h
  · refine .inr ⟨b, off, e, hlt, fun j hj => ?_⟩
    obtain ⟨z, hz1, hz2⟩ := hz j hj
    exact ⟨z, (World.cell?_of_block (hb b hlt)).trans hz1, hz2⟩

/-- A cursor stands as it was where neither it nor the old memory was written. -/
theorem Cur.kept {w w' : World} {W0 c len cap : Nat} {a0 : Option Addr} {row : Option Nat} (h : Cur w W0 c a0 len cap) (hg : w.grownBy w' row) (hne : some c ≠ row) (hr : ∀ k, row = some k → W0 ≤ k) : Cur w' W0 c a0 len cap := by
  have hc := hg.block c h.lt hne
  obtain ⟨i, hh, h0, h1, h2⟩ := h.ex
  refine ⟨⟨i, hh, (World.cell?_of_block hc).trans h0, (World.cell?_of_block hc).trans h1, (World.cell?_of_block hc).trans h2⟩, fun o => (World.frozen?_of_block hc).trans (h.fr o), Nat.lt_of_lt_of_le h.lt hg.size, h.ge, ?_, h.ln⟩
  exact h.by'.kept fun k hk => hg.block k (Nat.lt_trans (Nat.lt_of_lt_of_le hk h.ge) h.lt) (fun e => by have := hr k e.symm; omega)

theorem Cur.alloc {w : World} {W0 c len cap : Nat} {a0 : Option Addr} (h : Cur w W0 c a0 len cap) (o : Obj) : Cur (w.alloc o) W0 c a0 len cap :=
  h.kept (World.grownBy_alloc w o none) (by simp) (fun k hk => by cases hk)

theorem grown_drewN {w w' : World} {row : Option Nat} (h : w.grownBy w' row) (n : Nat) : w.grownBy (w'.drewN n) row := ⟨h.os, h.tape, h.output, h.size, h.block⟩
theorem grown_setCell {w w' : World} {row : Option Nat} (h : w.grownBy w' row) {p : Addr} (hp : row = some p.block ∨ w.heap.size ≤ p.block) (v : Value) : w.grownBy (w'.setCell p v) row :=
  ⟨h.os, h.tape, h.output, by simpa using h.size, fun k hk hne => by
    rw [Below.heap_setCell w' p v k (fun e => by
      subst e
      rcases hp with hp | hp
      · exact hne hp.symm
      · omega)]
    exact h.block k hk hne⟩

theorem Cur.drewN {w : World} {W0 c len cap : Nat} {a0 : Option Addr} (h : Cur w W0 c a0 len cap) (n : Nat) : Cur (w.drewN n) W0 c a0 len cap := ⟨h.ex, h.fr, h.lt, h.ge, h.by', h.ln⟩
theorem Cur.drew {w : World} {W0 c len cap : Nat} {a0 : Option Addr} (h : Cur w W0 c a0 len cap) : Cur w.drew W0 c a0 len cap := ⟨h.ex, h.fr, h.lt, h.ge, h.by', h.ln⟩
theorem Cur.bytesSet {w : World} {W0 c len cap : Nat} {a0 : Option Addr} (h : Cur w W0 c a0 len cap) (o : Nat) (v : Value) : BytesAt (w.setCell ⟨c, o, none⟩ v) W0 a0 len :=
  h.by'.kept fun k hk => Below.heap_setCell w ⟨c, o, none⟩ v k (fun e => by have := h.ge; simp at e; omega)
theorem Cur.set2 {w : World} {W0 c len cap : Nat} {a0 : Option Addr} (h : Cur w W0 c a0 len cap) (x : Int) : Cur (w.setCell ⟨c, 2, none⟩ (.int .i64 x)) W0 c a0 len cap := by
  obtain ⟨i, y, h0, h1, h2⟩ := h.ex
  exact ⟨⟨i, x, by go_cell, by go_cell, by go_cell⟩, fun o => by simpa using h.fr o, by simpa using h.lt, h.ge, h.bytesSet _ _, h.ln⟩
theorem Cur.set1 {w : World} {W0 c len cap : Nat} {a0 : Option Addr} (h : Cur w W0 c a0 len cap) (x : Int) (hx : 0 ≤ x) : Cur (w.setCell ⟨c, 1, none⟩ (.int .i64 x)) W0 c a0 len cap := by
  obtain ⟨i, y, h0, h1, h2⟩ := h.ex
  obtain ⟨k, rfl⟩ := Int.eq_ofNat_of_zero_le hx
  exact ⟨⟨k, y, by go_cell, by go_cell, by go_cell⟩, fun o => by simpa using h.fr o, by simpa using h.lt, h.ge, h.bytesSet _ _, h.ln⟩

/-- A row of ints of the draw's own. -/
def IntsAt (w : World) (b len : Nat) (z : Nat → Int) : Prop := ∀ j, j < len → w.cell? ⟨b, j, none⟩ = some (.int .i64 (z j))

end Go.Proofs.YtkoghgnbolaooaaGreat

namespace Go.Proofs.YtkoghgnbolaooaaGreat
open Go.RowKit

theorem inB_below (p : Int) (n : Nat) : inB p 0 ((n : Int) - 1) = belB p n := by
  rw [Bool.eq_iff_iff]; simp [inB, belB]; omega

end Go.Proofs.YtkoghgnbolaooaaGreat
