/- The walks of the laws' marks over lists of ints and states, and of the helpers over events. -/
import Derived.Test.YtkoghgnbolaooaaKa2
import Derived.Test.YtkoghgnbolaooaaKa3
namespace Go.Proofs.Ytkoghgnbolaooaa
open Go.RowKit

theorem ret_bool {x y : Bool} (h : x = y) : Ending.returned (.bool x) = .returned (.bool y) := by rw [h]


set_option maxRecDepth 100000 in
set_option maxHeartbeats 1000000 in
theorem specInsOk_1 (r a b n places procs : Int) (w : World) (h1 : inB r 0 3 = true) (h2 : inB a 0 3 = true) (h3 : inB b 0 3 = true) (h4 : inB procs 1 4 = true) (h5 : 1 ≤ procs) (h6 : procs ≤ 4) :
    Calls Try.prog 47 #[insV 1 r a b n, .int .i64 places, .int .i64 procs] w fun e w' => e = .returned (.bool (inB n (-1000000000) 1000000000 && a == 0 && b == 0)) ∧ Below w.heap.size w w' := by
  go_enter Try.func47, Try.ntmps47
  go_wp2_with (first | (go_at_call 20; refine (l1In_any _ _ _ _).mono ?_; rintro e w' ⟨rfl, rfl⟩) | (go_at_call 55; refine (l1Num_any _ _).mono ?_; rintro e w' ⟨rfl, rfl⟩))
  all_goals
    go_ret
    refine ⟨ret_bool ?_, by go_grown⟩
    first | rfl | (simp [*]; done)


set_option maxRecDepth 100000 in
set_option maxHeartbeats 1000000 in
theorem specInsOk_2 (r a b n places procs : Int) (w : World) (h1 : inB r 0 3 = true) (h2 : inB a 0 3 = true) (h3 : inB b 0 3 = true) (h4 : inB procs 1 4 = true) (h5 : 1 ≤ procs) (h6 : procs ≤ 4) :
    Calls Try.prog 47 #[insV 2 r a b n, .int .i64 places, .int .i64 procs] w fun e w' => e = .returned (.bool (n == 0)) ∧ Below w.heap.size w w' := by
  go_enter Try.func47, Try.ntmps47
  go_wp2_with (first | (go_at_call 20; refine (l1In_any _ _ _ _).mono ?_; rintro e w' ⟨rfl, rfl⟩) | (go_at_call 55; refine (l1Num_any _ _).mono ?_; rintro e w' ⟨rfl, rfl⟩))
  all_goals
    go_ret
    refine ⟨ret_bool ?_, by go_grown⟩
    first | rfl | (simp [*]; done)


set_option maxRecDepth 100000 in
set_option maxHeartbeats 1000000 in
theorem specInsOk_3 (r a b n places procs : Int) (w : World) (h1 : inB r 0 3 = true) (h2 : inB a 0 3 = true) (h3 : inB b 0 3 = true) (h4 : inB procs 1 4 = true) (h5 : 1 ≤ procs) (h6 : procs ≤ 4) :
    Calls Try.prog 47 #[insV 3 r a b n, .int .i64 places, .int .i64 procs] w fun e w' => e = .returned (.bool (n == 0)) ∧ Below w.heap.size w w' := by
  go_enter Try.func47, Try.ntmps47
  go_wp2_with (first | (go_at_call 20; refine (l1In_any _ _ _ _).mono ?_; rintro e w' ⟨rfl, rfl⟩) | (go_at_call 55; refine (l1Num_any _ _).mono ?_; rintro e w' ⟨rfl, rfl⟩))
  all_goals
    go_ret
    refine ⟨ret_bool ?_, by go_grown⟩
    first | rfl | (simp [*]; done)


set_option maxRecDepth 100000 in
set_option maxHeartbeats 1000000 in
theorem specInsOk_4 (r a b n places procs : Int) (w : World) (h1 : inB r 0 3 = true) (h2 : inB a 0 3 = true) (h3 : inB b 0 3 = true) (h4 : inB procs 1 4 = true) (h5 : 1 ≤ procs) (h6 : procs ≤ 4) :
    Calls Try.prog 47 #[insV 4 r a b n, .int .i64 places, .int .i64 procs] w fun e w' => e = .returned (.bool (n == 0)) ∧ Below w.heap.size w w' := by
  go_enter Try.func47, Try.ntmps47
  go_wp2_with (first | (go_at_call 20; refine (l1In_any _ _ _ _).mono ?_; rintro e w' ⟨rfl, rfl⟩) | (go_at_call 55; refine (l1Num_any _ _).mono ?_; rintro e w' ⟨rfl, rfl⟩))
  all_goals
    go_ret
    refine ⟨ret_bool ?_, by go_grown⟩
    first | rfl | (simp [*]; done)


set_option maxRecDepth 100000 in
set_option maxHeartbeats 1000000 in
theorem specInsOk_5 (r a b n places procs : Int) (w : World) (h1 : inB r 0 3 = true) (h2 : inB a 0 3 = true) (h3 : inB b 0 3 = true) (h4 : inB procs 1 4 = true) (h5 : 1 ≤ procs) (h6 : procs ≤ 4) :
    Calls Try.prog 47 #[insV 5 r a b n, .int .i64 places, .int .i64 procs] w fun e w' => e = .returned (.bool (n == 0)) ∧ Below w.heap.size w w' := by
  go_enter Try.func47, Try.ntmps47
  go_wp2_with (first | (go_at_call 20; refine (l1In_any _ _ _ _).mono ?_; rintro e w' ⟨rfl, rfl⟩) | (go_at_call 55; refine (l1Num_any _ _).mono ?_; rintro e w' ⟨rfl, rfl⟩))
  all_goals
    go_ret
    refine ⟨ret_bool ?_, by go_grown⟩
    first | rfl | (simp [*]; done)


set_option maxRecDepth 100000 in
set_option maxHeartbeats 1000000 in
theorem specInsOk_6 (r a b n places procs : Int) (w : World) (h1 : inB r 0 3 = true) (h2 : inB a 0 3 = true) (h3 : inB b 0 3 = true) (h4 : inB procs 1 4 = true) (h5 : 1 ≤ procs) (h6 : procs ≤ 4) :
    Calls Try.prog 47 #[insV 6 r a b n, .int .i64 places, .int .i64 procs] w fun e w' => e = .returned (.bool (inB n 0 (procs - 1) && r == 0 && b == 0)) ∧ Below w.heap.size w w' := by
  go_enter Try.func47, Try.ntmps47
  go_wp2_with (first | (go_at_call 20; refine (l1In_any _ _ _ _).mono ?_; rintro e w' ⟨rfl, rfl⟩) | (go_at_call 55; refine (l1Num_any _ _).mono ?_; rintro e w' ⟨rfl, rfl⟩))
  all_goals
    go_ret
    refine ⟨ret_bool ?_, by go_grown⟩
    first | rfl | (simp [*]; done)


set_option maxRecDepth 100000 in
set_option maxHeartbeats 1000000 in
theorem specInsOk_7 (r a b n places procs : Int) (w : World) (h1 : inB r 0 3 = true) (h2 : inB a 0 3 = true) (h3 : inB b 0 3 = true) (h4 : inB procs 1 4 = true) (h5 : 1 ≤ procs) (h6 : procs ≤ 4) :
    Calls Try.prog 47 #[insV 7 r a b n, .int .i64 places, .int .i64 procs] w fun e w' => e = .returned (.bool ((inB n 0 (procs - 1) || n == 9) && a == 0 && b == 0)) ∧ Below w.heap.size w w' := by
  go_enter Try.func47, Try.ntmps47
  go_wp2_with (first | (go_at_call 20; refine (l1In_any _ _ _ _).mono ?_; rintro e w' ⟨rfl, rfl⟩) | (go_at_call 55; refine (l1Num_any _ _).mono ?_; rintro e w' ⟨rfl, rfl⟩))
  all_goals
    go_ret
    refine ⟨ret_bool ?_, by go_grown⟩
    first | rfl | (simp [*]; done)


set_option maxRecDepth 100000 in
set_option maxHeartbeats 1000000 in
theorem specInsOk_8 (r a b n places procs : Int) (w : World) (h1 : inB r 0 3 = true) (h2 : inB a 0 3 = true) (h3 : inB b 0 3 = true) (h4 : inB procs 1 4 = true) (h5 : 1 ≤ procs) (h6 : procs ≤ 4) :
    Calls Try.prog 47 #[insV 8 r a b n, .int .i64 places, .int .i64 procs] w fun e w' => e = .returned (.bool (r == 0 && b == 0 && n == 0)) ∧ Below w.heap.size w w' := by
  go_enter Try.func47, Try.ntmps47
  go_wp2_with (first | (go_at_call 20; refine (l1In_any _ _ _ _).mono ?_; rintro e w' ⟨rfl, rfl⟩) | (go_at_call 55; refine (l1Num_any _ _).mono ?_; rintro e w' ⟨rfl, rfl⟩))
  all_goals
    go_ret
    refine ⟨ret_bool ?_, by go_grown⟩
    first | rfl | (simp [*]; done)


set_option maxRecDepth 100000 in
set_option maxHeartbeats 1000000 in
theorem specInsOk_9 (r a b n places procs : Int) (w : World) (h1 : inB r 0 3 = true) (h2 : inB a 0 3 = true) (h3 : inB b 0 3 = true) (h4 : inB procs 1 4 = true) (h5 : 1 ≤ procs) (h6 : procs ≤ 4) :
    Calls Try.prog 47 #[insV 9 r a b n, .int .i64 places, .int .i64 procs] w fun e w' => e = .returned (.bool (belB n places && r == 0 && a == 0 && b == 0)) ∧ Below w.heap.size w w' := by
  go_enter Try.func47, Try.ntmps47
  go_wp2_with (first | (go_at_call 20; refine (l1In_any _ _ _ _).mono ?_; rintro e w' ⟨rfl, rfl⟩) | (go_at_call 55; refine (l1Num_any _ _).mono ?_; rintro e w' ⟨rfl, rfl⟩))
  all_goals
    go_ret
    refine ⟨ret_bool ?_, by go_grown⟩
    first | rfl | (simp [*, belB]; done) | (simp [*, belB]; omega)


set_option maxRecDepth 100000 in
set_option maxHeartbeats 1000000 in
theorem specInsOk_10 (r a b n places procs : Int) (w : World) (h1 : inB r 0 3 = true) (h2 : inB a 0 3 = true) (h3 : inB b 0 3 = true) (h4 : inB procs 1 4 = true) (h5 : 1 ≤ procs) (h6 : procs ≤ 4) :
    Calls Try.prog 47 #[insV 10 r a b n, .int .i64 places, .int .i64 procs] w fun e w' => e = .returned (.bool (belB n places && r == 0 && b == 0)) ∧ Below w.heap.size w w' := by
  go_enter Try.func47, Try.ntmps47
  go_wp2_with (first | (go_at_call 20; refine (l1In_any _ _ _ _).mono ?_; rintro e w' ⟨rfl, rfl⟩) | (go_at_call 55; refine (l1Num_any _ _).mono ?_; rintro e w' ⟨rfl, rfl⟩))
  all_goals
    go_ret
    refine ⟨ret_bool ?_, by go_grown⟩
    first | rfl | (simp [*, belB]; done) | (simp [*, belB]; omega)


set_option maxRecDepth 100000 in
set_option maxHeartbeats 1000000 in
theorem specInsOk_11 (r a b n places procs : Int) (w : World) (h1 : inB r 0 3 = true) (h2 : inB a 0 3 = true) (h3 : inB b 0 3 = true) (h4 : inB procs 1 4 = true) (h5 : 1 ≤ procs) (h6 : procs ≤ 4) :
    Calls Try.prog 47 #[insV 11 r a b n, .int .i64 places, .int .i64 procs] w fun e w' => e = .returned (.bool (r == 0 && a == 0 && b == 0 && n == 0)) ∧ Below w.heap.size w w' := by
  go_enter Try.func47, Try.ntmps47
  go_wp2_with (first | (go_at_call 20; refine (l1In_any _ _ _ _).mono ?_; rintro e w' ⟨rfl, rfl⟩) | (go_at_call 55; refine (l1Num_any _ _).mono ?_; rintro e w' ⟨rfl, rfl⟩))
  all_goals
    go_ret
    refine ⟨ret_bool ?_, by go_grown⟩
    first | rfl | (simp [*]; done)


set_option maxRecDepth 100000 in
set_option maxHeartbeats 1000000 in
theorem specInsOk_none (op r a b n places procs : Int) (w : World) (h1 : inB r 0 3 = true) (h2 : inB a 0 3 = true) (h3 : inB b 0 3 = true) (h4 : inB procs 1 4 = true) (h5 : 1 ≤ procs) (h6 : procs ≤ 4) (h : op < 1 ∨ 11 < op) :
    Calls Try.prog 47 #[insV op r a b n, .int .i64 places, .int .i64 procs] w fun e w' => e = .returned (.bool false) ∧ Below w.heap.size w w' := by
  have g1 : (op == 1) = false := by simp; omega
  have g2 : (op == 2) = false := by simp; omega
  have g3 : (op == 3) = false := by simp; omega
  have g4 : (op == 4) = false := by simp; omega
  have g5 : (op == 5) = false := by simp; omega
  have g6 : (op == 6) = false := by simp; omega
  have g7 : (op == 7) = false := by simp; omega
  have g8 : (op == 8) = false := by simp; omega
  have g9 : (op == 9) = false := by simp; omega
  have g10 : (op == 10) = false := by simp; omega
  have g11 : (op == 11) = false := by simp; omega
  clear h
  go_enter Try.func47, Try.ntmps47
  go_wp2_with (first | (go_at_call 20; refine (l1In_any _ _ _ _).mono ?_; rintro e w' ⟨rfl, rfl⟩) | (go_at_call 55; refine (l1Num_any _ _).mono ?_; rintro e w' ⟨rfl, rfl⟩))
  all_goals
    go_ret
    exact ⟨rfl, by go_grown⟩

set_option maxRecDepth 100000 in
set_option maxHeartbeats 1000000 in
theorem specInsOk_out (op r a b n places procs : Int) (w : World) (h : (inB r 0 3 && inB a 0 3 && inB b 0 3 && inB procs 1 4) = false) :
    Calls Try.prog 47 #[insV op r a b n, .int .i64 places, .int .i64 procs] w fun e w' => e = .returned (.bool false) ∧ Below w.heap.size w w' := by
  rcases Bool.eq_false_or_eq_true (inB r 0 3) with h1 | h1
  · rcases Bool.eq_false_or_eq_true (inB a 0 3) with h2 | h2
    · rcases Bool.eq_false_or_eq_true (inB b 0 3) with h3 | h3
      · have h4 : inB procs 1 4 = false := by simpa [h1, h2, h3] using h
        clear h
        go_enter Try.func47, Try.ntmps47
        go_wp2_with (first | (go_at_call 20; refine (l1In_any _ _ _ _).mono ?_; rintro e w' ⟨rfl, rfl⟩) | (go_at_call 55; refine (l1Num_any _ _).mono ?_; rintro e w' ⟨rfl, rfl⟩))
        go_ret
        exact ⟨rfl, by go_grown⟩
      · clear h
        go_enter Try.func47, Try.ntmps47
        go_wp2_with (first | (go_at_call 20; refine (l1In_any _ _ _ _).mono ?_; rintro e w' ⟨rfl, rfl⟩) | (go_at_call 55; refine (l1Num_any _ _).mono ?_; rintro e w' ⟨rfl, rfl⟩))
        go_ret
        exact ⟨rfl, by go_grown⟩
    · clear h
      go_enter Try.func47, Try.ntmps47
      go_wp2_with (first | (go_at_call 20; refine (l1In_any _ _ _ _).mono ?_; rintro e w' ⟨rfl, rfl⟩) | (go_at_call 55; refine (l1Num_any _ _).mono ?_; rintro e w' ⟨rfl, rfl⟩))
      go_ret
      exact ⟨rfl, by go_grown⟩
  · clear h
    go_enter Try.func47, Try.ntmps47
    go_wp2_with (first | (go_at_call 20; refine (l1In_any _ _ _ _).mono ?_; rintro e w' ⟨rfl, rfl⟩) | (go_at_call 55; refine (l1Num_any _ _).mono ?_; rintro e w' ⟨rfl, rfl⟩))
    go_ret
    exact ⟨rfl, by go_grown⟩

end Go.Proofs.Ytkoghgnbolaooaa

namespace Go.Proofs.Ytkoghgnbolaooaa
open Go.RowKit

theorem ret_int {k : IntKind} {a b : Int} (h : a = b) : Ending.returned (.int k a) = .returned (.int k b) := by rw [h]

def marks (k : Int) (n : Nat) : List Int := (List.range n).map (fun i : Nat => k + (i : Int))
theorem marks_length (k : Int) (n : Nat) : (marks k n).length = n := by simp [marks]
theorem marks_at (k : Int) (n j : Nat) (h : j < n) : zi (marks k n) j = k + j := by
  unfold zi marks
  rw [List.getD_eq_getElem?_getD, List.getElem?_map, List.getElem?_range h]; rfl

theorem own_some {w : World} {B n cap : Nat} {a0 : Option Addr} {ys : List Int} (h : OwnI w B (.slice a0 n cap) ys) (hn : 0 < ys.length) : ∃ g, a0 = some ⟨g, 0, none⟩ ∧ n = ys.length ∧ B ≤ g ∧ g < w.heap.size := by
  obtain ⟨g, c, hv, hb, hl⟩ := h.block hn
  simp only [Value.slice.injEq] at hv
  exact ⟨g, hv.1, hv.2.1, hb, hl⟩

/-- A state whose lists are marked from k on. -/
theorem own_apart {w w' : World} {B : Nat} {v u : Value} {xs : List Int} (h : OwnI w B v xs) (hg : w.grownBy w' u.ownBlock) (ha : ∀ k, u.ownBlock = some k → v.ownBlock ≠ some k) : OwnI w' B v xs := by
  refine h.kept hg ?_
  cases hu : u.ownBlock with
  | none => 
    cases hv : v.ownBlock with
    | none => exact .inl rfl
    | some k => exact .inr (by simp)
  | some k => exact .inr (ha k hu)

theorem gcell {W w1 : World} {row : Option Nat} (hg : W.grownBy w1 row) {b : Nat} (hb : b < W.heap.size) (hne : some b ≠ row) : (∀ o, w1.cell? ⟨b, o, none⟩ = W.cell? ⟨b, o, none⟩) ∧ (∀ o, w1.frozen? ⟨b, o, none⟩ = W.frozen? ⟨b, o, none⟩) :=
  ⟨fun _ => World.cell?_of_block (hg.block b hb hne), fun _ => World.frozen?_of_block (hg.block b hb hne)⟩
/-- Block k is that of one of the lists of the state v. -/
def hasBlock (v : Value) (k : Nat) : Prop := ∃ p vr vo code, v = .agg #[p, vr, vo, code] ∧ (vr.ownBlock = some k ∨ vo.ownBlock = some k)
theorem hasBlock_iff (p vr vo code : Value) (k : Nat) : hasBlock (.agg #[p, vr, vo, code]) k ↔ vr.ownBlock = some k ∨ vo.ownBlock = some k := by
  constructor
  · rintro ⟨p', vr', vo', code', e, h⟩
    simp only [Value.agg.injEq, Array.mk.injEq, List.cons.injEq, and_true] at e
    obtain ⟨_, rfl, rfl, _⟩ := e
    exact h
  · exact fun h => ⟨p, vr, vo, code, rfl, h⟩
theorem StOwn.lt {w : World} {B : Nat} {v : Value} {p code : Int} {rs os : List Int} (h : StOwn w B v p rs os code) {k : Nat} (hk : hasBlock v k) : B ≤ k ∧ k < w.heap.size := by
  obtain ⟨vr, vo, rfl, h1, h2, _⟩ := h
  rcases (hasBlock_iff _ _ _ _ _).1 hk with h | h
  · exact h1.lt k h
  · exact h2.lt k h

/-- Nothing has turned but what lies in the lists of the state v. -/
structure Marked (v : Value) (w w' : World) : Prop where
  os : w'.os = w.os
  tape : w'.tape = w.tape
  output : w'.output = w.output
  size : w.heap.size ≤ w'.heap.size
  block : ∀ k, k < w.heap.size → ¬ hasBlock v k → w'.heap[k]? = w.heap[k]?

theorem Marked.below {v : Value} {w w' : World} {B : Nat} (h : Marked v w w') (hB : B ≤ w.heap.size) (hv : ∀ k, hasBlock v k → B ≤ k) : Below B w w' :=
  ⟨h.os, h.tape, h.output, h.size, fun k hk => h.block k (by omega) (fun hh => by have := hv k hh; omega)⟩
theorem Marked.own {v : Value} {w w' : World} {B : Nat} {u : Value} {xs : List Int} (h : Marked v w w') (hu : OwnI w B u xs) (ha : ∀ k, u.ownBlock = some k → ¬ hasBlock v k) : OwnI w' B u xs := by
  rcases hu.2 with ⟨rfl, h0⟩ | ⟨g, cap, cur, rfl, hb, hg, hr⟩
  · exact ⟨hu.1, .inl ⟨rfl, h0⟩⟩
  · refine ⟨hu.1, .inr ⟨g, cap, cur, rfl, hb, ?_, hr⟩⟩
    rw [h.block g (hu.lt g rfl).2 (ha g rfl)]
    exact hg
theorem Marked.st {v : Value} {w w' : World} {B : Nat} {u : Value} {p code : Int} {rs os : List Int} (h : Marked v w w') (hu : StOwn w B u p rs os code) (ha : ∀ k, hasBlock u k → ¬ hasBlock v k) : StOwn w' B u p rs os code := by
  obtain ⟨vr, vo, rfl, h1, h2, h3⟩ := hu
  exact ⟨vr, vo, rfl, h.own h1 fun k hk => ha k ((hasBlock_iff _ _ _ _ _).2 (.inl hk)), h.own h2 fun k hk => ha k ((hasBlock_iff _ _ _ _ _).2 (.inr hk)), h3⟩
theorem Marked.cell {v : Value} {w w' : World} (h : Marked v w w') {b : Nat} (hb : b < w.heap.size) (hv : ¬ hasBlock v b) (j : Nat) : w'.cell? ⟨b, j, none⟩ = w.cell? ⟨b, j, none⟩ := World.cell?_of_block (h.block b hb hv)
theorem Marked.frozen {v : Value} {w w' : World} (h : Marked v w w') {b : Nat} (hb : b < w.heap.size) (hv : ¬ hasBlock v b) (j : Nat) : w'.frozen? ⟨b, j, none⟩ = w.frozen? ⟨b, j, none⟩ := World.frozen?_of_block (h.block b hb hv)

set_option maxHeartbeats 400000 in
theorem toEvent_any (k p v : Int) (w : World) :
    Calls Try.prog 23 #[evV k p v] w fun e w' => e = .returned (evV k p v) ∧ Below w.heap.size w w' := by
  go_enter Try.func23, Try.ntmps23
  go_wp2
  refine bodyPost_ret (v := evV k p v) (by simp [results, Try.results23, go_sem]) rfl ⟨rfl, ?_⟩
  go_grown

set_option maxHeartbeats 400000 in
theorem eqEvent_same (k p v : Int) (w : World) :
    Calls Try.prog 29 #[evV k p v, evV k p v] w fun e w' => e = .returned (.bool true) ∧ Below w.heap.size w w' := by
  go_enter Try.func29, Try.ntmps29
  go_wp2
  go_ret
  exact ⟨rfl, by go_grown⟩

/-- The four cells of a state in a block. -/
def BoxC (w : World) (N : Nat) (p vr vo code : Value) : Prop := w.cell? ⟨N, 0, none⟩ = some p ∧ w.cell? ⟨N, 1, none⟩ = some vr ∧ w.cell? ⟨N, 2, none⟩ = some vo ∧ w.cell? ⟨N, 3, none⟩ = some code
theorem BoxC.below {w w' : World} {N : Nat} {p vr vo code : Value} (h : BoxC w N p vr vo code) (hb : Below w.heap.size w w') : BoxC w' N p vr vo code := by
  obtain ⟨h0, h1, h2, h3⟩ := h
  have hN : N < w.heap.size := World.block_lt_of_cell? w _ h0
  exact ⟨(hb.cell (p := ⟨N, 0, none⟩) hN).trans h0, (hb.cell (p := ⟨N, 1, none⟩) hN).trans h1, (hb.cell (p := ⟨N, 2, none⟩) hN).trans h2, (hb.cell (p := ⟨N, 3, none⟩) hN).trans h3⟩
theorem BoxC.new (w : World) (p vr vo code : Value) (t : TypeId) : BoxC (w.alloc (.cells #[p, vr, vo, code] t)) w.heap.size p vr vo code := by
  unfold BoxC
  simp

theorem BoxC.marked {v : Value} {w w' : World} {N : Nat} {p vr vo code : Value} (h : BoxC w N p vr vo code) (hm : Marked v w w') (hv : ¬ hasBlock v N) : BoxC w' N p vr vo code := by
  obtain ⟨h0, h1, h2, h3⟩ := h
  have hN : N < w.heap.size := World.block_lt_of_cell? w _ h0
  exact ⟨(hm.cell hN hv _).trans h0, (hm.cell hN hv _).trans h1, (hm.cell hN hv _).trans h2, (hm.cell hN hv _).trans h3⟩

end Go.Proofs.Ytkoghgnbolaooaa
