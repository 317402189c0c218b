/- The walks of the program's insOf. -/
import Derived.Test.YtdlfdelngolkgaaDoorReadW
import Derived.RegionTactic
namespace Go.Proofs.YtdlfdelngolkgaaDoor
open Go.RowKit Go.Sort

def insV5 (x : J5) : Value := insV x.o x.r x.a x.b x.n

set_option maxRecDepth 100000 in
set_option maxHeartbeats 1000000 in
theorem insOf_1 (g cap : Nat) (n0 n1 : Int) (w : World) (hg : g < w.heap.size) (_hne : ¬ w.heap.size = g) (c0 : w.cell? ⟨g, 0, none⟩ = some (.int .i64 n0)) (c1 : w.cell? ⟨g, 1, none⟩ = some (.int .i64 n1)):
    Calls Tryd.prog 26 #[.int .i64 1, .slice (some ⟨g, 0, none⟩) 2 cap] w fun e w' => e = .returned (insV 1 n0 0 0 n1) ∧ Below w.heap.size w w' := by
  go_enter Tryd.func26, Tryd.ntmps26
  go_wp2
  go_region
  all_goals
    go_wp2
    exact bodyPost_ret (v := insV 1 n0 0 0 n1) (by simp [results, Tryd.results26, go_sem]) rfl ⟨rfl, by go_grown⟩

set_option maxRecDepth 100000 in
set_option maxHeartbeats 1000000 in
theorem insOf_7 (g cap : Nat) (n0 n1 : Int) (w : World) (hg : g < w.heap.size) (_hne : ¬ w.heap.size = g) (c0 : w.cell? ⟨g, 0, none⟩ = some (.int .i64 n0)) (c1 : w.cell? ⟨g, 1, none⟩ = some (.int .i64 n1)):
    Calls Tryd.prog 26 #[.int .i64 7, .slice (some ⟨g, 0, none⟩) 2 cap] w fun e w' => e = .returned (insV 7 n0 0 0 n1) ∧ Below w.heap.size w w' := by
  go_enter Tryd.func26, Tryd.ntmps26
  go_wp2
  go_region
  all_goals
    go_wp2
    exact bodyPost_ret (v := insV 7 n0 0 0 n1) (by simp [results, Tryd.results26, go_sem]) rfl ⟨rfl, by go_grown⟩

set_option maxRecDepth 100000 in
set_option maxHeartbeats 1000000 in
theorem insOf_6 (g cap : Nat) (n0 n1 : Int) (w : World) (hg : g < w.heap.size) (_hne : ¬ w.heap.size = g) (c0 : w.cell? ⟨g, 0, none⟩ = some (.int .i64 n0)) (c1 : w.cell? ⟨g, 1, none⟩ = some (.int .i64 n1)):
    Calls Tryd.prog 26 #[.int .i64 6, .slice (some ⟨g, 0, none⟩) 2 cap] w fun e w' => e = .returned (insV 6 0 n1 0 n0) ∧ Below w.heap.size w w' := by
  go_enter Tryd.func26, Tryd.ntmps26
  go_wp2
  go_region
  all_goals
    go_wp2
    exact bodyPost_ret (v := insV 6 0 n1 0 n0) (by simp [results, Tryd.results26, go_sem]) rfl ⟨rfl, by go_grown⟩

set_option maxRecDepth 100000 in
set_option maxHeartbeats 1000000 in
theorem insOf_10 (g cap : Nat) (n0 n1 : Int) (w : World) (hg : g < w.heap.size) (_hne : ¬ w.heap.size = g) (c0 : w.cell? ⟨g, 0, none⟩ = some (.int .i64 n0)) (c1 : w.cell? ⟨g, 1, none⟩ = some (.int .i64 n1)):
    Calls Tryd.prog 26 #[.int .i64 10, .slice (some ⟨g, 0, none⟩) 2 cap] w fun e w' => e = .returned (insV 10 0 n0 0 n1) ∧ Below w.heap.size w w' := by
  go_enter Tryd.func26, Tryd.ntmps26
  go_wp2
  go_region
  all_goals
    go_wp2
    exact bodyPost_ret (v := insV 10 0 n0 0 n1) (by simp [results, Tryd.results26, go_sem]) rfl ⟨rfl, by go_grown⟩

set_option maxRecDepth 100000 in
set_option maxHeartbeats 1000000 in
theorem insOf_2 (g cap : Nat) (n0 n1 n2 : Int) (w : World) (hg : g < w.heap.size) (_hne : ¬ w.heap.size = g) (c0 : w.cell? ⟨g, 0, none⟩ = some (.int .i64 n0)) (c1 : w.cell? ⟨g, 1, none⟩ = some (.int .i64 n1)) (c2 : w.cell? ⟨g, 2, none⟩ = some (.int .i64 n2)):
    Calls Tryd.prog 26 #[.int .i64 2, .slice (some ⟨g, 0, none⟩) 3 cap] w fun e w' => e = .returned (insV 2 n0 n1 n2 0) ∧ Below w.heap.size w w' := by
  go_enter Tryd.func26, Tryd.ntmps26
  go_wp2
  go_region
  all_goals
    go_wp2
    exact bodyPost_ret (v := insV 2 n0 n1 n2 0) (by simp [results, Tryd.results26, go_sem]) rfl ⟨rfl, by go_grown⟩

set_option maxRecDepth 100000 in
set_option maxHeartbeats 1000000 in
theorem insOf_3 (g cap : Nat) (n0 n1 n2 : Int) (w : World) (hg : g < w.heap.size) (_hne : ¬ w.heap.size = g) (c0 : w.cell? ⟨g, 0, none⟩ = some (.int .i64 n0)) (c1 : w.cell? ⟨g, 1, none⟩ = some (.int .i64 n1)) (c2 : w.cell? ⟨g, 2, none⟩ = some (.int .i64 n2)):
    Calls Tryd.prog 26 #[.int .i64 3, .slice (some ⟨g, 0, none⟩) 3 cap] w fun e w' => e = .returned (insV 3 n0 n1 n2 0) ∧ Below w.heap.size w w' := by
  go_enter Tryd.func26, Tryd.ntmps26
  go_wp2
  go_region
  all_goals
    go_wp2
    exact bodyPost_ret (v := insV 3 n0 n1 n2 0) (by simp [results, Tryd.results26, go_sem]) rfl ⟨rfl, by go_grown⟩

set_option maxRecDepth 100000 in
set_option maxHeartbeats 1000000 in
theorem insOf_4 (g cap : Nat) (n0 n1 n2 : Int) (w : World) (hg : g < w.heap.size) (_hne : ¬ w.heap.size = g) (c0 : w.cell? ⟨g, 0, none⟩ = some (.int .i64 n0)) (c1 : w.cell? ⟨g, 1, none⟩ = some (.int .i64 n1)) (c2 : w.cell? ⟨g, 2, none⟩ = some (.int .i64 n2)):
    Calls Tryd.prog 26 #[.int .i64 4, .slice (some ⟨g, 0, none⟩) 3 cap] w fun e w' => e = .returned (insV 4 n0 n1 n2 0) ∧ Below w.heap.size w w' := by
  go_enter Tryd.func26, Tryd.ntmps26
  go_wp2
  go_region
  all_goals
    go_wp2
    exact bodyPost_ret (v := insV 4 n0 n1 n2 0) (by simp [results, Tryd.results26, go_sem]) rfl ⟨rfl, by go_grown⟩

set_option maxRecDepth 100000 in
set_option maxHeartbeats 1000000 in
theorem insOf_5 (g cap : Nat) (n0 n1 n2 : Int) (w : World) (hg : g < w.heap.size) (_hne : ¬ w.heap.size = g) (c0 : w.cell? ⟨g, 0, none⟩ = some (.int .i64 n0)) (c1 : w.cell? ⟨g, 1, none⟩ = some (.int .i64 n1)) (c2 : w.cell? ⟨g, 2, none⟩ = some (.int .i64 n2)):
    Calls Tryd.prog 26 #[.int .i64 5, .slice (some ⟨g, 0, none⟩) 3 cap] w fun e w' => e = .returned (insV 5 n0 n1 n2 0) ∧ Below w.heap.size w w' := by
  go_enter Tryd.func26, Tryd.ntmps26
  go_wp2
  go_region
  all_goals
    go_wp2
    exact bodyPost_ret (v := insV 5 n0 n1 n2 0) (by simp [results, Tryd.results26, go_sem]) rfl ⟨rfl, by go_grown⟩

set_option maxRecDepth 100000 in
set_option maxHeartbeats 1000000 in
theorem insOf_8 (g cap : Nat) (n0 : Int) (w : World) (hg : g < w.heap.size) (_hne : ¬ w.heap.size = g) (c0 : w.cell? ⟨g, 0, none⟩ = some (.int .i64 n0)):
    Calls Tryd.prog 26 #[.int .i64 8, .slice (some ⟨g, 0, none⟩) 1 cap] w fun e w' => e = .returned (insV 8 0 n0 0 0) ∧ Below w.heap.size w w' := by
  go_enter Tryd.func26, Tryd.ntmps26
  go_wp2
  exact bodyPost_ret (v := insV 8 0 n0 0 0) (by simp [results, Tryd.results26, go_sem]) rfl ⟨rfl, by go_grown⟩

set_option maxRecDepth 100000 in
set_option maxHeartbeats 1000000 in
theorem insOf_9 (g cap : Nat) (n0 : Int) (w : World) (hg : g < w.heap.size) (_hne : ¬ w.heap.size = g) (c0 : w.cell? ⟨g, 0, none⟩ = some (.int .i64 n0)):
    Calls Tryd.prog 26 #[.int .i64 9, .slice (some ⟨g, 0, none⟩) 1 cap] w fun e w' => e = .returned (insV 9 0 0 0 n0) ∧ Below w.heap.size w w' := by
  go_enter Tryd.func26, Tryd.ntmps26
  go_wp2
  exact bodyPost_ret (v := insV 9 0 0 0 n0) (by simp [results, Tryd.results26, go_sem]) rfl ⟨rfl, by go_grown⟩

set_option maxRecDepth 100000 in
set_option maxHeartbeats 1000000 in
theorem insOf_11 (a0 : Option Addr) (cap : Nat) (w : World) :
    Calls Tryd.prog 26 #[.int .i64 11, .slice a0 0 cap] w fun e w' => e = .returned (insV 11 0 0 0 0) ∧ Below w.heap.size w w' := by
  go_enter Tryd.func26, Tryd.ntmps26
  go_wp2
  exact bodyPost_ret (v := insV 11 0 0 0 0) (by simp [results, Tryd.results26, go_sem]) rfl ⟨rfl, by go_grown⟩

set_option maxRecDepth 100000 in
set_option maxHeartbeats 1000000 in
theorem insOf_no2 (op : Int) (a0 : Option Addr) (cap : Nat) (w : World) (t1 : (op == 1) = false) (t7 : (op == 7) = false) (t6 : (op == 6) = false) (t10 : (op == 10) = false) :
    Calls Tryd.prog 26 #[.int .i64 op, .slice a0 2 cap] w fun e w' => e = .returned (insV 0 0 0 0 0) ∧ Below w.heap.size w w' := by
  go_enter Tryd.func26, Tryd.ntmps26
  go_wp2
  exact bodyPost_ret (v := insV 0 0 0 0 0) (by simp [results, Tryd.results26, go_sem]) rfl ⟨rfl, by go_grown⟩

set_option maxRecDepth 100000 in
set_option maxHeartbeats 1000000 in
theorem insOf_no3 (op : Int) (a0 : Option Addr) (cap : Nat) (w : World) (t2 : (op == 2) = false) (t3 : (op == 3) = false) (t4 : (op == 4) = false) (t5 : (op == 5) = false) :
    Calls Tryd.prog 26 #[.int .i64 op, .slice a0 3 cap] w fun e w' => e = .returned (insV 0 0 0 0 0) ∧ Below w.heap.size w w' := by
  go_enter Tryd.func26, Tryd.ntmps26
  go_wp2
  exact bodyPost_ret (v := insV 0 0 0 0 0) (by simp [results, Tryd.results26, go_sem]) rfl ⟨rfl, by go_grown⟩

set_option maxRecDepth 100000 in
set_option maxHeartbeats 1000000 in
theorem insOf_no1 (op : Int) (a0 : Option Addr) (cap : Nat) (w : World) (t8 : (op == 8) = false) (t9 : (op == 9) = false) :
    Calls Tryd.prog 26 #[.int .i64 op, .slice a0 1 cap] w fun e w' => e = .returned (insV 0 0 0 0 0) ∧ Below w.heap.size w w' := by
  go_enter Tryd.func26, Tryd.ntmps26
  go_wp2
  exact bodyPost_ret (v := insV 0 0 0 0 0) (by simp [results, Tryd.results26, go_sem]) rfl ⟨rfl, by go_grown⟩

set_option maxRecDepth 100000 in
set_option maxHeartbeats 1000000 in
theorem insOf_no0 (op : Int) (a0 : Option Addr) (cap : Nat) (w : World) (t11 : (op == 11) = false) :
    Calls Tryd.prog 26 #[.int .i64 op, .slice a0 0 cap] w fun e w' => e = .returned (insV 0 0 0 0 0) ∧ Below w.heap.size w w' := by
  go_enter Tryd.func26, Tryd.ntmps26
  go_wp2
  exact bodyPost_ret (v := insV 0 0 0 0 0) (by simp [results, Tryd.results26, go_sem]) rfl ⟨rfl, by go_grown⟩

set_option maxRecDepth 100000 in
set_option maxHeartbeats 1000000 in
theorem insOf_more (op : Int) (a0 : Option Addr) (len cap : Nat) (w : World) (l0 : ((len : Int) == 0) = false) (l1 : ((len : Int) == 1) = false) (l2 : ((len : Int) == 2) = false) (l3 : ((len : Int) == 3) = false) :
    Calls Tryd.prog 26 #[.int .i64 op, .slice a0 len cap] w fun e w' => e = .returned (insV 0 0 0 0 0) ∧ Below w.heap.size w w' := by
  go_enter Tryd.func26, Tryd.ntmps26
  go_wp2
  exact bodyPost_ret (v := insV 0 0 0 0 0) (by simp [results, Tryd.results26, go_sem]) rfl ⟨rfl, by go_grown⟩

theorem neq_beq {a b : Int} (h : ¬ a = b) : (a == b) = false := by simp [h]

/-- A list of numbers that is not empty lies in a block of its own. -/
theorem Nums.form {w : World} {B : Nat} {v : Value} {ns : List Int} (h : Nums w B v ns) : ∃ a0 cap, v = .slice a0 ns.length cap := by
  rcases h.2 with ⟨h1, h2⟩ | ⟨g, cap, cur, h1, _⟩
  · exact ⟨none, 0, by rw [h1, h2]⟩
  · exact ⟨_, cap, h1⟩
theorem Nums.lies {w : World} {B : Nat} {v : Value} {ns : List Int} (h : Nums w B v ns) (hp : 0 < ns.length) : ∃ g cap, v = .slice (some ⟨g, 0, none⟩) ns.length cap ∧ g < w.heap.size ∧ (∀ j (hj : j < ns.length), w.cell? ⟨g, j, none⟩ = some (.int .i64 ns[j])) := by
  rcases h.2 with ⟨_, h2⟩ | ⟨g, cap, cur, h1, _, h3, _⟩
  · omega
  · refine ⟨g, cap, h1, ?_, fun j hj => ?_⟩
    · rcases Nat.lt_or_ge g w.heap.size with hlt | hge
      · exact hlt
      · rw [Array.getElem?_eq_none hge] at h3
        cases h3
    · have h' : w.ownsRow B 3 1 (.slice (some ⟨g, 0, none⟩) ns.length cap) ns.length (ns.map (Value.int .i64)) := by rw [← h1]; exact h
      rw [h'.cellAt j (by omega)]
      simp [hj]

theorem insOf_any (op : Int) (v : Value) (ns : List Int) (B : Nat) (w : World) (hn : Nums w B v ns) :
    Calls Tryd.prog 26 #[.int .i64 op, v] w fun e w' => e = .returned (insV5 (insM op ns)) ∧ Below w.heap.size w w' := by
  match ns, hn with
  | [], hn =>
    obtain ⟨a0, cap, rfl⟩ := hn.form
    by_cases h11 : op = 11
    · subst h11
      exact insOf_11 a0 cap w
    · have e : insM op [] = zero5 := by simp [insM, h11]
      rw [e]
      exact insOf_no0 op a0 cap w (neq_beq h11)
  | [n0], hn =>
    obtain ⟨g, cap, rfl, hg, hc⟩ := hn.lies (by simp)
    have c0 := hc 0 (by simp)
    by_cases h8 : op = 8
    · subst h8
      exact insOf_8 g cap n0 w hg (by omega) c0
    · by_cases h9 : op = 9
      · subst h9
        exact insOf_9 g cap n0 w hg (by omega) c0
      · have e : insM op [n0] = zero5 := by simp [insM, h8, h9]
        rw [e]
        exact insOf_no1 op _ cap w (neq_beq h8) (neq_beq h9)
  | [n0, n1], hn =>
    obtain ⟨g, cap, rfl, hg, hc⟩ := hn.lies (by simp)
    have c0 := hc 0 (by simp)
    have c1 := hc 1 (by simp)
    by_cases h1 : op = 1
    · subst h1
      exact insOf_1 g cap n0 n1 w hg (by omega) c0 c1
    · by_cases h7 : op = 7
      · subst h7
        exact insOf_7 g cap n0 n1 w hg (by omega) c0 c1
      · by_cases h6 : op = 6
        · subst h6
          exact insOf_6 g cap n0 n1 w hg (by omega) c0 c1
        · by_cases h10 : op = 10
          · subst h10
            exact insOf_10 g cap n0 n1 w hg (by omega) c0 c1
          · have e : insM op [n0, n1] = zero5 := by simp [insM, h1, h7, h6, h10]
            rw [e]
            exact insOf_no2 op _ cap w (neq_beq h1) (neq_beq h7) (neq_beq h6) (neq_beq h10)
  | [n0, n1, n2], hn =>
    obtain ⟨g, cap, rfl, hg, hc⟩ := hn.lies (by simp)
    have c0 := hc 0 (by simp)
    have c1 := hc 1 (by simp)
    have c2 := hc 2 (by simp)
    by_cases h2 : op = 2
    · subst h2
      exact insOf_2 g cap n0 n1 n2 w hg (by omega) c0 c1 c2
    · by_cases h3 : op = 3
      · subst h3
        exact insOf_3 g cap n0 n1 n2 w hg (by omega) c0 c1 c2
      · by_cases h4 : op = 4
        · subst h4
          exact insOf_4 g cap n0 n1 n2 w hg (by omega) c0 c1 c2
        · by_cases h5 : op = 5
          · subst h5
            exact insOf_5 g cap n0 n1 n2 w hg (by omega) c0 c1 c2
          · have e : insM op [n0, n1, n2] = zero5 := by simp [insM, h2, h3, h4, h5]
            rw [e]
            exact insOf_no3 op _ cap w (neq_beq h2) (neq_beq h3) (neq_beq h4) (neq_beq h5)
  | n0 :: n1 :: n2 :: n3 :: l, hn =>
    obtain ⟨a0, cap, rfl⟩ := hn.form
    have e : insM op (n0 :: n1 :: n2 :: n3 :: l) = zero5 := by simp [insM]
    rw [e]
    exact insOf_more op a0 _ cap w (neq_beq (by simp; omega)) (neq_beq (by simp; omega)) (neq_beq (by simp; omega)) (neq_beq (by simp; omega))

end Go.Proofs.YtdlfdelngolkgaaDoor
