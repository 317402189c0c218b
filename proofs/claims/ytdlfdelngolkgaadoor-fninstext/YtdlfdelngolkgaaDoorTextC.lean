/- The walks of placeText and of both InsText: the line of a place that is right. -/
import Derived.Test.YtdlfdelngolkgaaDoorTextB
import Derived.Test.YtdlfdelngolkgaaDoorInsF
import Derived.Lib.QuietBelow
import Derived.Deep.RegionWith
namespace Go.Proofs.YtdlfdelngolkgaaDoor
open Go.RowKit Go.Sort

attribute [local go_sem] as_set_set as_set_calc as_set_send as_set_take as_set_print as_set_jump as_set_zero as_set_end as_calc_set as_calc_calc as_calc_send as_calc_take as_calc_print as_calc_jump as_calc_zero as_calc_end as_send_set as_send_calc as_send_send as_send_take as_send_print as_send_jump as_send_zero as_send_end as_take_set as_take_calc as_take_send as_take_take as_take_print as_take_jump as_take_zero as_take_end as_print_set as_print_calc as_print_send as_print_take as_print_print as_print_jump as_print_zero as_print_end as_jump_set as_jump_calc as_jump_send as_jump_take as_jump_print as_jump_jump as_jump_zero as_jump_end as_zero_set as_zero_calc as_zero_send as_zero_take as_zero_print as_zero_jump as_zero_zero as_zero_end as_end_set as_end_calc as_end_send as_end_take as_end_print as_end_jump as_end_zero as_end_end

def nums (l : List Int) (j : Nat) : Int := l.getD j 0

theorem nums1_at (w : World) (a : Int) (t : TypeId) : NumsAt (w.alloc (.cells #[.int .i64 a] t)) (some ⟨w.heap.size, 0, none⟩) 1 (nums [a]) := by
  refine .inr ⟨w.heap.size, rfl, by simp, fun j hj => ?_⟩
  match j, hj with
  | 0, _ => simp [nums]
theorem nums2_at (w : World) (a b : Int) (t : TypeId) : NumsAt (w.alloc (.cells #[.int .i64 a, .int .i64 b] t)) (some ⟨w.heap.size, 0, none⟩) 2 (nums [a, b]) := by
  refine .inr ⟨w.heap.size, rfl, by simp, fun j hj => ?_⟩
  match j, hj with
  | 0, _ => simp [nums]
  | 1, _ => simp [nums]
theorem nums3_at (w : World) (a b c : Int) (t : TypeId) : NumsAt (w.alloc (.cells #[.int .i64 a, .int .i64 b, .int .i64 c] t)) (some ⟨w.heap.size, 0, none⟩) 3 (nums [a, b, c]) := by
  refine .inr ⟨w.heap.size, rfl, by simp, fun j hj => ?_⟩
  match j, hj with
  | 0, _ => simp [nums]
  | 1, _ => simp [nums]
  | 2, _ => simp [nums]

/-- A number of a place: at most the greatest. -/
def Fit (n : Int) : Prop := -1000000000 ≤ n ∧ n ≤ 1000000000
theorem fit1 {a : Int} (h : Fit a) : ∀ j, j < 1 → -1000000000 ≤ nums [a] j ∧ nums [a] j ≤ 1000000000 := by
  intro j hj
  match j, hj with
  | 0, _ => exact h
theorem fit2 {a b : Int} (h : Fit a) (k : Fit b) : ∀ j, j < 2 → -1000000000 ≤ nums [a, b] j ∧ nums [a, b] j ≤ 1000000000 := by
  intro j hj
  match j, hj with
  | 0, _ => exact h
  | 1, _ => exact k
theorem fit3 {a b c : Int} (h : Fit a) (k : Fit b) (l : Fit c) : ∀ j, j < 3 → -1000000000 ≤ nums [a, b, c] j ∧ nums [a, b, c] j ≤ 1000000000 := by
  intro j hj
  match j, hj with
  | 0, _ => exact h
  | 1, _ => exact k
  | 2, _ => exact l

theorem lineOf_int (op : Int) (k m mc : Nat) (a0 : Option Addr) (z : Nat → Int) (w : World) (hk : op = (k : Int)) (hE : Env w) (ho : k < 12) (hm : m ≤ 10) (hz : NumsAt w a0 m z) (hr : ∀ j, j < m → -1000000000 ≤ z j ∧ z j ≤ 1000000000) :
    Calls Tryd.prog 33 #[.int .i64 op, .slice a0 m mc] w fun e w' => e = .returned (.string (lineTo k z m)) ∧ Below w.heap.size w w' := by
  subst hk
  exact lineOf_any k m mc a0 z w hE ho hm hz hr

theorem env_alloc {w : World} (h : Env w) (o : Obj) : Env (w.alloc o) := h.self ((Below.refl _ _).alloc (Nat.le_refl _) _)


set_option maxRecDepth 100000 in
set_option maxHeartbeats 1000000 in
theorem placeText_set (r n : Int) (w : World) (hE : Env w) (fr : Fit r) (fn : Fit n) :
    Calls Tryd.prog 18 #[.iface 63 (setV r n)] w fun e w' => e = .returned (.string (lineTo 1 (nums [r, n]) 2)) ∧ Below w.heap.size w w' := by
  have HE : Hid (Env w) := hE
  clear hE
  have hN := nums2_at (w.alloc (.cells #[.int .i64 r, .int .i64 n] 63)) r n 3
  rw [World.size_alloc] at hN
  have HN : Hid (NumsAt ((w.alloc (.cells #[.int .i64 r, .int .i64 n] 63)).alloc (.cells #[.int .i64 r, .int .i64 n] 3)) (some ⟨w.heap.size + 1, 0, none⟩) 2 (nums [r, n])) := hN
  clear hN
  have HF : Hid (∀ j, j < 2 → -1000000000 ≤ nums [r, n] j ∧ nums [r, n] j ≤ 1000000000) := fit2 fr fn
  clear fr fn
  go_enter Tryd.func18, Tryd.ntmps18
  go_wp2_with fail
  refine (lineOf_int _ 1 2 2 _ (nums [r, n]) _ (by omega) (env_alloc (env_alloc HE.out _) _) (by omega) (by omega) HN.out HF.out).mono ?_
  rintro e w1 ⟨rfl, hb1⟩
  go_wp2
  go_ret
  exact ⟨rfl, (((Below.refl _ _).alloc (Nat.le_refl _) _).alloc (by simp) _).trans (hb1.mono (by simp only [World.size_alloc]; omega))⟩


set_option maxRecDepth 100000 in
set_option maxHeartbeats 1000000 in
theorem placeText_calc (op r a b : Int) (w : World) (hE : Env w) (fr : Fit r) (fa : Fit a) (fb : Fit b) (q1 : 2 ≤ op) (q2 : op ≤ 5) :
    Calls Tryd.prog 18 #[.iface 66 (calcV op r a b)] w fun e w' => e = .returned (.string (lineTo op.toNat (nums [r, a, b]) 3)) ∧ Below w.heap.size w w' := by
  have HE : Hid (Env w) := hE
  clear hE
  have hN := nums3_at (w.alloc (.cells #[.int .i64 op, .int .i64 r, .int .i64 a, .int .i64 b] 66)) r a b 3
  rw [World.size_alloc] at hN
  have HN : Hid (NumsAt ((w.alloc (.cells #[.int .i64 op, .int .i64 r, .int .i64 a, .int .i64 b] 66)).alloc (.cells #[.int .i64 r, .int .i64 a, .int .i64 b] 3)) (some ⟨w.heap.size + 1, 0, none⟩) 3 (nums [r, a, b])) := hN
  clear hN
  have HF : Hid (∀ j, j < 3 → -1000000000 ≤ nums [r, a, b] j ∧ nums [r, a, b] j ≤ 1000000000) := fit3 fr fa fb
  clear fr fa fb
  go_enter Tryd.func18, Tryd.ntmps18
  go_wp2_with fail
  refine (lineOf_int _ op.toNat 3 3 _ (nums [r, a, b]) _ (by omega) (env_alloc (env_alloc HE.out _) _) (by omega) (by omega) HN.out HF.out).mono ?_
  rintro e w1 ⟨rfl, hb1⟩
  go_wp2
  go_ret
  exact ⟨rfl, (((Below.refl _ _).alloc (Nat.le_refl _) _).alloc (by simp) _).trans (hb1.mono (by simp only [World.size_alloc]; omega))⟩


set_option maxRecDepth 100000 in
set_option maxHeartbeats 1000000 in
theorem placeText_send (n a : Int) (w : World) (hE : Env w) (fn : Fit n) (fa : Fit a) :
    Calls Tryd.prog 18 #[.iface 68 (sendV n a)] w fun e w' => e = .returned (.string (lineTo 6 (nums [n, a]) 2)) ∧ Below w.heap.size w w' := by
  have HE : Hid (Env w) := hE
  clear hE
  have hN := nums2_at (w.alloc (.cells #[.int .i64 n, .int .i64 a] 68)) n a 3
  rw [World.size_alloc] at hN
  have HN : Hid (NumsAt ((w.alloc (.cells #[.int .i64 n, .int .i64 a] 68)).alloc (.cells #[.int .i64 n, .int .i64 a] 3)) (some ⟨w.heap.size + 1, 0, none⟩) 2 (nums [n, a])) := hN
  clear hN
  have HF : Hid (∀ j, j < 2 → -1000000000 ≤ nums [n, a] j ∧ nums [n, a] j ≤ 1000000000) := fit2 fn fa
  clear fn fa
  go_enter Tryd.func18, Tryd.ntmps18
  go_wp2_with fail
  refine (lineOf_int _ 6 2 2 _ (nums [n, a]) _ (by omega) (env_alloc (env_alloc HE.out _) _) (by omega) (by omega) HN.out HF.out).mono ?_
  rintro e w1 ⟨rfl, hb1⟩
  go_wp2
  go_ret
  exact ⟨rfl, (((Below.refl _ _).alloc (Nat.le_refl _) _).alloc (by simp) _).trans (hb1.mono (by simp only [World.size_alloc]; omega))⟩


set_option maxRecDepth 100000 in
set_option maxHeartbeats 1000000 in
theorem placeText_take_any (r n : Int) (w : World) (hE : Env w) (fr : Fit r) (t9 : (n == 9) = true) :
    Calls Tryd.prog 18 #[.iface 70 (takeV r n)] w fun e w' => e = .returned (.string ((lineTo 7 (nums [r]) 1) ++ ⟨#[32]⟩ ++ ⟨#[97, 110, 121]⟩)) ∧ Below w.heap.size w w' := by
  have HE : Hid (Env w) := hE
  clear hE
  have hN := nums1_at (w.alloc (.cells #[.int .i64 r, .int .i64 n] 70)) r 3
  rw [World.size_alloc] at hN
  have HN : Hid (NumsAt ((w.alloc (.cells #[.int .i64 r, .int .i64 n] 70)).alloc (.cells #[.int .i64 r] 3)) (some ⟨w.heap.size + 1, 0, none⟩) 1 (nums [r])) := hN
  clear hN
  have HF : Hid (∀ j, j < 1 → -1000000000 ≤ nums [r] j ∧ nums [r] j ≤ 1000000000) := fit1 fr
  clear fr
  have sz := lineTo_size 7 (nums [r]) 1 (by omega) HF.out
  have sz' : (lineTo 7 (nums [r]) 1).size ≤ 100 := by omega
  clear sz
  go_enter Tryd.func18, Tryd.ntmps18
  go_wp2_with fail
  refine (lineOf_int _ 7 1 1 _ (nums [r]) _ (by omega) (env_alloc (env_alloc HE.out _) _) (by omega) (by omega) HN.out HF.out).mono ?_
  rintro e w1 ⟨rfl, hb1⟩
  go_wp2
  go_ret
  exact ⟨rfl, (((Below.refl _ _).alloc (Nat.le_refl _) _).alloc (by simp) _).trans (hb1.mono (by simp only [World.size_alloc]; omega))⟩


set_option maxRecDepth 100000 in
set_option maxHeartbeats 1000000 in
theorem placeText_take_num (r n : Int) (w : World) (hE : Env w) (fr : Fit r) (fn : Fit n) (t9 : (n == 9) = false) :
    Calls Tryd.prog 18 #[.iface 70 (takeV r n)] w fun e w' => e = .returned (.string (lineTo 7 (nums [r, n]) 2)) ∧ Below w.heap.size w w' := by
  have HE : Hid (Env w) := hE
  clear hE
  have hN := nums2_at (w.alloc (.cells #[.int .i64 r, .int .i64 n] 70)) r n 3
  rw [World.size_alloc] at hN
  have HN : Hid (NumsAt ((w.alloc (.cells #[.int .i64 r, .int .i64 n] 70)).alloc (.cells #[.int .i64 r, .int .i64 n] 3)) (some ⟨w.heap.size + 1, 0, none⟩) 2 (nums [r, n])) := hN
  clear hN
  have HF : Hid (∀ j, j < 2 → -1000000000 ≤ nums [r, n] j ∧ nums [r, n] j ≤ 1000000000) := fit2 fr fn
  clear fr fn
  go_enter Tryd.func18, Tryd.ntmps18
  go_wp2_with fail
  refine (lineOf_int _ 7 2 2 _ (nums [r, n]) _ (by omega) (env_alloc (env_alloc HE.out _) _) (by omega) (by omega) HN.out HF.out).mono ?_
  rintro e w1 ⟨rfl, hb1⟩
  go_wp2
  go_ret
  exact ⟨rfl, (((Below.refl _ _).alloc (Nat.le_refl _) _).alloc (by simp) _).trans (hb1.mono (by simp only [World.size_alloc]; omega))⟩


set_option maxRecDepth 100000 in
set_option maxHeartbeats 1000000 in
theorem placeText_print (a : Int) (w : World) (hE : Env w) (fa : Fit a) :
    Calls Tryd.prog 18 #[.iface 72 (printV a)] w fun e w' => e = .returned (.string (lineTo 8 (nums [a]) 1)) ∧ Below w.heap.size w w' := by
  have HE : Hid (Env w) := hE
  clear hE
  have hN := nums1_at (w.alloc (.cells #[.int .i64 a] 72)) a 3
  rw [World.size_alloc] at hN
  have HN : Hid (NumsAt ((w.alloc (.cells #[.int .i64 a] 72)).alloc (.cells #[.int .i64 a] 3)) (some ⟨w.heap.size + 1, 0, none⟩) 1 (nums [a])) := hN
  clear hN
  have HF : Hid (∀ j, j < 1 → -1000000000 ≤ nums [a] j ∧ nums [a] j ≤ 1000000000) := fit1 fa
  clear fa
  go_enter Tryd.func18, Tryd.ntmps18
  go_wp2_with fail
  refine (lineOf_int _ 8 1 1 _ (nums [a]) _ (by omega) (env_alloc (env_alloc HE.out _) _) (by omega) (by omega) HN.out HF.out).mono ?_
  rintro e w1 ⟨rfl, hb1⟩
  go_wp2
  go_ret
  exact ⟨rfl, (((Below.refl _ _).alloc (Nat.le_refl _) _).alloc (by simp) _).trans (hb1.mono (by simp only [World.size_alloc]; omega))⟩


set_option maxRecDepth 100000 in
set_option maxHeartbeats 1000000 in
theorem placeText_jump (n : Int) (w : World) (hE : Env w) (fn : Fit n) :
    Calls Tryd.prog 18 #[.iface 74 (jumpV n)] w fun e w' => e = .returned (.string (lineTo 9 (nums [n]) 1)) ∧ Below w.heap.size w w' := by
  have HE : Hid (Env w) := hE
  clear hE
  have hN := nums1_at (w.alloc (.cells #[.int .i64 n] 74)) n 3
  rw [World.size_alloc] at hN
  have HN : Hid (NumsAt ((w.alloc (.cells #[.int .i64 n] 74)).alloc (.cells #[.int .i64 n] 3)) (some ⟨w.heap.size + 1, 0, none⟩) 1 (nums [n])) := hN
  clear hN
  have HF : Hid (∀ j, j < 1 → -1000000000 ≤ nums [n] j ∧ nums [n] j ≤ 1000000000) := fit1 fn
  clear fn
  go_enter Tryd.func18, Tryd.ntmps18
  go_wp2_with fail
  refine (lineOf_int _ 9 1 1 _ (nums [n]) _ (by omega) (env_alloc (env_alloc HE.out _) _) (by omega) (by omega) HN.out HF.out).mono ?_
  rintro e w1 ⟨rfl, hb1⟩
  go_wp2
  go_ret
  exact ⟨rfl, (((Below.refl _ _).alloc (Nat.le_refl _) _).alloc (by simp) _).trans (hb1.mono (by simp only [World.size_alloc]; omega))⟩


set_option maxRecDepth 100000 in
set_option maxHeartbeats 1000000 in
theorem placeText_zero (a n : Int) (w : World) (hE : Env w) (fa : Fit a) (fn : Fit n) :
    Calls Tryd.prog 18 #[.iface 76 (zeroV a n)] w fun e w' => e = .returned (.string (lineTo 10 (nums [a, n]) 2)) ∧ Below w.heap.size w w' := by
  have HE : Hid (Env w) := hE
  clear hE
  have hN := nums2_at (w.alloc (.cells #[.int .i64 a, .int .i64 n] 76)) a n 3
  rw [World.size_alloc] at hN
  have HN : Hid (NumsAt ((w.alloc (.cells #[.int .i64 a, .int .i64 n] 76)).alloc (.cells #[.int .i64 a, .int .i64 n] 3)) (some ⟨w.heap.size + 1, 0, none⟩) 2 (nums [a, n])) := hN
  clear hN
  have HF : Hid (∀ j, j < 2 → -1000000000 ≤ nums [a, n] j ∧ nums [a, n] j ≤ 1000000000) := fit2 fa fn
  clear fa fn
  go_enter Tryd.func18, Tryd.ntmps18
  go_wp2_with fail
  refine (lineOf_int _ 10 2 2 _ (nums [a, n]) _ (by omega) (env_alloc (env_alloc HE.out _) _) (by omega) (by omega) HN.out HF.out).mono ?_
  rintro e w1 ⟨rfl, hb1⟩
  go_wp2
  go_ret
  exact ⟨rfl, (((Below.refl _ _).alloc (Nat.le_refl _) _).alloc (by simp) _).trans (hb1.mono (by simp only [World.size_alloc]; omega))⟩


set_option maxRecDepth 100000 in
set_option maxHeartbeats 1000000 in
theorem placeText_end (w : World) (hE : Env w) :
    Calls Tryd.prog 18 #[.iface 78 endV] w fun e w' => e = .returned (.string (lineTo 11 (nums []) 0)) ∧ Below w.heap.size w w' := by
  have HE : Hid (Env w) := hE
  clear hE
  go_enter Tryd.func18, Tryd.ntmps18
  go_wp2_with fail
  refine (lineOf_int _ 11 0 0 _ (nums []) _ (by omega) (env_alloc HE.out _) (by omega) (by omega) (.inl rfl) (fun j hj => by omega)).mono ?_
  rintro e w1 ⟨rfl, hb1⟩
  go_wp2
  go_ret
  exact ⟨rfl, ((Below.refl _ _).alloc (Nat.le_refl _) _).trans (hb1.mono (by simp only [World.size_alloc]; omega))⟩


end Go.Proofs.YtdlfdelngolkgaaDoor
