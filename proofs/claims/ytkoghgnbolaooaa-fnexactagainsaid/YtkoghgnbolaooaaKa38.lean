/- The walks of slices.Equal, and of the program's question whether two states are the same. -/
import Derived.Test.YtkoghgnbolaooaaKa23
import Derived.Lib.QuietBelow
namespace Go.Proofs.Ytkoghgnbolaooaa
open Go.ChangeShapes Go.WideShapes Go.ChangeAt Go.RowKit Go.Deep Go.Sort

theorem list_of_zi {xs ys : List Int} (hl : xs.length = ys.length) (h : ∀ j, j < xs.length → zi xs j = zi ys j) : xs = ys := by
  refine List.ext_getElem hl fun i h1 h2 => ?_
  have := h i h1
  simpa [zi, List.getD_eq_getElem?_getD, List.getElem?_eq_getElem h1, List.getElem?_eq_getElem h2] using this

set_option maxRecDepth 100000 in
set_option maxHeartbeats 1000000 in
theorem equal_any (a0 a1 : Option Addr) (c0 c1 : Nat) (xs ys : List Int) (w : World) (hx : xs.length ≤ 1048576) (hy : ys.length ≤ 1048576) (h0 : Sl w a0 xs) (h1 : Sl w a1 ys) :
    Calls Try.prog 52 #[.slice a0 xs.length c0, .slice a1 ys.length c1] w fun e w' => e = .returned (.bool (xs == ys)) ∧ Below w.heap.size w w' := by
  have hl' : (xs.length : Int) ≤ 1048576 := by omega
  have hl2 : (ys.length : Int) ≤ 1048576 := by omega
  by_cases hl : xs.length = ys.length
  · have H0 : Hid (Sl w a0 xs) := h0
    have H1 : Hid (Sl w a1 ys) := h1
    have HL : Hid (xs.length = ys.length) := hl
    rw [← hl]
    clear h0 h1 hl hy hl2
    go_enter Try.func52, Try.ntmps52
    go_wp2_with fail
    go_loopw [13] (fun i wr => ∃ k : Nat, k ≤ xs.length ∧ i = .int .i64 k ∧ Below w.heap.size w wr ∧ Hid (∀ j, j < k → zi xs j = zi ys j)) (fun i _ => xs.length - (intOf i).toNat)
    case atStart => exact ⟨0, Nat.zero_le _, rfl, Below.refl _ _, fun j hj => by omega⟩
    case round =>
      obtain ⟨k, hk, rfl, hbw, HZ⟩ := hrel
      by_cases hlt : k < xs.length
      · have hlt2 : k < ys.length := by have := HL.out; omega
        obtain ⟨b, off, rfl, hbl, ck⟩ := (H0.out.below hbw).at hlt
        obtain ⟨b', off', rfl, hbl', ck'⟩ := (H1.out.below hbw).at hlt2
        have hlt' : (k : Int) < (xs.length : Int) := by omega
        clear hlt2
        rcases Bool.eq_false_or_eq_true (zi xs k != zi ys k) with t | t
        · have HN : Hid ((xs == ys) = false) := by
            show (xs == ys) = false
            rw [beq_eq_false_iff_ne]
            intro e
            rw [e] at t
            simp at t
          go_wp2_with fail
          go_quiet (fail)
          go_wp2
          go_ret
          rw [HN.out]
          exact ⟨rfl, below_drewN hbw _⟩
        · have HZ' : Hid (∀ j, j < k + 1 → zi xs j = zi ys j) := fun j hj => by
            by_cases e : j = k
            · subst e
              simpa using t
            · exact HZ.out j (by omega)
          clear HZ
          go_wp2_with fail
          go_quiet (fail)
          go_wp2
          go_roundw
          case rel => exact ⟨k + 1, by omega, by go_num, below_drewN hbw _, HZ'.out⟩
          case measure => simp [intOf]; omega
      · have HE : Hid ((xs == ys) = true) := by
          show (xs == ys) = true
          rw [beq_iff_eq]
          exact list_of_zi HL.out fun j hj => HZ.out j (by omega)
        clear HZ
        go_wp2
        go_ret
        rw [HE.out]
        exact ⟨rfl, hbw⟩
  · have hne : ((xs.length : Int) != (ys.length : Int)) = true := by simp; omega
    have HN : Hid ((xs == ys) = false) := by
      show (xs == ys) = false
      rw [beq_eq_false_iff_ne]
      intro e
      exact hl (by rw [e])
    clear h0 h1 hl
    go_enter Try.func52, Try.ntmps52
    go_wp2
    go_ret
    rw [HN.out]
    exact ⟨rfl, Below.refl _ _⟩

/-- Two states are the same. -/
def eqS (S T : S4) : Bool := (S.p == T.p) && (S.c == T.c) && (S.rs == T.rs) && (S.os == T.os)
theorem eqS_iff {S T : S4} : eqS S T = true ↔ S = T := by
  obtain ⟨a, b, c, d⟩ := S
  obtain ⟨a', b', c', d'⟩ := T
  simp only [eqS, Bool.and_eq_true, beq_iff_eq, S4.mk.injEq]
  exact ⟨fun ⟨⟨⟨h1, h2⟩, h3⟩, h4⟩ => ⟨h1, h3, h4, h2⟩, fun ⟨h1, h3, h4, h2⟩ => ⟨⟨⟨h1, h2⟩, h3⟩, h4⟩⟩

set_option maxRecDepth 100000 in
set_option maxHeartbeats 2000000 in
theorem implSameState_any (S T : S4) (ra oa ra' oa' : Option Addr) (rc oc rc' oc' : Nat) (w : World) (l1 : S.rs.length ≤ 1048576) (l2 : S.os.length ≤ 1048576) (l3 : T.rs.length ≤ 1048576) (l4 : T.os.length ≤ 1048576) (h1 : Sl w ra S.rs) (h2 : Sl w oa S.os) (h3 : Sl w ra' T.rs) (h4 : Sl w oa' T.os) :
    Calls Try.prog 39 #[stV S.p ra S.rs.length rc oa S.os.length oc S.c, stV T.p ra' T.rs.length rc' oa' T.os.length oc' T.c] w fun e w' => e = .returned (.bool (eqS S T)) ∧ Below w.heap.size w w' := by
  have H1 : Hid (Sl w ra S.rs ∧ Sl w ra' T.rs) := ⟨h1, h3⟩
  have H2 : Hid (Sl w oa S.os ∧ Sl w oa' T.os) := ⟨h2, h4⟩
  clear h1 h2 h3 h4
  rcases Bool.eq_false_or_eq_true (S.p == T.p) with t1 | t1
  case inr =>
    have HE : Hid (eqS S T = false) := by
      show eqS S T = false
      simp [eqS, t1]
    go_enter Try.func39, Try.ntmps39
    go_wp2
    go_ret
    rw [HE.out]
    exact ⟨rfl, by go_grown⟩
  rcases Bool.eq_false_or_eq_true (S.c == T.c) with t2 | t2
  case inr =>
    have HE : Hid (eqS S T = false) := by
      show eqS S T = false
      simp [eqS, t2]
    go_enter Try.func39, Try.ntmps39
    go_wp2
    go_ret
    rw [HE.out]
    exact ⟨rfl, by go_grown⟩
  rcases Bool.eq_false_or_eq_true (S.rs == T.rs) with t3 | t3
  case inr =>
    have HE : Hid (eqS S T = false) := by
      show eqS S T = false
      simp [eqS, t3]
    have T3 : Hid ((S.rs == T.rs) = false) := t3
    clear t3
    go_enter Try.func39, Try.ntmps39
    go_wp2_with fail
    refine (equal_any _ _ _ _ _ _ _ l1 l3 (H1.out.1.below (by go_grown)) (H1.out.2.below (by go_grown))).mono ?_
    rintro e w1 ⟨rfl, b1⟩
    rw [T3.out]
    have B1 : Hid (Below w.heap.size w w1) := below_up (by go_grown) b1 (by simp; omega)
    clear b1
    go_wp2
    go_ret
    rw [HE.out]
    exact ⟨rfl, B1.out⟩
  have HE : Hid (eqS S T = (S.os == T.os)) := by
    show eqS S T = (S.os == T.os)
    simp [eqS, t1, t2, t3]
  have T3 : Hid ((S.rs == T.rs) = true) := t3
  clear t3
  go_enter Try.func39, Try.ntmps39
  go_wp2_with fail
  refine (equal_any _ _ _ _ _ _ _ l1 l3 (H1.out.1.below (by go_grown)) (H1.out.2.below (by go_grown))).mono ?_
  rintro e w1 ⟨rfl, b1⟩
  rw [T3.out]
  have B1 : Hid (Below w.heap.size w w1) := below_up (by go_grown) b1 (by simp; omega)
  obtain ⟨hc1, hf1⟩ := bcell b1
  clear b1
  go_wp2_with fail
  refine (equal_any _ _ _ _ _ _ _ l2 l4 (H2.out.1.below B1.out) (H2.out.2.below B1.out)).mono ?_
  rintro e w2 ⟨rfl, b2⟩
  have B2 : Hid (Below w.heap.size w w2) := B1.out.trans (b2.mono B1.out.size)
  clear b2 hc1 hf1
  go_wp2
  go_ret
  rw [HE.out]
  exact ⟨rfl, B2.out⟩

end Go.Proofs.Ytkoghgnbolaooaa
