/- The walk of the model's l4SameState. -/
import Derived.Test.YtkoghgnbolaooaaKa37
import Derived.Test.YtkoghgnbolaooaaKa36
import Derived.Test.YtkoghgnbolaooaaKa38
namespace Go.Proofs.Ytkoghgnbolaooaa
open Go.RowKit Go.Sort

theorem rp_some {g : Nat → I5} {n : Nat} {eh : Nat → E3} {k m : Nat} {S : S4} (h : rp g n eh m = some S) (hk : k ≤ m) : ∃ S', rp g n eh k = some S' := by
  cases hr : rp g n eh k with
  | none =>
    rw [rp_over hr hk] at h
    cases h
  | some S' => exact ⟨S', rfl⟩
theorem rp_ok {g : Nat → I5} {n : Nat} {eh : Nat → E3} (hp : progOkB g n 4 = true) : ∀ k S, rp g n eh k = some S → OkS n S := by
  intro k
  induction k with
  | zero =>
    intro S hS
    simp only [rp, Option.some.injEq] at hS
    rw [← hS]
    exact newS_ok hp
  | succ k ih =>
    intro S hS
    simp only [rp] at hS
    cases hr : rp g n eh k with
    | none => rw [hr] at hS; cases hS
    | some S0 =>
      rw [hr] at hS
      simp only [Option.bind_some, rpStep] at hS
      split at hS
      · rename_i hd
        simp only [Option.some.injEq] at hS
        rw [← hS]
        exact doS_ok hd
      · cases hS
theorem rp_next {g : Nat → I5} {n : Nat} {eh : Nat → E3} {k m : Nat} {S Sm : S4} (h : rp g n eh k = some S) (hm : rp g n eh m = some Sm) (hk : k < m) : doB g n S.p S.rs S.os S.c (eh k).k (eh k).q (eh k).v = true ∧ rp g n eh (k + 1) = some (doS g n S.p S.rs S.os S.c (eh k).k (eh k).q (eh k).v) := by
  rcases Bool.eq_false_or_eq_true (doB g n S.p S.rs S.os S.c (eh k).k (eh k).q (eh k).v) with t | t
  · exact ⟨t, rp_yes h t⟩
  · have := rp_over (rp_no h t) (show k + 1 ≤ m by omega)
    rw [hm] at this
    cases this

end Go.Proofs.Ytkoghgnbolaooaa

namespace Go.Proofs.Ytkoghgnbolaooaa
open Go.ChangeShapes Go.WideShapes Go.ChangeAt Go.RowKit Go.Deep Go.Sort

noncomputable def pB (p : Prop) : Bool := @decide p (Classical.propDecidable _)
theorem pB_true {p : Prop} (h : p) : pB p = true := by simp [pB, h]
theorem pB_false {p : Prop} (h : ¬ p) : pB p = false := by simp [pB, h]
theorem pB_iff {p : Prop} : pB p = true ↔ p := by simp [pB]

set_option maxRecDepth 100000 in
set_option maxHeartbeats 2000000 in
theorem specSameState_any (S T : S4) (ra oa ra' oa' : Option Addr) (rc oc rc' oc' : Nat) (w : World) (l1 : S.rs.length ≤ 1048576) (l2 : S.os.length ≤ 1048576) (_l3 : T.rs.length ≤ 1048576) (_l4 : T.os.length ≤ 1048576) (h1 : Sl w ra S.rs) (h2 : Sl w oa S.os) (h3 : Sl w ra' T.rs) (h4 : Sl w oa' T.os) :
    Calls Try.prog 21 #[stV S.p ra S.rs.length rc oa S.os.length oc S.c, stV T.p ra' T.rs.length rc' oa' T.os.length oc' T.c] w fun e w' => e = .returned (.bool (eqS S T)) ∧ Below w.heap.size w w' := by
  have l1' : (S.rs.length : Int) ≤ 1048576 := by omega
  have l2' : (S.os.length : Int) ≤ 1048576 := by omega
  have H1 : Hid (Sl w ra S.rs ∧ Sl w ra' T.rs) := ⟨h1, h3⟩
  have H2 : Hid (Sl w oa S.os ∧ Sl w oa' T.os) := ⟨h2, h4⟩
  clear h1 h2 h3 h4 l1 l2
  rcases Bool.eq_false_or_eq_true (S.p != T.p) with t1 | t1
  case inl =>
    have HE : Hid (eqS S T = false) := by
      show eqS S T = false
      have : (S.p == T.p) = false := by simpa using t1
      simp [eqS, this]
    go_enter Try.func21, Try.ntmps21
    go_wp2
    go_ret
    rw [HE.out]
    exact ⟨rfl, by go_grown⟩
  rcases Bool.eq_false_or_eq_true (S.c != T.c) with t2 | t2
  case inl =>
    have HE : Hid (eqS S T = false) := by
      show eqS S T = false
      have : (S.c == T.c) = false := by simpa using t2
      simp [eqS, this]
    go_enter Try.func21, Try.ntmps21
    go_wp2
    go_ret
    rw [HE.out]
    exact ⟨rfl, by go_grown⟩
  rcases Bool.eq_false_or_eq_true ((S.rs.length : Int) != (T.rs.length : Int)) with t3 | t3
  case inl =>
    have HE : Hid (eqS S T = false) := by
      show eqS S T = false
      have : (S.rs == T.rs) = false := by
        rw [beq_eq_false_iff_ne]
        intro e
        rw [e] at t3
        simp at t3
      simp [eqS, this]
    go_enter Try.func21, Try.ntmps21
    go_wp2
    go_ret
    rw [HE.out]
    exact ⟨rfl, by go_grown⟩
  rcases Bool.eq_false_or_eq_true ((S.os.length : Int) != (T.os.length : Int)) with t4 | t4
  case inl =>
    have HE : Hid (eqS S T = false) := by
      show eqS S T = false
      have : (S.os == T.os) = false := by
        rw [beq_eq_false_iff_ne]
        intro e
        rw [e] at t4
        simp at t4
      simp [eqS, this]
    go_enter Try.func21, Try.ntmps21
    go_wp2
    go_ret
    rw [HE.out]
    exact ⟨rfl, by go_grown⟩
  have HE : Hid (eqS S T = ((S.rs == T.rs) && (S.os == T.os)) ∧ S.rs.length = T.rs.length ∧ S.os.length = T.os.length) := by
    have e1 : (S.p == T.p) = true := by simpa using t1
    have e2 : (S.c == T.c) = true := by simpa using t2
    have e3 : S.rs.length = T.rs.length := by simp at t3; omega
    have e4 : S.os.length = T.os.length := by simp at t4; omega
    refine ⟨?_, e3, e4⟩
    show eqS S T = _
    simp [eqS, e1, e2]
  have N1 : Hid (BoxC ((w.alloc (.cells #[.int .i64 S.p, .slice ra S.rs.length rc, .slice oa S.os.length oc, .int .i64 S.c] 47)).alloc (.cells #[.int .i64 T.p, .slice ra' T.rs.length rc', .slice oa' T.os.length oc', .int .i64 T.c] 47)) w.heap.size (.int .i64 S.p) (.slice ra S.rs.length rc) (.slice oa S.os.length oc) (.int .i64 S.c)) := (BoxC.new w _ _ _ _ _).below (below_alloc _ _)
  have N2 : Hid (BoxC ((w.alloc (.cells #[.int .i64 S.p, .slice ra S.rs.length rc, .slice oa S.os.length oc, .int .i64 S.c] 47)).alloc (.cells #[.int .i64 T.p, .slice ra' T.rs.length rc', .slice oa' T.os.length oc', .int .i64 T.c] 47)) (w.heap.size + 1) (.int .i64 T.p) (.slice ra' T.rs.length rc') (.slice oa' T.os.length oc') (.int .i64 T.c)) := by
    have h := BoxC.new (w.alloc (.cells #[.int .i64 S.p, .slice ra S.rs.length rc, .slice oa S.os.length oc, .int .i64 S.c] 47)) (.int .i64 T.p) (.slice ra' T.rs.length rc') (.slice oa' T.os.length oc') (.int .i64 T.c) 47
    rw [World.size_alloc] at h
    exact h
  have NB : Hid (Below w.heap.size w ((w.alloc (.cells #[.int .i64 S.p, .slice ra S.rs.length rc, .slice oa S.os.length oc, .int .i64 S.c] 47)).alloc (.cells #[.int .i64 T.p, .slice ra' T.rs.length rc', .slice oa' T.os.length oc', .int .i64 T.c] 47))) := by
    show Below _ _ _
    go_grown
  go_enter Try.func21, Try.ntmps21
  go_wp2_with fail
  generalize (w.alloc (.cells #[.int .i64 S.p, .slice ra S.rs.length rc, .slice oa S.os.length oc, .int .i64 S.c] 47)).alloc (.cells #[.int .i64 T.p, .slice ra' T.rs.length rc', .slice oa' T.os.length oc', .int .i64 T.c] 47) = wb at *
  go_loopw [5] (fun i wr => ∃ k : Nat, k ≤ S.rs.length ∧ i = .int .i64 k ∧ Below wb.heap.size wb wr ∧ Hid (∀ j, j < k → zi S.rs j = zi T.rs j)) (fun i _ => S.rs.length - (intOf i).toNat)
  case atStart => exact ⟨0, Nat.zero_le _, rfl, Below.refl _ _, fun j hj => by omega⟩
  case round =>
    obtain ⟨k, hk, rfl, hbw, HZ⟩ := hrel
    have hw : Below w.heap.size w wr := NB.out.trans (hbw.mono NB.out.size)
    obtain ⟨n0, n1, n2, n3⟩ := N1.out.below hbw
    obtain ⟨m0, m1, m2, m3⟩ := N2.out.below hbw
    by_cases hlt : k < S.rs.length
    · have hlt2 : k < T.rs.length := by have := HE.out; omega
      obtain ⟨b, off, rfl, hbl, ck⟩ := (H1.out.1.below hw).at hlt
      obtain ⟨b', off', rfl, hbl', ck'⟩ := (H1.out.2.below hw).at hlt2
      have hlt' : (k : Int) < (S.rs.length : Int) := by omega
      have hlt2' : (k : Int) < (T.rs.length : Int) := by omega
      clear hlt2
      rcases Bool.eq_false_or_eq_true (zi S.rs k != zi T.rs k) with t | t
      · have HN : Hid (eqS S T = false) := by
          show eqS S T = false
          rw [HE.out.1]
          have : (S.rs == T.rs) = false := by
            rw [beq_eq_false_iff_ne]
            intro e
            rw [e] at t
            simp at t
          rw [this, Bool.false_and]
        go_wp2_with fail
        go_quiet (fail)
        go_wp2
        go_ret
        rw [HN.out]
        exact ⟨rfl, below_drewN hw _⟩
      · have HZ' : Hid (∀ j, j < k + 1 → zi S.rs j = zi T.rs j) := fun j hj => by
          by_cases e : j = k
          · subst e
            simpa using t
          · exact HZ.out j (by omega)
        clear HZ
        go_wp2_with fail
        go_quiet (fail)
        go_wp2
        go_roundw
        case rel => exact ⟨k + 1, by omega, by go_num, below_drewN hbw _, HZ'.out⟩
        case measure => simp [intOf]; omega
    · have HR : Hid ((S.rs == T.rs) = true) := by
        show (S.rs == T.rs) = true
        rw [beq_iff_eq]
        exact list_of_zi HE.out.2.1 fun j hj => HZ.out j (by omega)
      have hkl : k = S.rs.length := by omega
      subst hkl
      clear HZ hlt hk
      go_wp2_with fail
      clear n0 n1 n2 n3 m0 m1 m2 m3
      go_loopw [6] (fun i wr => ∃ k : Nat, k ≤ S.os.length ∧ i = .int .i64 k ∧ Below wb.heap.size wb wr ∧ Hid (∀ j, j < k → zi S.os j = zi T.os j)) (fun i _ => S.os.length - (intOf i).toNat)
      case atStart => exact ⟨0, Nat.zero_le _, rfl, hbw, fun j hj => by omega⟩
      case round =>
        clear hbw hw
        obtain ⟨k, hk, rfl, hbw, HZ⟩ := hrel
        have hw : Below w.heap.size w wr := NB.out.trans (hbw.mono NB.out.size)
        obtain ⟨n0, n1, n2, n3⟩ := N1.out.below hbw
        obtain ⟨m0, m1, m2, m3⟩ := N2.out.below hbw
        by_cases hlt : k < S.os.length
        · have hlt2 : k < T.os.length := by have := HE.out; omega
          obtain ⟨b, off, rfl, hbl, ck⟩ := (H2.out.1.below hw).at hlt
          obtain ⟨b', off', rfl, hbl', ck'⟩ := (H2.out.2.below hw).at hlt2
          have hlt' : (k : Int) < (S.os.length : Int) := by omega
          have hlt2' : (k : Int) < (T.os.length : Int) := by omega
          clear hlt2
          rcases Bool.eq_false_or_eq_true (zi S.os k != zi T.os k) with t | t
          · have HN : Hid (eqS S T = false) := by
              show eqS S T = false
              rw [HE.out.1]
              have : (S.os == T.os) = false := by
                rw [beq_eq_false_iff_ne]
                intro e
                rw [e] at t
                simp at t
              rw [this, Bool.and_false]
            go_wp2_with fail
            go_quiet (fail)
            go_wp2
            go_ret
            rw [HN.out]
            exact ⟨rfl, below_drewN hw _⟩
          · have HZ' : Hid (∀ j, j < k + 1 → zi S.os j = zi T.os j) := fun j hj => by
              by_cases e : j = k
              · subst e
                simpa using t
              · exact HZ.out j (by omega)
            clear HZ
            go_wp2_with fail
            go_quiet (fail)
            go_wp2
            go_roundw
            case rel => exact ⟨k + 1, by omega, by go_num, below_drewN hbw _, HZ'.out⟩
            case measure => simp [intOf]; omega
        · have HN : Hid (eqS S T = true) := by
            show eqS S T = true
            rw [HE.out.1, HR.out, Bool.true_and, beq_iff_eq]
            exact list_of_zi HE.out.2.2 fun j hj => HZ.out j (by omega)
          clear HZ
          go_wp2
          go_ret
          rw [HN.out]
          exact ⟨rfl, hw⟩

end Go.Proofs.Ytkoghgnbolaooaa
