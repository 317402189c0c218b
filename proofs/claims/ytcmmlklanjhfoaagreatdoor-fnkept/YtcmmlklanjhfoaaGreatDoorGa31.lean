/- The state behind some first events, where there is one behind all. -/
import Derived.Test.YtcmmlklanjhfoaaGreatDoorGa30
import Derived.Test.YtcmmlklanjhfoaaGreatDoorGa28
namespace Go.Proofs.YtcmmlklanjhfoaaGreatDoor
open Go.RowKit Go.Sort

theorem rp_some {g : Nat → I5} {n : Nat} {eh : Nat → E3} {k m : Nat} {S : S4} (h : rp g n eh m = some S) (hk : k ≤ m) : ∃ S', rp g n eh k = some S' := by
  cases hr : rp g n eh k with
  | none =>
    rw [rp_over hr hk] at h
    cases h
  | some S' => exact ⟨S', rfl⟩
theorem rp_ok {g : Nat → I5} {n : Nat} {eh : Nat → E3} (hp : progOkB g n 4 = true) : ∀ k S, rp g n eh k = some S → OkS n S := by
  intro k
  induction k with
  | zero =>
    intro S hS
    simp only [rp, Option.some.injEq] at hS
    rw [← hS]
    exact newS_ok hp
  | succ k ih =>
    intro S hS
    simp only [rp] at hS
    cases hr : rp g n eh k with
    | none => rw [hr] at hS; cases hS
    | some S0 =>
      rw [hr] at hS
      simp only [Option.bind_some, rpStep] at hS
      split at hS
      · rename_i hd
        simp only [Option.some.injEq] at hS
        rw [← hS]
        exact doS_ok hd
      · cases hS
theorem rp_next {g : Nat → I5} {n : Nat} {eh : Nat → E3} {k m : Nat} {S Sm : S4} (h : rp g n eh k = some S) (hm : rp g n eh m = some Sm) (hk : k < m) : doB g n S.p S.rs S.os S.c (eh k).k (eh k).q (eh k).v = true ∧ rp g n eh (k + 1) = some (doS g n S.p S.rs S.os S.c (eh k).k (eh k).q (eh k).v) := by
  rcases Bool.eq_false_or_eq_true (doB g n S.p S.rs S.os S.c (eh k).k (eh k).q (eh k).v) with t | t
  · exact ⟨t, rp_yes h t⟩
  · have := rp_over (rp_no h t) (show k + 1 ≤ m by omega)
    rw [hm] at this
    cases this

end Go.Proofs.YtcmmlklanjhfoaaGreatDoor
