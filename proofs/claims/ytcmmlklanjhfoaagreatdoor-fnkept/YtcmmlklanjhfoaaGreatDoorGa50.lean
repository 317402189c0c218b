/- What KeepAll keeps is right, and restores every number of events with fewer than eight done again. -/
import Derived.Test.YtcmmlklanjhfoaaGreatDoorGa47
import Derived.Test.YtcmmlklanjhfoaaGreatDoorGa43
namespace Go.Proofs.YtcmmlklanjhfoaaGreatDoor
open Go.ChangeShapes Go.WideShapes Go.ChangeAt Go.RowKit Go.Deep

theorem ka_ok {g : Nat → I5} {n m : Nat} {eh : Nat → E3} {q : Nat → K9} (hs : (repO g n eh m).isSome = true) (hq : ∀ i, i < m / 8 + 1 → (q i).n = ((8 * i : Nat) : Int) ∧ (q i).s = kaS g n eh i) : KpOk g n eh m q (m / 8 + 1) := by
  obtain ⟨hp, h2, Sm, hm⟩ := repO_prog hs
  refine ⟨hs, ⟨by omega, ?_, fun j hj => ?_⟩, fun i hi => ?_⟩
  · rw [(hq 0 (by omega)).1]
    rfl
  · rw [(hq j (by omega)).1, (hq (j + 1) hj).1]
    omega
  · obtain ⟨h3, h4⟩ := hq i hi
    obtain ⟨S, hS⟩ := rp_some hm (k := 8 * i) (by omega)
    refine ⟨by rw [h3]; omega, by rw [h3]; omega, ?_⟩
    rw [h3, h4, Int.toNat_natCast, hS]
    unfold kaS repO
    rw [if_pos ⟨hp, by omega⟩, hS]
    rfl
theorem ka_last {q : Nat → K9} {c z : Nat} (hq : ∀ i, i < c → (q i).n = ((8 * i : Nat) : Int)) : ∀ k, k ≤ c → z / 8 < k → lastI q z k = z / 8
  | 0, _, h => absurd h (by omega)
  | k + 1, hk, h => by
    unfold lastI
    rw [hq k (by omega)]
    by_cases e : 8 * k ≤ z
    · rw [if_pos (by omega)]
      omega
    · rw [if_neg (by omega)]
      exact ka_last hq k (by omega) (by omega)
theorem ka_rs {g : Nat → I5} {n m : Nat} {eh : Nat → E3} {q : Nat → K9} (hs : (repO g n eh m).isSome = true) (hq : ∀ i, i < m / 8 + 1 → (q i).n = ((8 * i : Nat) : Int) ∧ (q i).s = kaS g n eh i) {z : Nat} (hz : z ≤ m) : rsK g n eh m q (m / 8 + 1) z = ((z % 8 : Nat) : Int) ∧ rsS g n eh m q (m / 8 + 1) z = resS (repO g n eh z) ∧ (repO g n eh z).isSome = true := by
  obtain ⟨hp, h2, Sm, hm⟩ := repO_prog hs
  obtain ⟨S, hS⟩ := rp_some hm hz
  have ho : RsOk g n eh m q (m / 8 + 1) z := ⟨ka_ok hs hq, by omega, by omega⟩
  have hr : repO g n eh z = some S := by
    unfold repO
    rw [if_pos ⟨hp, by omega⟩, hS]
  refine ⟨?_, ?_, by rw [hr]; rfl⟩
  · unfold rsK
    rw [if_pos (pB_true ho), ka_last (fun i hi => (hq i hi).1) _ (Nat.le_refl _) (by omega), (hq (z / 8) (by omega)).1]
    omega
  · unfold rsS
    rw [if_pos (pB_true ho), Int.toNat_natCast, hS, hr]

/-- Kept states of one's own, seen as kept states that came in. -/
theorem OKB.all {w : World} {P : Nat → Prop} {D n : Nat} {N : Nat → Int} {vs : Nat → Value} {S : Nat → S4} (o : OKB w P D n N vs S) : ∃ q : Nat → K9, AllKept w (some ⟨D, 0, none⟩) n q ∧ ∀ i, (q i).n = N i ∧ (q i).s = S i := by
  have h : ∀ i, ∃ x : K9, (x.n = N i ∧ x.s = S i) ∧ (i < n → (w.cell? ⟨D, 0 + i * 5, none⟩ = some (.int .i64 x.n) ∧ w.cell? ⟨D, 0 + i * 5 + 1, none⟩ = some (.int .i64 x.p) ∧ w.cell? ⟨D, 0 + i * 5 + 2, none⟩ = some (.slice x.ra x.rs.length x.rc) ∧ w.cell? ⟨D, 0 + i * 5 + 3, none⟩ = some (.slice x.oa x.os.length x.oc) ∧ w.cell? ⟨D, 0 + i * 5 + 4, none⟩ = some (.int .i64 x.c)) ∧ Sl w x.ra x.rs ∧ Sl w x.oa x.os) := by
    intro i
    by_cases hi : i < n
    · obtain ⟨ra, rc, oa, oc, ev, a0, a1, a2, a3, a4⟩ := o.cel i hi
      refine ⟨⟨⟨(S i).p, ra, rc, (S i).rs, oa, oc, (S i).os, (S i).c⟩, N i⟩, ⟨rfl, rfl⟩, fun _ => ⟨?_, ?_⟩⟩
      · rw [Nat.zero_add]
        exact ⟨a0, a1, a2, a3, a4⟩
      · obtain ⟨x1, x2, x3, x4, e, s1, s2⟩ := (o.own i hi).read
        rw [ev] at e
        simp only [Value.agg.injEq, Array.mk.injEq, List.cons.injEq, Value.slice.injEq, and_true, true_and] at e
        obtain ⟨⟨rfl, rfl⟩, rfl, rfl⟩ := e
        exact ⟨s1, s2⟩
    · exact ⟨⟨⟨(S i).p, none, 0, (S i).rs, none, 0, (S i).os, (S i).c⟩, N i⟩, ⟨rfl, rfl⟩, fun h => absurd h hi⟩
  exact ⟨fun i => Classical.choose (h i), ⟨.inr ⟨D, 0, rfl, o.lt, fun i hi => ((Classical.choose_spec (h i)).2 hi).1⟩, fun i hi => ((Classical.choose_spec (h i)).2 hi).2⟩, fun i => (Classical.choose_spec (h i)).1⟩
end Go.Proofs.YtcmmlklanjhfoaaGreatDoor
