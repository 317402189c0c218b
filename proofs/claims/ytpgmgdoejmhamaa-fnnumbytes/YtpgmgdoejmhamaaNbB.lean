/- A number is read from its bytes as it was, whatever stands behind them; what is read is the form of its number. -/
import Derived.Test.YtpgmgdoejmhamaaNbA
namespace Go.Proofs.Ytpgmgdoejmhamaa
open Go.RowKit Go.Deep

theorem frm_take : ∀ (k : Nat) (L F : List Int), frm k L = some F → F = L.take F.length
  | 0, _, _, h => by simp [frm] at h
  | k + 1, [], _, h => by simp [frm] at h
  | k + 1, d :: r, F, h => by
    rw [frm] at h
    split at h
    · cases h
      rfl
    · cases hf : frm k r with
      | none => rw [hf] at h; cases h
      | some G =>
        rw [hf] at h
        cases h
        rw [List.length_cons, List.take_succ_cons, ← frm_take k r G hf]
theorem frm_fm : ∀ (k n : Nat) (r : List Int), n < 128 ^ (k + 1) → frm (k + 1) (fmN k n ++ r) = some (fmN k n)
  | 0, n, r, h => by
    simp at h
    rw [fm_last 0 n h, List.singleton_append, frm, if_pos (by omega)]
  | k + 1, n, r, h => by
    by_cases hn : n < 128
    · rw [fm_last (k + 1) n hn, List.singleton_append, frm, if_pos (by omega)]
    · obtain ⟨j, e, hj, hf⟩ := fm_step (k + 1) n (by omega) h
      obtain rfl : k = j := by omega
      rw [hf, List.cons_append, frm, if_neg (by omega), frm_fm k (n / 128) r hj]
      rfl
theorem val_fm : ∀ (k n : Nat), n < 128 ^ (k + 1) → val (fmN k n) = n
  | 0, n, h => by
    simp at h
    rw [fm_last 0 n h]
    simp only [val]
    omega
  | k + 1, n, h => by
    by_cases hn : n < 128
    · rw [fm_last (k + 1) n hn]
      simp only [val]
      omega
    · obtain ⟨j, e, hj, hf⟩ := fm_step (k + 1) n (by omega) h
      obtain rfl : k = j := by omega
      rw [hf, val, val_fm k (n / 128) hj]
      omega
theorem unf_fd (x : Int) : unf (fd x) = x := by
  unfold unf fd
  split <;> split <;> omega
theorem gn_put {x : Int} (h : puB x = true) (r : List Int) : gnO (puL x ++ r) 0 = some (x, ((puL x).length : Int)) := by
  have hle := fd_le x h
  have hb : fd x < 128 ^ (4 + 1) := by omega
  have hp := puL_pos x h
  have e : puL x = fmN 4 (fd x) := by rw [puL, if_pos h]
  rw [gnO, if_pos ⟨by omega, by rw [List.length_append]; omega⟩]
  show (match frm 5 ((puL x ++ r).drop 0) with | none => none | some F => _) = _
  rw [List.drop_zero]
  have hf : frm 5 (puL x ++ r) = some (puL x) := by rw [e]; exact frm_fm 4 (fd x) r hb
  have hv : val (puL x) = fd x := by rw [e]; exact val_fm 4 (fd x) hb
  have ho : okF (puL x) = true := by
    unfold okF
    rw [e]
    exact decide_eq_true (fm_ok 4 _)
  rw [hf]
  show (if puB (unf (val (puL x))) = true ∧ okF (puL x) = true then some (unf (val (puL x)), (0 : Int) + (puL x).length) else none) = _
  rw [hv, unf_fd, if_pos ⟨h, ho⟩, Int.zero_add]
theorem gn_some {ys : List Int} (hb : By ys) {z x e : Int} (h : gnO ys z = some (x, e)) : ∃ a n : Nat, z = a ∧ e = ((a + n : Nat) : Int) ∧ 1 ≤ n ∧ n ≤ 5 ∧ a + n ≤ ys.length ∧ puL x = (ys.drop a).take n := by
  rw [gn_fo] at h
  cases hf : foO ys z with
  | none => rw [hf] at h; cases h
  | some F =>
    rw [hf] at h
    obtain ⟨f1, f2, f3, f4, f5, f6⟩ := fo_is hb hf
    obtain ⟨a, rfl⟩ := Int.eq_ofNat_of_zero_le f5
    simp only at h
    split at h
    · rename_i hc
      simp only [Option.some.injEq, Prod.mk.injEq] at h
      obtain ⟨rfl, rfl⟩ := h
      have ht : F = (ys.drop a).take F.length := by
        refine frm_take 5 _ _ ?_
        unfold foO at hf
        rw [if_pos ⟨f5, by omega⟩] at hf
        exact hf
      refine ⟨a, F.length, rfl, by omega, f3, f2, by omega, ?_⟩
      rw [← ht]
      exact (pu_form f1 f2).2 hc
    · cases h

/-- What lies between two places of bytes. -/
theorem slice_bytes {w : World} {a0 : Option Addr} {cap a n m : Nat} {ys : List Int} (hm : a + n = m) (hs : SlB w a0 ys) (hl : m ≤ ys.length) (hn : 1 ≤ n) (hc : ys.length ≤ cap) :
    ∃ a', (∀ w', (Instr.slice 22 (.slice a0 ys.length cap) (some (.int .i64 (a : Int))) (some (.int .i64 (m : Int))) none).run Try.prog w' = .ok (.slice a' n (cap - a)) w') ∧ ∀ wx, SlB wx a0 ys → SlB wx a' ((ys.drop a).take n) := by
  obtain ⟨b, off, rfl, hb, -⟩ := hs.at (k := a) (by omega)
  refine ⟨some ⟨b, off + a, none⟩, fun w' => ?_, fun wx hx => ?_⟩
  · have e1 : m - a = n := by omega
    have e2 : (m : Int) ≤ (cap : Int) := by omega
    have e3 : a ≤ m := by omega
    have e4 : ¬ cap = a := by omega
    simp [go_sem, sliced, addr_add, e1, e2, e3, e4]
  · obtain ⟨b', off', e, hbx, -⟩ := hx.at (k := a) (by omega)
    cases e
    refine .inr ⟨b, off + a, rfl, hbx, fun i hi => ?_⟩
    rw [List.length_take, List.length_drop] at hi
    obtain ⟨b', off', e, -, ck⟩ := hx.at (k := a + i) (by omega)
    cases e
    rw [zi_take _ _ _ (by omega), zi_drop, Nat.add_assoc]
    exact ck

end Go.Proofs.Ytpgmgdoejmhamaa
