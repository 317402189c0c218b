/- What is done leaves a state that is right: the mathematics. -/
import Derived.Test.YtmbmhpginegggaaDiJ
namespace Go.Proofs.Ytmbmhpginegggaa
open Go.RowKit

theorem stOk_mk {n : Nat} {p code : Int} {rs os : List Int} (h1 : rs.length = 4) (h2 : allN rs = true) (h3 : 0 ≤ code ∧ code ≤ 2) (h4 : belB p n = true) (h5 : os.length ≤ 60) (h6 : allN os = true) : stOkB n p rs os code = true := by
  have e : inB code 0 2 = true := by simp [inB]; omega
  have e5 : ((os.length : Int) ≤ 60) := by omega
  simp [stOkB, regsB, outB, h1, h2, e, h4, e5, h6]

theorem allN_set {xs : List Int} {j : Nat} {v : Int} (h : allN xs = true) (hv : numB v = true) : allN (xs.set j v) = true := by
  unfold allN at h ⊢
  rw [List.all_eq_true] at h ⊢
  intro x hx
  rcases List.mem_or_eq_of_mem_set hx with h1 | h1
  · exact h x h1
  · rw [h1]; exact hv

/-- A state that is right for a list of so many places. -/
def OkS (len : Nat) (S : S4) : Prop := stOkB len S.p S.rs S.os S.c = true

theorem goS_ok {len k : Nat} {rs os : List Int} (hk : k < len) (h1 : rs.length = 4) (h2 : allN rs = true) (h5 : os.length ≤ 60) (h6 : allN os = true) : OkS len (goS len k rs os 0) := by
  unfold OkS goS goP goC
  by_cases h : (len : Int) ≤ (k : Int) + 1
  · simp only [h, if_true]
    exact stOk_mk h1 h2 (by omega) (by simp [belB]; omega) h5 h6
  · simp only [h, if_false]
    exact stOk_mk h1 h2 (by omega) (by simp [belB]; omega) h5 h6

theorem doS_ok {g : Nat → I5} {len : Nat} {p : Int} {rs os : List Int} {code ek eq ev : Int} (hB : doB g len p rs os code ek eq ev = true) : OkS len (doS g len p rs os code ek eq ev) := by
  have hR := doB_right hB
  obtain ⟨hp, hs, rfl⟩ := right_parts hR
  obtain ⟨⟨a1, a2, a3, a4, rfl, n1, n2, n3, n4⟩, ⟨k, rfl, hk⟩, h60, hN⟩ := st_parts hs
  have hS : doS g len k [a1, a2, a3, a4] os 0 ek eq ev = doneS len (g k) k [a1, a2, a3, a4] os 0 ev := by
    unfold doS
    rw [if_pos hB, Int.toNat_natCast]
  rw [hS]
  have hins := right_ins hp hk
  obtain ⟨⟨o1, o11⟩, ⟨r0, r3⟩, ⟨m0, m3⟩, ⟨q0, q3⟩⟩ := ins_range hins
  have hA : allN [a1, a2, a3, a4] = true := by simp [allN, n1, n2, n3, n4]
  have hz : ∀ j, j < 4 → numB (zi [a1, a2, a3, a4] j) = true := fun j hj => by
    match j, hj with
    | 0, _ => exact n1
    | 1, _ => exact n2
    | 2, _ => exact n3
    | 3, _ => exact n4
  have hkB : belB (k : Int) len = true := by simp [belB]; omega
  have hc := hB
  unfold doB nxK nxP nxW at hc
  rw [if_pos hR, if_pos hR, if_pos hR, Int.toNat_natCast] at hc
  have v7 : (g k).o = 7 → numB ev = true := fun h => by
    rw [h, show evK 7 = 3 from rfl, canB_take] at hc
    simp only [Bool.and_eq_true] at hc
    exact hc.1.2
  have v8 : (g k).o = 8 → numB ev = true := fun h => by
    rw [h, show evK 8 = 4 from rfl, canB_other (by decide) (by decide)] at hc
    unfold evEqB at hc
    simp only [Bool.and_eq_true, beq_iff_eq] at hc
    rw [hc.2.2]
    exact hz _ (by omega)
  unfold doneS
  split
  · exact goS_ok hk rfl hA h60 hN
  split
  · rename_i h7
    exact goS_ok hk (by simp) (allN_set hA (v7 h7)) h60 hN
  split
  · rename_i h8
    split
    · exact stOk_mk rfl hA (by simp) hkB h60 hN
    · refine goS_ok hk rfl hA (by simp; omega) ?_
      unfold allN at hN ⊢
      rw [List.all_append, hN]
      simp [v8 h8]
  split
  · rename_i h9
    exact stOk_mk rfl hA (by simp) (jump_to hins (.inl h9)) h60 hN
  split
  · rename_i h10
    split
    · exact stOk_mk rfl hA (by simp) (jump_to hins (.inr h10)) h60 hN
    · exact goS_ok hk rfl hA h60 hN
  split
  · exact stOk_mk rfl hA (by simp) hkB h60 hN
  split
  · rename_i hv
    exact goS_ok hk (by simp) (allN_set hA hv) h60 hN
  · exact stOk_mk rfl hA (by simp) hkB h60 hN

/-- Where nothing is taken, what is done is what comes; a take is done where one comes. -/
theorem done_next {K P V ek eq ev : Int} (h : canB K P V ek eq ev = true) : (K = 3 ∧ ek = 3) ∨ (K ≠ 3 ∧ ek = K ∧ eq = P ∧ ev = V) := by
  unfold canB at h
  by_cases h3 : K = 3
  · rw [if_pos h3] at h
    simp only [Bool.and_eq_true, beq_iff_eq] at h
    exact .inl ⟨h3, h.1.1⟩
  · rw [if_neg h3] at h
    simp only [Bool.and_eq_true, beq_iff_eq] at h
    exact .inr ⟨h3, h.2.1, h.2.2.1, h.2.2.2⟩

end Go.Proofs.Ytmbmhpginegggaa
