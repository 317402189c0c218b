/- A run done once more: the mathematics; the walk of the model's l3Replay. -/
import Derived.Test.YtnfdnnmddadmkaaGreatDoorNc0
import Derived.Test.YtnfdnnmddadmkaaGreatDoorNc31
import Derived.Test.YtnfdnnmddadmkaaGreatDoorNc24
namespace Go.Proofs.YtnfdnnmddadmkaaGreatDoor
open Go.RowKit
theorem stOk_mk {n : Nat} {p code : Int} {rs os : List Int} (h1 : rs.length = 4) (h2 : allN rs = true) (h3 : 0 ≤ code ∧ code ≤ 2) (h4 : belB p n = true) (h5 : os.length ≤ 60) (h6 : allN os = true) : stOkB n p rs os code = true := by
 have e : inB code 0 2 = true := by simp [inB]; omega
 have e5 : ((os.length : Int) ≤ 60) := by omega
 simp [stOkB, regsB, outB, h1, h2, e, h4, e5, h6]
theorem allN_set {xs : List Int} {j : Nat} {v : Int} (h : allN xs = true) (hv : numB v = true) : allN (xs.set j v) = true := by
 unfold allN at h ⊢
 rw [List.all_eq_true] at h ⊢
 intro x hx
 rcases List.mem_or_eq_of_mem_set hx with h1 | h1
 ·exact h x h1
 ·rw [h1]; exact hv
def OkS (len : Nat) (S : S4) : Prop := stOkB len S.p S.rs S.os S.c = true
theorem goS_ok {len k : Nat} {rs os : List Int} (hk : k < len) (h1 : rs.length = 4) (h2 : allN rs = true) (h5 : os.length ≤ 60) (h6 : allN os = true) : OkS len (goS len k rs os 0) := by
 unfold OkS goS goP goC
 by_cases h : (len : Int) ≤ (k : Int) + 1
 ·simp only [h, if_true]
  exact stOk_mk h1 h2 (by omega) (by simp [belB]; omega) h5 h6
 ·simp only [h, if_false]
  exact stOk_mk h1 h2 (by omega) (by simp [belB]; omega) h5 h6
theorem doS_ok {g : Nat → I5} {len : Nat} {p : Int} {rs os : List Int} {code ek eq ev : Int} (hB : doB g len p rs os code ek eq ev = true) : OkS len (doS g len p rs os code ek eq ev) := by
 have hR := doB_right hB
 obtain ⟨hp, hs, rfl⟩ := right_parts hR
 obtain ⟨⟨a1, a2, a3, a4, rfl, n1, n2, n3, n4⟩, ⟨k, rfl, hk⟩, h60, hN⟩ := st_parts hs
 have hS : doS g len k [a1, a2, a3, a4] os 0 ek eq ev = doneS len (g k) k [a1, a2, a3, a4] os 0 ev := by
  unfold doS
  rw [if_pos hB, Int.toNat_natCast]
 rw [hS]
 have hins := right_ins hp hk
 obtain ⟨⟨o1, o11⟩, ⟨r0, r3⟩, ⟨m0, m3⟩, ⟨q0, q3⟩⟩ := ins_range hins
 have hA : allN [a1, a2, a3, a4] = true := by simp [allN, n1, n2, n3, n4]
 have hz : ∀ j, j < 4 → numB (zi [a1, a2, a3, a4] j) = true := fun j hj => by
  match j, hj with
  | 0, _ => exact n1
  | 1, _ => exact n2
  | 2, _ => exact n3
  | 3, _ => exact n4
 have hkB : belB (k : Int) len = true := by simp [belB]; omega
 have hc := hB
 unfold doB nxK nxP nxW at hc
 rw [if_pos hR, if_pos hR, if_pos hR, Int.toNat_natCast] at hc
 have v7 : (g k).o = 7 → numB ev = true := fun h => by
  rw [h, show evK 7 = 3 from rfl, canB_take] at hc
  simp only [Bool.and_eq_true] at hc
  exact hc.1.2
 have v8 : (g k).o = 8 → numB ev = true := fun h => by
  rw [h, show evK 8 = 4 from rfl, canB_other (by decide) (by decide)] at hc
  unfold evEqB at hc
  simp only [Bool.and_eq_true, beq_iff_eq] at hc
  rw [hc.2.2]
  exact hz _ (by omega)
 unfold doneS
 split
 ·exact goS_ok hk rfl hA h60 hN
 split
 ·rename_i h7
  exact goS_ok hk (by simp) (allN_set hA (v7 h7)) h60 hN
 split
 ·rename_i h8
  split
  ·exact stOk_mk rfl hA (by simp) hkB h60 hN
  ·refine goS_ok hk rfl hA (by simp; omega) ?_
   unfold allN at hN ⊢
   rw [List.all_append, hN]
   simp [v8 h8]
 split
 ·rename_i h9
  exact stOk_mk rfl hA (by simp) (jump_to hins (.inl h9)) h60 hN
 split
 ·rename_i h10
  split
  ·exact stOk_mk rfl hA (by simp) (jump_to hins (.inr h10)) h60 hN
  ·exact goS_ok hk rfl hA h60 hN
 split
 ·exact stOk_mk rfl hA (by simp) hkB h60 hN
 split
 ·rename_i hv
  exact goS_ok hk (by simp) (allN_set hA hv) h60 hN
 ·exact stOk_mk rfl hA (by simp) hkB h60 hN
def newS : S4 := ⟨0, [0, 0, 0, 0], [], 0⟩
def rpStep (g : Nat → I5) (len : Nat) (x : E3) (S : S4) : Option S4 := if doB g len S.p S.rs S.os S.c x.k x.q x.v = true then some (doS g len S.p S.rs S.os S.c x.k x.q x.v) else none
def rp (g : Nat → I5) (len : Nat) (h : Nat → E3) : Nat → Option S4
 | 0 => some newS
 | k + 1 => (rp g len h k).bind (rpStep g len (h k))
theorem rp_none {g : Nat → I5} {len : Nat} {h : Nat → E3} {k : Nat} (hk : rp g len h k = none) : ∀ d, rp g len h (k + d) = none
 | 0 => hk
 | d + 1 => by
  have := rp_none hk d
  show (rp g len h (k + d)).bind _ = none
  rw [this]
  rfl
theorem rp_over {g : Nat → I5} {len : Nat} {h : Nat → E3} {k m : Nat} (hk : rp g len h k = none) (hm : k ≤ m) : rp g len h m = none := by
 have := rp_none hk (m - k)
 rwa [show k + (m - k) = m by omega] at this
theorem rp_yes {g : Nat → I5} {len : Nat} {h : Nat → E3} {k : Nat} {S : S4} (hk : rp g len h k = some S) (hd : doB g len S.p S.rs S.os S.c (h k).k (h k).q (h k).v = true) : rp g len h (k + 1) = some (doS g len S.p S.rs S.os S.c (h k).k (h k).q (h k).v) := by
 show (rp g len h k).bind _ = _
 rw [hk]
 show rpStep g len (h k) S = _
 unfold rpStep
 rw [if_pos hd]
theorem rp_no {g : Nat → I5} {len : Nat} {h : Nat → E3} {k : Nat} {S : S4} (hk : rp g len h k = some S) (hd : doB g len S.p S.rs S.os S.c (h k).k (h k).q (h k).v = false) : rp g len h (k + 1) = none := by
 show (rp g len h k).bind _ = _
 rw [hk]
 show rpStep g len (h k) S = _
 unfold rpStep
 rw [if_neg (by rw [hd]; decide)]
def resS (o : Option S4) : S4 := o.getD ⟨0, [], [], 0⟩
theorem prog_len {g : Nat → I5} {len : Nat} (hp : progOkB g len 4 = true) : 1 ≤ len ∧ len ≤ 30 := by
 simp only [progOkB, Bool.and_eq_true] at hp
 have := hp.2.1
 simp [inB] at this
 omega
theorem newS_ok {g : Nat → I5} {len : Nat} (hp : progOkB g len 4 = true) : OkS len newS := by
 have := prog_len hp
 exact stOk_mk rfl (by simp [newS, allN, numB, inB]) (by simp [newS]) (by simp [belB, newS]; omega) (by simp [newS]) rfl
theorem right_of {g : Nat → I5} {len : Nat} {S : S4} (hp : progOkB g len 4 = true) (hS : OkS len S) (hc : S.c = 0) : rightB g len S.p S.rs S.os S.c = true := by
 unfold OkS at hS
 rw [rightB, hp, hS, hc]
 rfl
theorem doB_code {g : Nat → I5} {len : Nat} {S : S4} {k q v : Int} (hc : S.c ≠ 0) : doB g len S.p S.rs S.os S.c k q v = false := by
 rcases Bool.eq_false_or_eq_true (doB g len S.p S.rs S.os S.c k q v) with h | h
 ·obtain ⟨-, -, h0⟩ := right_parts (doB_right h)
  exact absurd h0 hc
 ·exact h
theorem OkS.len {n : Nat} {S : S4} (h : OkS n S) : S.rs.length = 4 ∧ S.os.length ≤ 60 := by
 obtain ⟨⟨a, b, c, d, e, -⟩, -, h60, -⟩ := st_parts h
 exact ⟨by rw [e]; rfl, h60⟩
end Go.Proofs.YtnfdnnmddadmkaaGreatDoor
