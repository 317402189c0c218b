/- What a number's bytes are, read: the first form among bytes, its number, whether it is the shortest one. -/
import Derived.Test.YtpgmgdoejmhamaaPuA
namespace Go.Proofs.Ytpgmgdoejmhamaa
open Go.RowKit Go.Deep

def val : List Int → Nat
  | [] => 0
  | d :: r => (d % 128).toNat + 128 * val r
/-- The bytes up to the first below 128, where that comes among the first k. -/
def frm : Nat → List Int → Option (List Int)
  | 0, _ => none
  | _ + 1, [] => none
  | k + 1, d :: r => if d < 128 then some [d] else (frm k r).map (d :: ·)
def unf (n : Nat) : Int := if n % 2 = 1 then -(((n + 1) / 2 : Nat) : Int) else ((n / 2 : Nat) : Int)
def okF (F : List Int) : Bool := decide (F.length = 1 ∨ zi F (F.length - 1) ≠ 0)
def isF : List Int → Prop
  | [] => False
  | [d] => 0 ≤ d ∧ d < 128
  | d :: e :: r => (128 ≤ d ∧ d ≤ 255) ∧ isF (e :: r)
def By (ys : List Int) : Prop := ∀ i, i < ys.length → 0 ≤ zi ys i ∧ zi ys i ≤ 255

theorem zi_cons (d : Int) (r : List Int) (i : Nat) : zi (d :: r) (i + 1) = zi r i := by simp [zi]
theorem zi_zero (d : Int) (r : List Int) : zi (d :: r) 0 = d := by simp [zi]
theorem zi_drop (ys : List Int) (a k : Nat) : zi (ys.drop a) k = zi ys (a + k) := by
  unfold zi
  rw [List.getD_eq_getElem?_getD, List.getD_eq_getElem?_getD, List.getElem?_drop]
theorem zi_take (ys : List Int) (a k : Nat) (h : k < a) : zi (ys.take a) k = zi ys k := by
  unfold zi
  rw [List.getD_eq_getElem?_getD, List.getD_eq_getElem?_getD, List.getElem?_take, if_pos h]

theorem fd_unf (n : Nat) : fd (unf n) = n := by
  unfold fd unf
  split <;> split <;> omega
theorem unf_le (n : Nat) (h : n < 34359738368) : -20000000000 ≤ unf n ∧ unf n ≤ 20000000000 := by
  unfold unf
  split <;> omega

theorem val_pos : ∀ {F : List Int}, isF F → (F.length = 1 ∨ zi F (F.length - 1) ≠ 0) → 1 < F.length → 1 ≤ val F.tail
  | [], h, _, _ => h.elim
  | [_], _, _, h => by simp at h
  | d :: e :: [], h, ho, _ => by
    have he : 0 ≤ e ∧ e < 128 := h.2
    rcases ho with ho | ho
    · simp at ho
    · have : zi [d, e] 1 = e := by simp [zi]
      simp only [List.length_cons, List.length_nil] at ho
      rw [this] at ho
      simp only [List.tail_cons, val]
      omega
  | d :: e :: f :: r, h, ho, _ => by
    have h2 := h.2
    have := val_pos (F := e :: f :: r) h2 (by
      rcases ho with ho | ho
      · simp at ho
      · right
        simp only [List.length_cons, Nat.add_sub_cancel] at ho ⊢
        rw [zi_cons] at ho
        exact ho) (by simp)
    simp only [List.tail_cons] at this ⊢
    rw [val]
    omega

theorem fm_of : ∀ {F : List Int} (K : Nat), isF F → F.length ≤ K + 1 → (F.length = 1 ∨ zi F (F.length - 1) ≠ 0) → fmN K (val F) = F
  | [], _, h, _, _ => h.elim
  | [d], K, h, _, _ => by
    have h' : 0 ≤ d ∧ d < 128 := h
    have e : val [d] = d.toNat := by simp only [val]; omega
    rw [e, fm_last K _ (by omega)]
    congr 1
    omega
  | d :: e :: r, 0, _, hl, _ => by simp at hl
  | d :: e :: r, K + 1, h, hl, ho => by
    have h1 := h.1
    have hp := val_pos h ho (by simp)
    simp only [List.tail_cons] at hp
    have ho' : (e :: r).length = 1 ∨ zi (e :: r) ((e :: r).length - 1) ≠ 0 := by
      rcases ho with ho | ho
      · simp at ho
      · by_cases hr : r = []
        · left; simp [hr]
        · right
          obtain ⟨q, r', rfl⟩ := List.exists_cons_of_ne_nil hr
          simp only [List.length_cons, Nat.add_sub_cancel] at ho ⊢
          rw [zi_cons] at ho
          exact ho
    have ih := fm_of (F := e :: r) K h.2 (by simp at hl ⊢; omega) ho'
    have ev : val (d :: e :: r) = (d % 128).toNat + 128 * val (e :: r) := rfl
    have hm : val (d :: e :: r) % 128 = (d % 128).toNat := by omega
    have hd : val (d :: e :: r) / 128 = val (e :: r) := by omega
    rw [fmN, if_neg (by omega), hm, hd, ih]
    congr 1
    omega

theorem fm_end : ∀ (K n : Nat), 1 ≤ n → zi (fmN K n) ((fmN K n).length - 1) ≠ 0
  | 0, n, h => by simp [fmN, zi]; omega
  | K + 1, n, h => by
    rw [fmN]
    split
    · simp [zi]; omega
    · have ih := fm_end K (n / 128) (by omega)
      have hp := fm_pos K (n / 128)
      obtain ⟨m, hm⟩ : ∃ m, (fmN K (n / 128)).length = m + 1 := ⟨(fmN K (n / 128)).length - 1, by omega⟩
      rw [List.length_cons, hm, Nat.add_sub_cancel, zi_cons]
      rw [hm, Nat.add_sub_cancel] at ih
      exact ih
theorem fm_ok (K n : Nat) : (fmN K n).length = 1 ∨ zi (fmN K n) ((fmN K n).length - 1) ≠ 0 := by
  by_cases h : n < 128
  · left
    rw [fm_last K n h]
    rfl
  · exact .inr (fm_end K n (by omega))

/-- A form is that of its number just where it is the shortest, and the number is in its range. -/
theorem pu_form {F : List Int} (h : isF F) (hl : F.length ≤ 5) : puL (unf (val F)) = F ↔ puB (unf (val F)) = true ∧ okF F = true := by
  unfold puL okF
  rw [fd_unf]
  constructor
  · intro e
    split at e
    · rename_i hb
      refine ⟨hb, decide_eq_true ?_⟩
      rw [← e]
      exact fm_ok 4 _
    · rw [← e] at h
      exact h.elim
  · rintro ⟨hb, ho⟩
    rw [if_pos hb]
    exact fm_of 4 h hl (of_decide_eq_true ho)

theorem frm_skip : ∀ (k m : Nat) (L : List Int), k ≤ m → k ≤ L.length → (∀ j, j < k → 128 ≤ zi L j) → frm m L = (frm (m - k) (L.drop k)).map (L.take k ++ ·)
  | 0, m, L, _, _, _ => by simp
  | k + 1, 0, L, h, _, _ => by omega
  | k + 1, m + 1, [], _, h, _ => by simp at h
  | k + 1, m + 1, d :: r, h1, h2, h3 => by
    have hd : 128 ≤ d := by have := h3 0 (by omega); rwa [zi_zero] at this
    rw [frm, if_neg (by omega), frm_skip k m r (by omega) (by simp at h2; omega) (fun j hj => by have := h3 (j + 1) (by omega); rwa [zi_cons] at this)]
    rw [Nat.add_sub_add_right, List.drop_succ_cons, List.take_succ_cons, Option.map_map]
    rfl
theorem frm_no (L : List Int) (k : Nat) (h1 : k ≤ 5) (h2 : k ≤ L.length) (h3 : ∀ j, j < k → 128 ≤ zi L j) (h : k = 5 ∨ k = L.length) : frm 5 L = none := by
  rw [frm_skip k 5 L h1 h2 h3]
  rcases h with rfl | rfl
  · rfl
  · rw [List.drop_length]
    cases 5 - L.length <;> rfl
theorem frm_hit (L : List Int) (k : Nat) (h1 : k < 5) (h2 : k < L.length) (h3 : ∀ j, j < k → 128 ≤ zi L j) (h : zi L k < 128) : frm 5 L = some (L.take (k + 1)) := by
  rw [frm_skip k 5 L (by omega) (by omega) h3]
  obtain ⟨m, hm⟩ : ∃ m, 5 - k = m + 1 := ⟨4 - k, by omega⟩
  have hz : zi L k = L[k] := by
    unfold zi
    rw [List.getD_eq_getElem?_getD, List.getElem?_eq_getElem h2]; rfl
  rw [List.drop_eq_getElem_cons h2, hm, frm, if_pos (by rw [← hz]; exact h), Option.map_some, List.take_succ_eq_append_getElem h2]
theorem isF_take : ∀ (k : Nat) (L : List Int), k < L.length → By L → (∀ j, j < k → 128 ≤ zi L j) → zi L k < 128 → isF (L.take (k + 1))
  | _, [], h, _, _, _ => by simp at h
  | 0, d :: r, _, hb, _, h => by
    have := hb 0 (by simp)
    rw [zi_zero] at this h
    exact ⟨this.1, h⟩
  | k + 1, [d], h, _, _, _ => by simp at h
  | k + 1, d :: e :: r, h, hb, h3, h4 => by
    have ih := isF_take k (e :: r) (by simp at h ⊢; omega) (fun i hi => by have := hb (i + 1) (by simp at hi ⊢; omega); rwa [zi_cons] at this) (fun j hj => by have := h3 (j + 1) (by omega); rwa [zi_cons] at this) (by rwa [zi_cons] at h4)
    have hd := hb 0 (by simp)
    have hd' := h3 0 (by omega)
    rw [zi_zero] at hd hd'
    exact ⟨⟨hd', hd.2⟩, ih⟩
theorem val_take : ∀ (k : Nat) (L : List Int), k < L.length → val (L.take (k + 1)) = val (L.take k) + (zi L k % 128).toNat * 128 ^ k
  | _, [], h => by simp at h
  | 0, d :: r, _ => by simp [val, zi]
  | k + 1, d :: r, h => by
    have ih := val_take k r (by simp at h; omega)
    rw [List.take_succ_cons, List.take_succ_cons, val, val, ih, zi_cons, Nat.pow_succ, Nat.mul_add]
    have : 128 * ((zi r k % 128).toNat * 128 ^ k) = (zi r k % 128).toNat * (128 ^ k * 128) := by
      rw [Nat.mul_comm, Nat.mul_assoc]
    omega
theorem val_lt : ∀ (L : List Int), val L < 128 ^ L.length
  | [] => by simp [val]
  | d :: r => by
    have := val_lt r
    rw [val, List.length_cons, Nat.pow_succ]
    omega

/-- What GetNum answers: the number, and the place behind it. -/
def gnO (ys : List Int) (z : Int) : Option (Int × Int) :=
  if 0 ≤ z ∧ z < ys.length then
    match frm 5 (ys.drop z.toNat) with
    | none => none
    | some F => if puB (unf (val F)) = true ∧ okF F = true then some (unf (val F), z + F.length) else none
  else none
def gnV : Option (Int × Int) → Value
  | none => .tuple #[.int .i64 0, .int .i64 0, .bool false]
  | some (x, e) => .tuple #[.int .i64 x, .int .i64 e, .bool true]

theorem i64_orN (a b k : Nat) (ha : a < 2 ^ k) (hb : b * 2 ^ k + a < 9223372036854775808) : bits .or .i64 (a : Int) ((b * 2 ^ k : Nat) : Int) = ((a + b * 2 ^ k : Nat) : Int) := by
  have key : (BitVec.ofInt 64 (a : Int) ||| BitVec.ofInt 64 ((b * 2 ^ k : Nat) : Int)).toNat = a + b * 2 ^ k := by
    rw [BitVec.toNat_or, BitVec.toNat_ofInt, BitVec.toNat_ofInt]
    have e1 : ((a : Int) % ((2 ^ 64 : Nat) : Int)).toNat = a := by omega
    have e2 : (((b * 2 ^ k : Nat) : Int) % ((2 ^ 64 : Nat) : Int)).toNat = b * 2 ^ k := by omega
    rw [e1, e2, Nat.or_comm, Nat.mul_comm b, ← Nat.two_pow_add_eq_or_of_lt ha, Nat.add_comm]
  show IntKind.i64.wrap ((BitVec.ofInt 64 (a : Int) ||| BitVec.ofInt 64 ((b * 2 ^ k : Nat) : Int)).toNat : Nat) = _
  rw [key, IntKind.wrap_i64]
  omega

end Go.Proofs.Ytpgmgdoejmhamaa
