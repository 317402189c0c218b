/- Plain facts on lines: the digits of a number are read as that number; the words of a place's line. -/
import Derived.Test.YtdlfdelngolkgaaDoorReadM
import Derived.Test.YtdlfdelngolkgaaDoorTextD
namespace Go.Proofs.YtdlfdelngolkgaaDoor
open Go.Lib

theorem decFrom_snoc (b : UInt8) (d : Nat) (hb : digitVal b = some d) : ∀ (l : List UInt8) (acc n : Nat), decFrom acc l = some n → decFrom acc (l ++ [b]) = some (n * 10 + d)
  | [], acc, n, h => by
    simp only [decFrom, Option.some.injEq] at h
    subst h
    simp [decFrom, hb]
  | c :: l, acc, n, h => by
    rw [List.cons_append, decFrom]
    rw [decFrom] at h
    cases hc : digitVal c with
    | none => rw [hc] at h; cases h
    | some e =>
      rw [hc] at h
      exact decFrom_snoc b d hb l _ n h
theorem digit_val (k : Nat) (h : k < 10) : digitVal (UInt8.ofNat (48 + k)) = some k := by
  have e : (UInt8.ofNat (48 + k)).toNat = 48 + k := by simp; omega
  rw [digitVal, e, if_pos (by omega)]
  simp
theorem dec_digits : ∀ (n u : Nat), u ≤ n → decFrom 0 (decDigits u) = some u := by
  intro n
  induction n with
  | zero =>
    intro u hu
    obtain rfl : u = 0 := by omega
    rw [decDigits_one (by omega)]
    rfl
  | succ n ih =>
    intro u hu
    by_cases h : u < 10
    · rw [decDigits_one h]
      simp only [decFrom]
      rw [digit_val u h]
      simp
    · rw [dd_big h, decFrom_snoc _ (u % 10) (digit_val _ (by omega)) _ _ (u / 10) (ih (u / 10) (by omega))]
      congr 1
      omega
theorem digits_bytes : ∀ (n u : Nat), u ≤ n → ∀ b ∈ decDigits u, 48 ≤ b.toNat ∧ b.toNat ≤ 57 := by
  intro n
  induction n with
  | zero =>
    intro u hu b hb
    obtain rfl : u = 0 := by omega
    rw [decDigits_one (by omega), List.mem_singleton] at hb
    subst hb
    decide
  | succ n ih =>
    intro u hu b hb
    have one : ∀ k, k < 10 → 48 ≤ (UInt8.ofNat (48 + k)).toNat ∧ (UInt8.ofNat (48 + k)).toNat ≤ 57 := by
      intro k hk
      have e : (UInt8.ofNat (48 + k)).toNat = 48 + k := by simp; omega
      omega
    by_cases h : u < 10
    · rw [decDigits_one h, List.mem_singleton] at hb
      subst hb
      exact one u h
    · rw [dd_big h, List.mem_append, List.mem_singleton] at hb
      rcases hb with hb | rfl
      · exact ih (u / 10) (by omega) b hb
      · exact one _ (by omega)
theorem digits_ne (u : Nat) : decDigits u ≠ [] := by
  by_cases h : u < 10
  · rw [decDigits_one h]; simp
  · rw [dd_big h]; simp
theorem digits_len : ∀ (k u : Nat), u < 10 ^ (k + 1) → (decDigits u).length ≤ k + 1 := by
  intro k
  induction k with
  | zero =>
    intro u hu
    rw [decDigits_one (by omega)]
    simp
  | succ k ih =>
    intro u hu
    by_cases h : u < 10
    · rw [decDigits_one h]; simp
    · rw [dd_big h, List.length_append, List.length_singleton]
      have := ih (u / 10) (by rw [Nat.pow_succ] at hu; omega)
      omega

theorem itoa_bytes (n : Int) : ∀ b ∈ itoa n, b.toNat = 45 ∨ (48 ≤ b.toNat ∧ b.toNat ≤ 57) := by
  intro b hb
  unfold itoa at hb
  split at hb
  · rcases List.mem_cons.1 hb with rfl | hb
    · exact .inl rfl
    · exact .inr (digits_bytes _ _ (Nat.le_refl _) b hb)
  · exact .inr (digits_bytes _ _ (Nat.le_refl _) b hb)
theorem itoa_noBlank (n : Int) : (32 : UInt8) ∉ itoa n := by
  intro h
  have := itoa_bytes n 32 h
  have e : (32 : UInt8).toNat = 32 := rfl
  omega
theorem itoa_notAny (n : Int) : itoa n ≠ [97, 110, 121] := by
  intro h
  have := itoa_bytes n 97 (by rw [h]; simp)
  have e : (97 : UInt8).toNat = 97 := rfl
  omega

theorem atoi_itoa (n : Int) : atoi (itoa n) = some n := by
  unfold itoa
  split
  · rename_i hn
    have hd : decNat (decDigits n.natAbs) = some n.natAbs := by
      rw [decNat, if_neg (by simp [digits_ne]), dec_digits _ _ (Nat.le_refl _)]
    rw [atoi, if_pos (by decide), hd]
    simp only [Option.map_some, Option.some.injEq]
    omega
  · rename_i hn
    have hd : decNat (decDigits n.toNat) = some n.toNat := by
      rw [decNat, if_neg (by simp [digits_ne]), dec_digits _ _ (Nat.le_refl _)]
    cases hl : decDigits n.toNat with
    | nil => exact absurd hl (digits_ne _)
    | cons b r =>
      have hb := digits_bytes _ n.toNat (Nat.le_refl _) b (by rw [hl]; simp)
      rw [hl] at hd
      have h45 : (b == 45) = false := by
        simp only [beq_eq_false_iff_ne, ne_eq]
        rintro rfl
        have e : (45 : UInt8).toNat = 45 := rfl
        omega
      have h43 : (b == 43) = false := by
        simp only [beq_eq_false_iff_ne, ne_eq]
        rintro rfl
        have e : (43 : UInt8).toNat = 43 := rfl
        omega
      rw [atoi, h45, h43]
      simp only [Bool.false_eq_true, if_false]
      rw [hd]
      simp only [Option.map_some, Option.some.injEq]
      omega
theorem atoiAll_itoa (n : Int) (h1 : -1000000000 ≤ n) (h2 : n ≤ 1000000000) : atoiAll (itoa n) = .ok n := by
  have hl : (itoa n).length ≤ 18 := by
    unfold itoa
    split
    · have := digits_len 10 n.natAbs (by omega)
      rw [List.length_cons]
      omega
    · have := digits_len 10 n.toNat (by omega)
      omega
  rw [atoiAll_short _ hl, atoi_itoa]
  rfl

/-- What a word is read as by the program. -/
def numM (l : List UInt8) : Option Int := if l = [97, 110, 121] then some 9 else
  match atoiAll l with
  | .ok v => some v
  | _ => none
theorem numM_itoa (n : Int) (h : Fit n) : numM (itoa n) = some n := by
  rw [numM, if_neg (itoa_notAny n), atoiAll_itoa n h.1 h.2]
theorem numM_any : numM [97, 110, 121] = some 9 := by rw [numM, if_pos rfl]

theorem words_snoc : ∀ (s t : List UInt8), (32 : UInt8) ∉ t → wordsOf (s ++ 32 :: t) = wordsOf s ++ [t]
  | [], t, h => by simp [wordsOf, wordsOf_plain t h]
  | c :: s, t, h => by
    have ih := words_snoc s t h
    rw [List.cons_append, wordsOf, wordsOf]
    by_cases hc : c = 32
    · rw [if_pos hc, if_pos hc, ih]; rfl
    · rw [if_neg hc, if_neg hc, ih]
      cases hw : wordsOf s with
      | nil => 
        exfalso
        cases s with
        | nil => cases hw
        | cons d s =>
          rw [wordsOf] at hw
          split at hw
          · cases hw
          · split at hw <;> cases hw
      | cons x xs => rfl

theorem word_noBlank (op : Nat) (h : op < 12) : (32 : UInt8) ∉ (wordT op).data.toList := by
  match op, h with
  | 0, _ => decide
  | 1, _ => decide
  | 2, _ => decide
  | 3, _ => decide
  | 4, _ => decide
  | 5, _ => decide
  | 6, _ => decide
  | 7, _ => decide
  | 8, _ => decide
  | 9, _ => decide
  | 10, _ => decide
  | 11, _ => decide
theorem line_data (op : Nat) (z : Nat → Int) (k : Nat) : (lineTo op z (k + 1)).data.toList = (lineTo op z k).data.toList ++ 32 :: itoa (z k) := by
  simp [lineTo, numT]
theorem words_line (op : Nat) (z : Nat → Int) (h : op < 12) : ∀ k, wordsOf (lineTo op z k).data.toList = (wordT op).data.toList :: (List.range k).map fun j => itoa (z j)
  | 0 => by rw [lineTo, wordsOf_plain _ (word_noBlank op h)]; rfl
  | k + 1 => by
    rw [line_data, words_snoc _ _ (itoa_noBlank _), words_line op z h k, List.range_succ, List.map_append]
    rfl

end Go.Proofs.YtdlfdelngolkgaaDoor
