/- Plain facts on lines: how they part at blanks, and that the digits of a number are read as that number. -/
import Derived.Lib.ItoaMem
import Derived.Lib.ItoaLen
import Derived.Lib.AtoiTie
import Derived.Lib.SplitLaws
import Derived.Lib.IndexBytes
import Derived.Test.YtdlfdelngolkgaaDoorTextA
namespace Go.Proofs.YtdlfdelngolkgaaDoor
open Go.Lib

/-- A line's words: what lies between its blanks. -/
def wordsOf : List UInt8 → List (List UInt8)
  | [] => [[]]
  | c :: r => if c = 32 then [] :: wordsOf r else
    match wordsOf r with
    | [] => [[c]]
    | x :: xs => (c :: x) :: xs

theorem wordsOf_plain : ∀ (l : List UInt8), (32 : UInt8) ∉ l → wordsOf l = [l]
  | [], _ => rfl
  | c :: r, h => by
    simp only [List.mem_cons, not_or] at h
    rw [wordsOf, if_neg (fun e => h.1 e.symm), wordsOf_plain r h.2]
theorem wordsOf_cut : ∀ (l r : List UInt8), (32 : UInt8) ∉ l → wordsOf (l ++ 32 :: r) = l :: wordsOf r
  | [], r, _ => by simp [wordsOf]
  | c :: l, r, h => by
    simp only [List.mem_cons, not_or] at h
    rw [List.cons_append, wordsOf, if_neg (fun e => h.1 e.symm), wordsOf_cut l r h.2]

theorem index_plain : ∀ (l : List UInt8), (32 : UInt8) ∉ l → Lib.indexByte l 32 = -1
  | [], _ => rfl
  | c :: r, h => by
    simp only [List.mem_cons, not_or] at h
    rw [Lib.indexByte, if_neg (by simpa using fun e => h.1 e.symm), index_plain r h.2]
    rfl
theorem index_cut : ∀ (l r : List UInt8), (32 : UInt8) ∉ l → Lib.indexByte (l ++ 32 :: r) 32 = l.length
  | [], r, _ => by simp [Lib.indexByte]
  | c :: l, r, h => by
    simp only [List.mem_cons, not_or] at h
    rw [List.cons_append, Lib.indexByte, if_neg (by simpa using fun e => h.1 e.symm), index_cut l r h.2]
    rw [if_neg (by simp)]
    simp

/-- Where a line has its first blank. -/
theorem blank_cases (l : List UInt8) : (32 : UInt8) ∉ l ∨ ∃ a r, l = a ++ 32 :: r ∧ (32 : UInt8) ∉ a := by
  induction l with
  | nil => exact .inl (by simp)
  | cons c l ih =>
    by_cases hc : c = 32
    · exact .inr ⟨[], l, by simp [hc], by simp⟩
    · rcases ih with h | ⟨a, r, rfl, ha⟩
      · exact .inl (by simp only [List.mem_cons, not_or]; exact ⟨fun e => hc e.symm, h⟩)
      · exact .inr ⟨c :: a, r, rfl, by simp only [List.mem_cons, not_or]; exact ⟨fun e => hc e.symm, ha⟩⟩

abbrev blankB : ByteArray := ⟨#[32]⟩

theorem indexB_blank (s : ByteArray) : Lib.indexB s blankB = Lib.indexByte s.data.toList 32 := Lib.index_one _ _

/-- The library's Split parts a line as wordsOf does. -/
theorem split_words : ∀ (n : Nat) (s : ByteArray), s.size ≤ n → (Lib.splitB blankB 0 (Lib.countB s blankB) s).map (·.data.toList) = wordsOf s.data.toList := by
  intro n
  induction n with
  | zero =>
    intro s hs
    have he : s.data.toList = [] := List.eq_nil_of_length_eq_zero (by have := Lib.size_eq s; omega)
    have hm : Lib.indexB s blankB = -1 := by rw [indexB_blank, he]; rfl
    rw [Lib.countB_miss s blankB hm, Lib.splitB_zero, he]
    simp [he, wordsOf]
  | succ n ih =>
    intro s hs
    rcases blank_cases s.data.toList with h | ⟨a, r, e, ha⟩
    · have hm : Lib.indexB s blankB = -1 := by rw [indexB_blank]; exact index_plain _ h
      rw [Lib.countB_miss s blankB hm, Lib.splitB_zero, wordsOf_plain _ h]
      simp
    · have hi : Lib.indexB s blankB = (a.length : Nat) := by rw [indexB_blank, e]; exact index_cut a r ha
      have hl : s.size = a.length + 1 + r.length := by
        have h1 := congrArg List.length e
        have h2 := Lib.size_eq s
        rw [List.length_append, List.length_cons] at h1
        omega
      rw [Lib.countB_hit s blankB a.length (by decide) hi, Nat.add_comm 1, Lib.splitB_hit blankB 0 _ s a.length hi, e, wordsOf_cut a r ha]
      have e1 : (s.extract 0 (a.length + 0)).data.toList = a := by
        rw [Lib.extract_data, e]
        simp
      have e2 : (s.extract (a.length + blankB.size) s.size).data.toList = r := by
        rw [Lib.extract_data, e]
        have hb : blankB.size = 1 := rfl
        rw [hb, hl]
        simp
      have hs2 : (s.extract (a.length + blankB.size) s.size).size ≤ n := by
        have h1 := congrArg List.length e2
        have h2 := Lib.size_eq (s.extract (a.length + blankB.size) s.size)
        omega
      rw [List.map_cons, e1, ih _ hs2, e2]

end Go.Proofs.YtdlfdelngolkgaaDoor
