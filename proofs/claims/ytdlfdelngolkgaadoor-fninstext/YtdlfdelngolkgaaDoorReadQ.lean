/- Plain facts: the words of a line, and how a line that is some place's text is read from them. -/
import Derived.Test.YtdlfdelngolkgaaDoorReadX
import Derived.Lib.SplitLaws
namespace Go.Proofs.YtdlfdelngolkgaaDoor
open Go.RowKit

/-- How InsRead ends: the place of which the line is the text, or none is. -/
def ReadR (s : ByteArray) (e : Ending) : Prop := ∃ (t : Bool) (x : J5), e = .returned (.tuple #[insV5 x, .bool t]) ∧ (t = true → ReadOf s x) ∧ (t = false → x = zero5 ∧ ∀ y, ¬ ReadOf s y)

def splitW (s : ByteArray) : List ByteArray := Lib.splitB blankB 0 (Lib.countB s blankB) s
def wd (s : ByteArray) (j : Nat) : ByteArray := (splitW s).getD j ⟨#[]⟩
def cnt (s : ByteArray) : Nat := Lib.countB s blankB

theorem splitW_len (s : ByteArray) : (splitW s).length = cnt s + 1 := Lib.splitB_all blankB (by decide) 0 _ s rfl
theorem cnt_le (s : ByteArray) : cnt s ≤ s.size := Lib.countB_le blankB (by decide) _ s (Nat.le_refl _)
theorem splitW_words (s : ByteArray) : (splitW s).map (·.data.toList) = wordsOf s.data.toList := split_words _ s (Nat.le_refl _)
theorem splitW_wd (s : ByteArray) : splitW s = (List.range (cnt s + 1)).map (wd s) := by
  apply List.ext_getElem
  · simp [splitW_len]
  · intro i h1 h2
    simp [wd, h1]
theorem words_all (s : ByteArray) : wordsOf s.data.toList = wordsTo (wd s) (cnt s + 1) := by
  rw [← splitW_words, splitW_wd, wordsTo, List.map_map]
  rfl
theorem words_tail (s : ByteArray) : wordsTo (wd s) (cnt s + 1) = (wd s 0).data.toList :: wordsTo (fun j => wd s (j + 1)) (cnt s) := by
  rw [wordsTo, wordsTo, List.range_succ_eq_map]
  simp [List.map_map, Function.comp_def]
theorem wordsOf_le : ∀ (l : List UInt8), ∀ x ∈ wordsOf l, x.length ≤ l.length
  | [], x, h => by
    simp [wordsOf] at h
    simp [h]
  | c :: r, x, h => by
    have ih := wordsOf_le r
    rw [wordsOf] at h
    by_cases hc : c = 32
    · rw [if_pos hc] at h
      rcases List.mem_cons.1 h with rfl | h
      · simp
      · have := ih x h
        simp
        omega
    · rw [if_neg hc] at h
      cases hw : wordsOf r with
      | nil =>
        rw [hw] at h
        simp at h
        simp [h]
      | cons y ys =>
        rw [hw] at h ih
        rcases List.mem_cons.1 h with rfl | h
        · have := ih y (by simp)
          simp
          omega
        · have := ih x (by simp [h])
          simp
          omega
theorem wd_size (s : ByteArray) (j : Nat) (h : j < cnt s + 1) : (wd s j).size ≤ s.size := by
  have hm : (wd s j).data.toList ∈ wordsOf s.data.toList := by
    rw [words_all]
    exact List.mem_map.2 ⟨j, List.mem_range.2 h, rfl⟩
  have := wordsOf_le _ _ hm
  rw [← Lib.size_eq, ← Lib.size_eq] at this
  exact this

/-- A line that is y's text: what its words are read as. -/
theorem read_parts {s : ByteArray} {y : J5} (h : ReadOf s y) : (wordsTo (fun j => wd s (j + 1)) (cnt s)).mapM numM = some (args5 y) ∧ insM (opM (wd s 0).data.toList) (args5 y) = y ∧ (opM (wd s 0).data.toList : Int) = y.o ∧ wordsTo (fun j => wd s (j + 1)) (cnt s) = argW y := by
  obtain ⟨h1, h2, h3, h4, h5, _⟩ := read_words h
  rw [words_all, words_tail] at h1
  simp only [List.cons.injEq] at h1
  obtain ⟨e1, e2⟩ := h1
  have ho : (opM (wd s 0).data.toList : Int) = y.o := by
    rw [e1, opM_word _ (by omega) (by omega)]
    omega
  refine ⟨by rw [e2]; exact argW_nums h4, by rw [ho]; exact h5, ho, e2⟩

end Go.Proofs.YtdlfdelngolkgaaDoor
