/- Which place a line is the text of: at most one, and it is what its words are read as. -/
import Derived.Test.YtdlfdelngolkgaaDoorReadN
namespace Go.Proofs.YtdlfdelngolkgaaDoor
open Go.Lib

structure J5 where
  o : Int
  r : Int
  a : Int
  b : Int
  n : Int

def zero5 : J5 := ⟨0, 0, 0, 0, 0⟩
def text5 (x : J5) : ByteArray := insTextB x.o x.r x.a x.b x.n

/-- The line is not empty, and the text of x. -/
def ReadOf (s : ByteArray) (x : J5) : Prop := s.data.toList ≠ [] ∧ text5 x = s

/-- The op of a word; 0: it is none. -/
def opM (l : List UInt8) : Nat := ((List.range 12).find? fun i => decide (i ≠ 0 ∧ (wordT i).data.toList = l)).getD 0

def insM (op : Int) (ns : List Int) : J5 :=
  if ns.length = 2 ∧ (op = 1 ∨ op = 7) then ⟨op, ns.getD 0 0, 0, 0, ns.getD 1 0⟩
  else if ns.length = 3 ∧ (op = 2 ∨ op = 3 ∨ op = 4 ∨ op = 5) then ⟨op, ns.getD 0 0, ns.getD 1 0, ns.getD 2 0, 0⟩
  else if ns.length = 2 ∧ op = 6 then ⟨op, 0, ns.getD 1 0, 0, ns.getD 0 0⟩
  else if ns.length = 1 ∧ op = 8 then ⟨op, 0, ns.getD 0 0, 0, 0⟩
  else if ns.length = 1 ∧ op = 9 then ⟨op, 0, 0, 0, ns.getD 0 0⟩
  else if ns.length = 2 ∧ op = 10 then ⟨op, 0, ns.getD 0 0, 0, ns.getD 1 0⟩
  else if ns.length = 0 ∧ op = 11 then ⟨op, 0, 0, 0, 0⟩
  else zero5

/-- The numbers of a place, as its line has them. -/
def args5 (x : J5) : List Int :=
  if x.o = 1 ∨ x.o = 7 then [x.r, x.n]
  else if x.o = 6 then [x.n, x.a]
  else if x.o = 8 then [x.a]
  else if x.o = 9 then [x.n]
  else if x.o = 10 then [x.a, x.n]
  else if x.o = 11 then []
  else [x.r, x.a, x.b]
/-- The words of its numbers. -/
def argW (x : J5) : List (List UInt8) := if x.o = 7 ∧ x.n = 9 then [itoa x.r, [97, 110, 121]] else (args5 x).map itoa

theorem opM_word (op : Nat) (h1 : 1 ≤ op) (h2 : op ≤ 11) : opM (wordT op).data.toList = op := by
  match op, h1, h2 with
  | 1, _, _ => decide
  | 2, _, _ => decide
  | 3, _, _ => decide
  | 4, _, _ => decide
  | 5, _, _ => decide
  | 6, _, _ => decide
  | 7, _, _ => decide
  | 8, _, _ => decide
  | 9, _, _ => decide
  | 10, _, _ => decide
  | 11, _, _ => decide

theorem read_ok {s : ByteArray} {x : J5} (h : ReadOf s x) : insOkB x.o x.r x.a x.b x.n 30 4 = true ∧ s = textT x.o x.r x.a x.b x.n := by
  obtain ⟨h1, h2⟩ := h
  rcases Bool.eq_false_or_eq_true (insOkB x.o x.r x.a x.b x.n 30 4) with hk | hk
  · refine ⟨hk, ?_⟩
    rw [← h2, text5, insTextB, if_pos hk]
  · exfalso
    apply h1
    rw [← h2, text5, insTextB, if_neg (by rw [hk]; decide)]

/-- The words of a line that is the text of x; all its numbers are in range. -/
theorem read_words {s : ByteArray} {x : J5} (h : ReadOf s x) : wordsOf s.data.toList = (wordT x.o.toNat).data.toList :: argW x ∧ 1 ≤ x.o ∧ x.o ≤ 11 ∧ (∀ z ∈ args5 x, Fit z) ∧ insM x.o (args5 x) = x ∧ (args5 x).length ≤ 3 := by
  obtain ⟨hk, rfl⟩ := read_ok h
  obtain ⟨fr, fa, fb, fn, o1, o2⟩ := ok_fit hk
  clear h
  obtain ⟨o, r, a, b, n⟩ := x
  simp only at hk fr fa fb fn o1 o2 ⊢
  simp only [insOkB, Bool.and_eq_true] at hk
  obtain ⟨_, hk⟩ := hk
  rcases opCases o with g | rfl | rfl | rfl | rfl | rfl | rfl | rfl | rfl | rfl | rfl | rfl
  · omega
  case inr.inr.inr.inr.inr.inr.inr.inl =>
    simp [opOkB] at hk
    by_cases h9 : n = 9
    · subst h9
      have e : textT 7 r a b 9 = lineTo 7 (nums [r]) 1 ++ ⟨#[32]⟩ ++ ⟨#[97, 110, 121]⟩ := rfl
      have ed : (lineTo 7 (nums [r]) 1 ++ (⟨#[32]⟩ : ByteArray) ++ ⟨#[97, 110, 121]⟩).data.toList = (lineTo 7 (nums [r]) 1).data.toList ++ 32 :: [97, 110, 121] := by simp
      refine ⟨?_, by omega, by omega, ?_, ?_, by simp [args5]⟩
      · rw [e, ed, words_snoc _ _ (by decide), words_line 7 _ (by omega)]
        simp [argW, nums]
      · simp only [args5]
        intro z hz
        simp at hz
        rcases hz with rfl | rfl
        · exact fr
        · exact fn
      · simp [insM, args5]
        omega
    · have e : textT 7 r a b n = lineTo 7 (nums [r, n]) 2 := by simp [textT, h9]
      refine ⟨?_, by omega, by omega, ?_, ?_, by simp [args5]⟩
      · rw [e, words_line 7 _ (by omega)]
        simp [argW, args5, nums, h9, List.range_succ]
      · simp only [args5]
        intro z hz
        simp at hz
        rcases hz with rfl | rfl
        · exact fr
        · exact fn
      · simp [insM, args5]
        omega
  all_goals
    simp [opOkB] at hk
    refine ⟨?_, by omega, by omega, ?_, ?_, by simp [args5]⟩
    · simp only [textT]
      first
        | (simp only [if_true]; rw [words_line _ _ (by omega)]; simp [argW, args5, nums, List.range_succ])
        | (simp; rw [words_line _ _ (by omega)]; simp [argW, args5, nums, List.range_succ])
    · intro z hz
      simp [args5] at hz <;> first | (rcases hz with rfl | rfl | rfl <;> assumption) | (rcases hz with rfl | rfl <;> assumption) | (subst hz; assumption)
    · simp [insM, args5]
      omega

theorem mapM_itoa : ∀ (l : List Int), (∀ z ∈ l, Fit z) → (l.map itoa).mapM numM = some l
  | [], _ => rfl
  | z :: l, h => by
    rw [List.map_cons, List.mapM_cons, numM_itoa z (h z (by simp)), mapM_itoa l (fun y hy => h y (by simp [hy]))]
    rfl

/-- Its words are read as its numbers. -/
theorem argW_nums {x : J5} (h : ∀ z ∈ args5 x, Fit z) : (argW x).mapM numM = some (args5 x) := by
  unfold argW
  by_cases h7 : x.o = 7 ∧ x.n = 9
  · rw [if_pos h7]
    have e : args5 x = [x.r, 9] := by simp [args5, h7.1, h7.2]
    rw [e] at h ⊢
    rw [List.mapM_cons, numM_itoa x.r (h x.r (by simp)), List.mapM_cons, numM_any]
    rfl
  · rw [if_neg h7]
    exact mapM_itoa _ h

/-- At most one place has the line. -/
theorem read_one {s : ByteArray} {x y : J5} (hx : ReadOf s x) (hy : ReadOf s y) : x = y := by
  obtain ⟨w1, a1, b1, f1, i1, _⟩ := read_words hx
  obtain ⟨w2, a2, b2, f2, i2, _⟩ := read_words hy
  rw [w1] at w2
  simp only [List.cons.injEq] at w2
  obtain ⟨e1, e2⟩ := w2
  have ho : x.o = y.o := by
    have h1 := opM_word x.o.toNat (by omega) (by omega)
    have h2 := opM_word y.o.toNat (by omega) (by omega)
    rw [e1, h2] at h1
    omega
  have hn : args5 x = args5 y := by
    have h1 := argW_nums f1
    rw [e2, argW_nums f2] at h1
    exact (Option.some.inj h1).symm
  rw [← i1, ← i2, ho, hn]

end Go.Proofs.YtdlfdelngolkgaaDoor
