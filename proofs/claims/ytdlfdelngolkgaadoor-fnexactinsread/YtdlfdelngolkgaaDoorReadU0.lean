/- Plain facts on how the model reads a line's words. -/
import Derived.Test.YtdlfdelngolkgaaDoorReadT
import Derived.Test.YtdlfdelngolkgaaDoorTextE
namespace Go.Proofs.YtdlfdelngolkgaaDoor
open Go.RowKit

theorem Strs.lies {w : World} {B : Nat} {v : Value} {ws : List ByteArray} (h : Strs w B v ws) (hp : 0 < ws.length) : ∃ g cap, v = .slice (some ⟨g, 0, none⟩) ws.length cap ∧ B ≤ g ∧ g < w.heap.size ∧ (∀ j (hj : j < ws.length), w.cell? ⟨g, j, none⟩ = some (.string ws[j])) := by
  rcases h.2 with ⟨_, h2⟩ | ⟨g, cap, cur, h1, hB, h3, _⟩
  · omega
  · refine ⟨g, cap, h1, hB, ?_, fun j hj => ?_⟩
    · rcases Nat.lt_or_ge g w.heap.size with hlt | hge
      · exact hlt
      · rw [Array.getElem?_eq_none hge] at h3
        cases h3
    · have h' : w.ownsRow B 9 1 (.slice (some ⟨g, 0, none⟩) ws.length cap) ws.length (ws.map Value.string) := by rw [← h1]; exact h
      rw [h'.cellAt j (by omega)]
      simp [hj]
theorem words_lie {w : World} {B : Nat} {v : Value} {s : ByteArray} (h : Strs w B v (splitW s)) : ∃ g cap, v = .slice (some ⟨g, 0, none⟩) (cnt s + 1) cap ∧ B ≤ g ∧ g < w.heap.size ∧ (∀ j, j < cnt s + 1 → w.cell? ⟨g, j, none⟩ = some (.string (wd s j))) := by
  have hl := splitW_len s
  obtain ⟨g, cap, h1, h2, h3, h4⟩ := h.lies (by omega)
  rw [hl] at h1
  refine ⟨g, cap, h1, h2, h3, fun j hj => ?_⟩
  rw [h4 j (by omega), wd, List.getD_eq_getElem?_getD, List.getElem?_eq_getElem (by omega)]
  rfl

theorem read_word {s : ByteArray} {y : J5} (h : ReadOf s y) : wd s 0 = wordT y.o.toNat ∧ 1 ≤ y.o ∧ y.o ≤ 11 := by
  obtain ⟨h1, h2, h3, _⟩ := read_words h
  rw [words_all, words_tail] at h1
  simp only [List.cons.injEq] at h1
  exact ⟨bytes_ext h1.1, h2, h3⟩

/-- The op that the model has found when it has gone through the words below k. -/
def OpTo (s : ByteArray) (k : Nat) (o : Int) : Prop := 0 ≤ o ∧ o ≤ 11 ∧ ∀ y, ReadOf s y → o = if y.o < k then y.o else 0
theorem OpTo.zero (s : ByteArray) : OpTo s 1 0 := ⟨by omega, by omega, fun y hy => by
  obtain ⟨_, h1, _⟩ := read_word hy
  rw [if_neg (by omega)]⟩
theorem OpTo.hit {s : ByteArray} {k : Nat} {o : Int} (_ : OpTo s k o) (h1 : 1 ≤ k) (h2 : k ≤ 11) (he : wordT k = wd s 0) : OpTo s (k + 1) k := ⟨by omega, by omega, fun y hy => by
  obtain ⟨e, a, b⟩ := read_word hy
  have h3 := opM_word k h1 h2
  have h4 := opM_word y.o.toNat (by omega) (by omega)
  rw [he, e, h4] at h3
  rw [if_pos (by omega)]
  omega⟩
theorem OpTo.miss {s : ByteArray} {k : Nat} {o : Int} (h : OpTo s k o) (he : ¬ wordT k = wd s 0) : OpTo s (k + 1) o := ⟨h.1, h.2.1, fun y hy => by
  obtain ⟨e, a, b⟩ := read_word hy
  have h3 := h.2.2 y hy
  have hk : ¬ y.o = (k : Int) := fun e2 => he (by rw [e, e2]; rfl)
  by_cases hlt : y.o < (k : Int)
  · rw [if_pos hlt] at h3
    rw [if_pos (by omega)]
    exact h3
  · rw [if_neg hlt] at h3
    rw [if_neg (by omega)]
    exact h3⟩
theorem OpTo.done {s : ByteArray} {o : Int} (h : OpTo s 12 o) {y : J5} (hy : ReadOf s y) : o = y.o := by
  obtain ⟨_, a, b⟩ := read_word hy
  rw [h.2.2 y hy, if_pos (by omega)]

/-- A word of a line that is y's text. -/
theorem read_arg {s : ByteArray} {y : J5} (h : ReadOf s y) {j : Nat} (hj : j < cnt s) : ∃ z, (args5 y)[j]? = some z ∧ Fit z ∧ (wd s (j + 1) = numT z ∨ (wd s (j + 1) = ⟨#[97, 110, 121]⟩ ∧ z = 9)) := by
  obtain ⟨_, _, _, e⟩ := read_parts h
  obtain ⟨_, _, _, hf, _, _⟩ := read_words h
  have hw : (argW y)[j]? = some (wd s (j + 1)).data.toList := by
    rw [← e, wordsTo]
    simp [hj]
  unfold argW at hw
  by_cases h7 : y.o = 7 ∧ y.n = 9
  · rw [if_pos h7] at hw
    have ea : args5 y = [y.r, 9] := by simp [args5, h7.1, h7.2]
    rw [ea] at hf ⊢
    match j, hw with
    | 0, hw =>
      simp at hw
      exact ⟨y.r, rfl, hf _ (by simp), .inl (bytes_ext (by rw [← hw, numT]))⟩
    | 1, hw =>
      simp at hw
      exact ⟨9, rfl, hf _ (by simp), .inr ⟨bytes_ext hw.symm, rfl⟩⟩
    | j + 2, hw => simp at hw
  · rw [if_neg h7, List.getElem?_map] at hw
    cases hz : (args5 y)[j]? with
    | none => rw [hz] at hw; cases hw
    | some z =>
      rw [hz] at hw
      simp at hw
      exact ⟨z, rfl, hf _ (List.mem_of_getElem? hz), .inl (bytes_ext (by rw [← hw, numT]))⟩
theorem read_len {s : ByteArray} {y : J5} (h : ReadOf s y) : (args5 y).length = cnt s ∧ cnt s ≤ 3 := by
  obtain ⟨_, _, _, e⟩ := read_parts h
  obtain ⟨_, _, _, hf, _, hl⟩ := read_words h
  have h1 : (argW y).length = (args5 y).length := by
    unfold argW
    split
    · rename_i h7
      simp [args5, h7.1]
    · simp
  have h2 := congrArg List.length e
  simp [wordsTo] at h2
  omega

/-- The numbers of the words below k. -/
def NsTo (s : ByteArray) (k : Nat) (ns : List Int) : Prop := ns.length + 1 = k ∧ ∀ y, ReadOf s y → ns = (args5 y).take (k - 1)
theorem NsTo.zero (s : ByteArray) : NsTo s 1 [] := ⟨rfl, fun _ _ => by simp⟩
theorem NsTo.step {s : ByteArray} {k : Nat} {ns : List Int} (h : NsTo s k ns) (v : Int) (hv : ∀ y, ReadOf s y → (args5 y)[k - 1]? = some v) : NsTo s (k + 1) (ns ++ [v]) := by
  refine ⟨by have := h.1; simp; omega, fun y hy => ?_⟩
  have hk := h.1
  rw [h.2 y hy, show k + 1 - 1 = (k - 1) + 1 by omega, List.take_add_one, hv y hy]
  rfl
theorem NsTo.done {s : ByteArray} {k : Nat} {ns : List Int} (h : NsTo s k ns) (hk : cnt s + 1 ≤ k ∨ 5 ≤ k) {y : J5} (hy : ReadOf s y) : ns = args5 y := by
  obtain ⟨h1, h2⟩ := read_len hy
  rw [h.2 y hy]
  exact List.take_of_length_le (by omega)
/-- What a word that is no any is read as. -/
theorem num_hit {s : ByteArray} {k : Nat} {x : Int} {ok : Bool} (h1 : 1 ≤ k) (hk : k < cnt s + 1) (hn : ∀ n, Fit n → wd s k = numT n → x = n ∧ ok = true) (ha : ¬ wd s k = ⟨#[97, 110, 121]⟩) {y : J5} (hy : ReadOf s y) : (args5 y)[k - 1]? = some x ∧ ok = true := by
  obtain ⟨z, hz, fz, hw⟩ := read_arg hy (j := k - 1) (by omega)
  rw [show k - 1 + 1 = k by omega] at hw
  rcases hw with hw | ⟨hw, _⟩
  · obtain ⟨e1, e2⟩ := hn z fz hw
    exact ⟨by rw [hz, e1], e2⟩
  · exact absurd hw ha
theorem any_hit {s : ByteArray} {k : Nat} (h1 : 1 ≤ k) (hk : k < cnt s + 1) (ha : wd s k = ⟨#[97, 110, 121]⟩) {y : J5} (hy : ReadOf s y) : (args5 y)[k - 1]? = some 9 := by
  obtain ⟨z, hz, fz, hw⟩ := read_arg hy (j := k - 1) (by omega)
  rw [show k - 1 + 1 = k by omega] at hw
  rcases hw with hw | ⟨_, rfl⟩
  · exfalso
    rw [ha] at hw
    have := congrArg (fun b : ByteArray => b.data.toList) hw
    exact itoa_notAny z (by simpa [numT] using this.symm)
  · exact hz

/-- The place that the model makes of an op and numbers. -/
def insS (o m0 m1 m2 : Int) : J5 :=
  if o = 1 ∨ o = 7 then ⟨o, m0, 0, 0, m1⟩
  else if o = 2 ∨ o = 3 ∨ o = 4 ∨ o = 5 then ⟨o, m0, m1, m2, 0⟩
  else if o = 6 then ⟨o, 0, m1, 0, m0⟩
  else if o = 8 then ⟨o, 0, m0, 0, 0⟩
  else if o = 9 then ⟨o, 0, 0, 0, m0⟩
  else if o = 10 then ⟨o, 0, m0, 0, m1⟩
  else ⟨o, 0, 0, 0, 0⟩
theorem insS_read {s : ByteArray} {y : J5} (h : ReadOf s y) : insS y.o ((args5 y ++ [0, 0, 0]).getD 0 0) ((args5 y ++ [0, 0, 0]).getD 1 0) ((args5 y ++ [0, 0, 0]).getD 2 0) = y := by
  obtain ⟨_, h1, h2, _, hi, _⟩ := read_words h
  obtain ⟨o, r, a, b, n⟩ := y
  simp only at h1 h2
  have ho : o = 1 ∨ o = 2 ∨ o = 3 ∨ o = 4 ∨ o = 5 ∨ o = 6 ∨ o = 7 ∨ o = 8 ∨ o = 9 ∨ o = 10 ∨ o = 11 := by omega
  rcases ho with rfl | rfl | rfl | rfl | rfl | rfl | rfl | rfl | rfl | rfl | rfl <;> simpa [insM, args5, insS] using hi

end Go.Proofs.YtdlfdelngolkgaaDoor
