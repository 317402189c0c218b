/- Bytes that came in, as a list. -/
import Derived.Test.YtpgmgdoejmhamaaGnC
namespace Go.Proofs.Ytpgmgdoejmhamaa
open Go.ChangeShapes Go.WideShapes Go.ChangeAt Go.RowKit Go.Deep

/-- Bytes that came in: as many as an int can count, a list of bytes. -/
theorem open_byteS {H : Type} {enc : TypeId × Value → H} {w : World} {a0 : Option Addr} {len cap : Nat} {d : DataW H} {p : List MemPlace}
    (h : DataW.Trod enc Try.prog w 0 (fun _ => true) true 22 (.slice a0 len cap) d p) : len ≤ maxLen ∧ ∃ ys : List Int, ys.length = len ∧ SlB w a0 ys ∧ By ys := by
  obtain ⟨fuel, hf⟩ := h
  rcases open_ints Try.underlying22 Try.underlying5 (by kernel_rfl) hf with ⟨hcs, _⟩ | ⟨x, l, c, zs, hcs, _, hl, hm, hz, _, hcell, hwz⟩
  · simp [Value.cells] at hcs
    obtain ⟨_, rfl, _⟩ := hcs
    exact ⟨Nat.zero_le _, [], rfl, .inl rfl, fun i hi => by simp at hi⟩
  · simp [Value.cells] at hcs
    obtain ⟨rfl, rfl, rfl⟩ := hcs
    refine ⟨Nat.le_trans hl hm, ?_⟩
    have hz' : zs.length = cap := by simpa using hz
    have hl' : (zs.take len).length = len := by rw [List.length_take]; omega
    have hby : By (zs.take len) := fun j hj => by
      rw [hl'] at hj
      rw [zi_take _ _ _ hj]
      have hmem : zs.getD j 0 ∈ zs := by
        rw [List.getD_eq_getElem?_getD, List.getElem?_eq_getElem (by omega)]
        exact List.getElem_mem _
      exact bounds_u8 (hwz _ hmem)
    refine ⟨zs.take len, hl', ?_, hby⟩
    by_cases h0 : len = 0
    · left
      rw [h0, List.take_zero]
    right
    obtain ⟨b, off, rfl, hc⟩ := ints_at hcell (by omega)
    refine ⟨b, off, rfl, cell_lt (hc 0 (by omega)), fun j hj => ?_⟩
    rw [hl'] at hj
    rw [zi_take _ _ _ hj]
    exact hc j (by omega)
theorem OwnB.sl2 {w : World} {B n cap : Nat} {a0 : Option Addr} {xs : List Int} (h : OwnB w B (.slice a0 n cap) xs) : SlB w a0 xs := by
  obtain ⟨a1, c1, e, s⟩ := h.form
  simp only [Value.slice.injEq] at e
  obtain ⟨rfl, -, -⟩ := e
  exact s

end Go.Proofs.Ytpgmgdoejmhamaa
