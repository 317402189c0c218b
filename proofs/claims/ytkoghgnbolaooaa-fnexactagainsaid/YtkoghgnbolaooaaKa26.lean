/- Lists of states that came in. -/
import Derived.Test.YtkoghgnbolaooaaKa24
namespace Go.Proofs.Ytkoghgnbolaooaa
open Go.ChangeShapes Go.WideShapes Go.ChangeAt Go.RowKit Go.Deep
/-- Between the rounds of marking states. -/
structure MkS (w wr : World) (D j : Nat) (vs : Nat → Value) : Prop where
  tch : Touch (fun b => b = D ∨ ∃ t, t < j ∧ hasBlock (vs t) b) w wr
  cel : ∀ i, j * 4 ≤ i → wr.cell? ⟨D, i, none⟩ = w.cell? ⟨D, i, none⟩
  fr : ∀ i, wr.frozen? ⟨D, i, none⟩ = false

end Go.Proofs.Ytkoghgnbolaooaa

namespace Go.Proofs.Ytkoghgnbolaooaa
open Go.ChangeShapes Go.WideShapes Go.ChangeAt Go.RowKit Go.Deep

set_option maxRecDepth 100000 in
theorem open_stateCells {H : Type} {enc : TypeId × Value → H} {w : World} {base fuel : Nat} {held : Bool} {c0 c1 c2 c3 : Value} {x : DataW H × List MemPlace}
    (hf' : DataW.trod enc Try.prog w base (fun _ => true) held fuel 44 [c0, c1, c2, c3] = some x) :
    ∃ q : St8, (c0 = .int .i64 q.p ∧ c1 = .slice q.ra q.rs.length q.rc ∧ c2 = .slice q.oa q.os.length q.oc ∧ c3 = .int .i64 q.c) ∧ (q.rs.length ≤ maxLen ∧ q.os.length ≤ maxLen) ∧ Sl w q.ra q.rs ∧ Sl w q.oa q.os := by
  obtain ⟨xs, m, -, -, -, hl, hx⟩ := DataW.trod_struct Try.underlying44 hf'
  have hl : xs.length = 4 := hl
  have q0 : DataW.trod enc Try.prog w base (fun _ => true) held m 3 [c0] = xs[0]? := by simpa [cellsInt] using hx 0 _ rfl
  have q1 : DataW.trod enc Try.prog w base (fun _ => true) held m 42 [c1] = xs[1]? := by simpa [cellsInts] using hx 1 _ rfl
  have q2 : DataW.trod enc Try.prog w base (fun _ => true) held m 42 [c2] = xs[2]? := by simpa [cellsInts] using hx 2 _ rfl
  have q3 : DataW.trod enc Try.prog w base (fun _ => true) held m 3 [c3] = xs[3]? := by simpa [cellsInt] using hx 3 _ rfl
  rw [List.getElem?_eq_getElem (by omega)] at q0 q1 q2 q3
  obtain ⟨z0, e0, -, -⟩ := DataW.trod_int Try.underlying3 q0
  obtain ⟨z3, e3, -, -⟩ := DataW.trod_int Try.underlying3 q3
  obtain ⟨ra, rc, rs, rfl, hr, h1⟩ := open_intRow q1
  obtain ⟨oa, oc, os, rfl, ho, h2⟩ := open_intRow q2
  simp only [List.cons.injEq, and_true] at e0 e3
  subst e0 e3
  exact ⟨⟨z0, ra, rc, rs, oa, oc, os, z3⟩, ⟨rfl, rfl, rfl, rfl⟩, ⟨hr, ho⟩, h1, h2⟩

end Go.Proofs.Ytkoghgnbolaooaa
