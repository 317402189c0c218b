/- Lists of states that came in. -/
import Derived.Test.YtfbjeabpibnacaaSsS3
namespace Go.Proofs.Ytfbjeabpibnacaa
open Go.ChangeShapes Go.WideShapes Go.ChangeAt Go.RowKit Go.Deep

set_option maxRecDepth 100000 in
theorem open_stateCells {H : Type} {enc : TypeId × Value → H} {w : World} {base fuel : Nat} {held : Bool} {c0 c1 c2 c3 : Value} {x : DataW H × List MemPlace}
    (hf' : DataW.trod enc Try.prog w base (fun _ => true) held fuel 67 [c0, c1, c2, c3] = some x) :
    ∃ q : St8, (c0 = .int .i64 q.p ∧ c1 = .slice q.ra q.rs.length q.rc ∧ c2 = .slice q.oa q.os.length q.oc ∧ c3 = .int .i64 q.c) ∧ (q.rs.length ≤ maxLen ∧ q.os.length ≤ maxLen) ∧ Sl w q.ra q.rs ∧ Sl w q.oa q.os := by
  obtain ⟨xs, m, -, -, -, hl, hx⟩ := DataW.trod_struct Try.underlying67 hf'
  have hl : xs.length = 4 := hl
  have q0 : DataW.trod enc Try.prog w base (fun _ => true) held m 3 [c0] = xs[0]? := by simpa [cellsInt] using hx 0 _ rfl
  have q1 : DataW.trod enc Try.prog w base (fun _ => true) held m 29 [c1] = xs[1]? := by simpa [cellsInts] using hx 1 _ rfl
  have q2 : DataW.trod enc Try.prog w base (fun _ => true) held m 29 [c2] = xs[2]? := by simpa [cellsInts] using hx 2 _ rfl
  have q3 : DataW.trod enc Try.prog w base (fun _ => true) held m 3 [c3] = xs[3]? := by simpa [cellsInt] using hx 3 _ rfl
  rw [List.getElem?_eq_getElem (by omega)] at q0 q1 q2 q3
  obtain ⟨z0, e0, -, -⟩ := DataW.trod_int Try.underlying3 q0
  obtain ⟨z3, e3, -, -⟩ := DataW.trod_int Try.underlying3 q3
  obtain ⟨ra, rc, rs, rfl, hr, h1⟩ := open_intRow q1
  obtain ⟨oa, oc, os, rfl, ho, h2⟩ := open_intRow q2
  simp only [List.cons.injEq, and_true] at e0 e3
  subst e0 e3
  exact ⟨⟨z0, ra, rc, rs, oa, oc, os, z3⟩, ⟨rfl, rfl, rfl, rfl⟩, ⟨hr, ho⟩, h1, h2⟩

theorem open_StateS {H : Type} {enc : TypeId × Value → H} {w : World} {held : Bool} {base : Nat} {a0 : Option Addr} {len cap : Nat} {d : DataW H} {p : List MemPlace}
    (h : DataW.Trod enc Try.prog w base (fun _ => true) held 23 (.slice a0 len cap) d p) :
    len ≤ maxLen ∧ ∃ q, AllState w a0 len q ∧ ∀ i, i < len → (q i).rs.length ≤ maxLen ∧ (q i).os.length ≤ maxLen := by
  obtain ⟨fuel, hf⟩ := h
  have inh : Inhabited St8 := ⟨⟨0, none, 0, [], none, 0, [], 0⟩⟩
  rcases Go.Deep.open_slice Try.underlying23 hf with ⟨hcs, _⟩ | ⟨a, len', cap', m, n, D, Pl, hcs, _, hl, hm, hmm, _, hx⟩
  · simp [Value.cells] at hcs
    obtain ⟨_, rfl, _⟩ := hcs
    exact ⟨Nat.zero_le _, fun _ => default, ⟨.inl rfl, fun i hi => by omega⟩, fun i hi => by omega⟩
  · simp [Value.cells] at hcs
    obtain ⟨rfl, rfl, rfl⟩ := hcs
    refine ⟨Nat.le_trans hl hm, ?_⟩
    have hle : len ≤ m := by rw [hmm]; split <;> omega
    rw [cellsLawState] at hx
    obtain ⟨b, off, spot⟩ := a
    have hcell : ∀ i, i < len → ∃ q : St8, (w.cell? (Addr.add (Addr.add ⟨b, off, spot⟩ (i * 4)) 0) = some (.int .i64 q.p) ∧ w.cell? (Addr.add (Addr.add ⟨b, off, spot⟩ (i * 4)) 1) = some (.slice q.ra q.rs.length q.rc) ∧ w.cell? (Addr.add (Addr.add ⟨b, off, spot⟩ (i * 4)) 2) = some (.slice q.oa q.os.length q.oc) ∧ w.cell? (Addr.add (Addr.add ⟨b, off, spot⟩ (i * 4)) 3) = some (.int .i64 q.c)) ∧ (q.rs.length ≤ maxLen ∧ q.os.length ≤ maxLen) ∧ Sl w q.ra q.rs ∧ Sl w q.oa q.os := by
      intro i hi
      obtain ⟨cs', h1, h2⟩ := hx i (by omega)
      obtain ⟨_, hlen, hc⟩ := World.cells?_some h1
      match cs', hlen with
      | [c0, c1, c2, c3], _ =>
        obtain ⟨q, ⟨rfl, rfl, rfl, rfl⟩, hb, hs⟩ := open_stateCells h2
        exact ⟨q, ⟨hc 0 (by omega), hc 1 (by omega), hc 2 (by omega), hc 3 (by omega)⟩, hb, hs⟩
    obtain ⟨g, hg⟩ := Go.Deep.choose_lt (α := St8) hcell
    refine ⟨g, ⟨?_, fun i hi => (hg i hi).2.2⟩, fun i hi => (hg i hi).2.1⟩
    by_cases h0 : len = 0
    · exact .inl h0
    have hspot : spot = none := by
      have hx0 := (hg 0 (by omega)).1.1
      simpa [Addr.add] using World.cell?_spot hx0
    subst hspot
    have hI : ∀ i, i < len → w.cell? ⟨b, off + i * 4, none⟩ = some (.int .i64 (g i).p) ∧ w.cell? ⟨b, off + i * 4 + 1, none⟩ = some (.slice (g i).ra (g i).rs.length (g i).rc) ∧ w.cell? ⟨b, off + i * 4 + 2, none⟩ = some (.slice (g i).oa (g i).os.length (g i).oc) ∧ w.cell? ⟨b, off + i * 4 + 3, none⟩ = some (.int .i64 (g i).c) := by
      intro i hi
      obtain ⟨⟨q0, q1, q2, q3⟩, -⟩ := hg i hi
      rw [addr_addO, addr_addO] at q0 q1 q2 q3
      exact ⟨q0, q1, q2, q3⟩
    exact .inr ⟨b, off, rfl, cell_lt (hI 0 (by omega)).1, hI⟩

end Go.Proofs.Ytfbjeabpibnacaa
