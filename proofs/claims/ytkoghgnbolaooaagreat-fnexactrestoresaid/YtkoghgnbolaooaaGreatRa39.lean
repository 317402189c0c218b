/- The law of KeptOk, walked. -/
import Derived.Test.YtkoghgnbolaooaaGreatRa36
import Derived.Test.YtkoghgnbolaooaaGreatRa38
import Derived.Test.YtkoghgnbolaooaaGreatRa34
namespace Go.Proofs.YtkoghgnbolaooaaGreat
open Go.ChangeShapes Go.WideShapes Go.ChangeAt Go.RowKit Go.Deep

/-- Kept states that came in are copied, whatever has been made since. -/
def CopiesK (w : World) (a0 : Option Addr) (n cap : Nat) (q : Nat → K9) : Prop := ∀ wx, Below w.heap.size w wx →
  Calls Tryz.prog 20 #[.slice a0 n cap] wx fun e w' => e = .returned (.slice (some ⟨wx.heap.size, 0, none⟩) n n) ∧ (∃ vs, OutKept w' wx.heap.size w'.heap.size n (fun i => (q i).n) (fun i => (q i).s) vs) ∧ Below wx.heap.size wx w'
/-- Copies of kept states, seen as ones that came in. -/
theorem OutKept.all {w : World} {D hi n : Nat} {q : Nat → K9} {vs : Nat → Value} (o : OutKept w D hi n (fun i => (q i).n) (fun i => (q i).s) vs) : ∃ q', AllKept w (some ⟨D, 0, none⟩) n q' ∧ ∀ i, (q' i).n = (q i).n ∧ (q' i).s = (q i).s := by
  have h : ∀ i, ∃ x : K9, (x.n = (q i).n ∧ x.s = (q i).s) ∧ (i < n → (w.cell? ⟨D, 0 + i * 5, none⟩ = some (.int .i64 x.n) ∧ w.cell? ⟨D, 0 + i * 5 + 1, none⟩ = some (.int .i64 x.p) ∧ w.cell? ⟨D, 0 + i * 5 + 2, none⟩ = some (.slice x.ra x.rs.length x.rc) ∧ w.cell? ⟨D, 0 + i * 5 + 3, none⟩ = some (.slice x.oa x.os.length x.oc) ∧ w.cell? ⟨D, 0 + i * 5 + 4, none⟩ = some (.int .i64 x.c)) ∧ Sl w x.ra x.rs ∧ Sl w x.oa x.os) := by
    intro i
    by_cases hi : i < n
    · obtain ⟨ra, rc, oa, oc, ev, a0, a1, a2, a3, a4⟩ := o.cel i hi
      refine ⟨⟨⟨(q i).p, ra, rc, (q i).rs, oa, oc, (q i).os, (q i).c⟩, (q i).n⟩, ⟨rfl, rfl⟩, fun _ => ⟨?_, ?_⟩⟩
      · rw [Nat.zero_add]
        exact ⟨a0, a1, a2, a3, a4⟩
      · obtain ⟨x1, x2, x3, x4, e, s1, s2⟩ := (o.own i hi).read
        rw [ev] at e
        simp only [Value.agg.injEq, Array.mk.injEq, List.cons.injEq, Value.slice.injEq, and_true, true_and] at e
        obtain ⟨⟨rfl, rfl⟩, rfl, rfl⟩ := e
        exact ⟨s1, s2⟩
    · exact ⟨q i, ⟨rfl, rfl⟩, fun h => absurd h hi⟩
  have hD : D < w.heap.size := Nat.lt_of_lt_of_le o.lt o.le
  exact ⟨fun i => Classical.choose (h i), ⟨.inr ⟨D, 0, rfl, hD, fun i hi => ((Classical.choose_spec (h i)).2 hi).1⟩, fun i hi => ((Classical.choose_spec (h i)).2 hi).2⟩, fun i => (Classical.choose_spec (h i)).1⟩
theorem KpOk.congr {g : Nat → I5} {n m c : Nat} {eh : Nat → E3} {q q' : Nat → K9} (h : ∀ i, (q' i).n = (q i).n ∧ (q' i).s = (q i).s) : KpOk g n eh m q' c ↔ KpOk g n eh m q c := by
  have h1 : ∀ {q q' : Nat → K9}, (∀ i, (q' i).n = (q i).n ∧ (q' i).s = (q i).s) → KpOk g n eh m q' c → KpOk g n eh m q c := by
    intro q q' h o
    refine ⟨o.so, ⟨o.li.1, (h 0).1 ▸ o.li.2.1, fun j hj => ?_⟩, fun i hi => ?_⟩
    · rw [← (h j).1, ← (h (j + 1)).1]
      exact o.li.2.2 j hj
    · have := o.al i hi
      unfold KpAt at this ⊢
      rw [(h i).1, (h i).2] at this
      exact this
  exact ⟨h1 h, h1 fun i => ⟨(h i).1.symm, (h i).2.symm⟩⟩

/-- What stands of the law's own arguments: places, events, kept states. -/
structure Kx (w wi : World) (i0 e0 k0 k1 len m c : Nat) (g : Nat → I5) (eh : Nat → E3) (q : Nat → K9) : Prop where
  be : Below w.heap.size w wi
  i : InsAt wi i0 0 len g ∧ i0 < wi.heap.size
  e : EvAt wi e0 0 m eh ∧ e0 < wi.heap.size
  k : ∃ vs, OutKept wi k0 k1 c (fun i => (q i).n) (fun i => (q i).s) vs
theorem Kx.below {w wi w' : World} {i0 e0 k0 k1 len m c : Nat} {g : Nat → I5} {eh : Nat → E3} {q : Nat → K9} (h : Kx w wi i0 e0 k0 k1 len m c g eh q) (hb : Below wi.heap.size wi w') : Kx w w' i0 e0 k0 k1 len m c g eh q := by
  obtain ⟨vs, o⟩ := h.k
  exact ⟨h.be.trans (hb.mono h.be.size), ⟨h.i.1.below hb h.i.2, Nat.lt_of_lt_of_le h.i.2 hb.size⟩, ⟨h.e.1.below hb h.e.2, Nat.lt_of_lt_of_le h.e.2 hb.size⟩, ⟨vs, o.below hb o.le⟩⟩

end Go.Proofs.YtkoghgnbolaooaaGreat
