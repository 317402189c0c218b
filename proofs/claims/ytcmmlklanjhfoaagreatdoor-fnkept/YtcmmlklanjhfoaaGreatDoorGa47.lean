/- Rows of kept states of one's own: held against each other, marked, and that the marks are held. -/
import Derived.Test.YtcmmlklanjhfoaaGreatDoorGa46
namespace Go.Proofs.YtcmmlklanjhfoaaGreatDoor
open Go.ChangeShapes Go.WideShapes Go.ChangeAt Go.RowKit Go.Deep

theorem OKB.keep {w w' : World} {P : Nat → Prop} {D n : Nat} {N : Nat → Int} {vs : Nat → Value} {S : Nat → S4} (o : OKB w P D n N vs S) (hs : w.heap.size ≤ w'.heap.size) (hb : ∀ k, P k → k < w.heap.size → w'.heap[k]? = w.heap[k]?) : OKB w' P D n N vs S :=
  have hD : w'.heap[D]? = w.heap[D]? := hb D o.rb o.lt
  ⟨fun i hi => (o.cel i hi).blk hD, fun i hi => (o.own i hi).blk fun k hk => hb k (o.ob i hi k hk) ((o.own i hi).lt hk).2, o.rb, o.ob, o.ra, o.oa, fun j => (World.frozen?_of_block hD).trans (o.fr j), Nat.lt_of_lt_of_le o.lt hs⟩
theorem OKB.below {w w' : World} {P : Nat → Prop} {D n : Nat} {N : Nat → Int} {vs : Nat → Value} {S : Nat → S4} (o : OKB w P D n N vs S) (hb : Below w.heap.size w w') : OKB w' P D n N vs S := o.keep hb.size fun k _ hk => hb.block k hk
theorem OKB.mono {w : World} {P P' : Nat → Prop} {D n : Nat} {N : Nat → Int} {vs : Nat → Value} {S : Nat → S4} (o : OKB w P D n N vs S) (h : ∀ k, P k → k < w.heap.size → P' k) : OKB w P' D n N vs S :=
  ⟨o.cel, o.own, h D o.rb o.lt, fun i hi k hk => h k (o.ob i hi k hk) ((o.own i hi).lt hk).2, o.ra, o.oa, o.fr, o.lt⟩
theorem OKB.cast {w : World} {P : Nat → Prop} {D n : Nat} {N N' : Nat → Int} {vs : Nat → Value} {S S' : Nat → S4} (o : OKB w P D n N vs S) (h : ∀ i, i < n → N i = N' i ∧ S i = S' i) : OKB w P D n N' vs S' :=
  ⟨fun i hi => by rw [← (h i hi).1, ← (h i hi).2]; exact o.cel i hi, fun i hi => by rw [← (h i hi).2]; exact o.own i hi, o.rb, o.ob, o.ra, o.oa, o.fr, o.lt⟩
theorem LK.okb {w : World} {P : Nat → Prop} {a : Option Addr} {n cap : Nat} {N : Nat → Int} {vs : Nat → Value} {S : Nat → S4} (o : LK w P (.slice a n cap) n N vs S) (ha : a ≠ none) : ∃ D, a = some ⟨D, 0, none⟩ ∧ OKB w P D n N vs S := by
  have hr := o.row
  rcases hr.2 with ⟨e, -⟩ | ⟨g, cap', cur, e, -, hg, -⟩
  · simp only [Value.slice.injEq] at e
    exact absurd e.1 ha
  · simp only [Value.slice.injEq] at e
    obtain ⟨rfl, -, rfl⟩ := e
    refine ⟨g, rfl, fun i hi => ?_, o.own, o.rb g rfl, o.ob, fun i hi h => o.ra i hi g h rfl, o.oa, fun j => o.row.frozenAt j, (o.row.lt g rfl).2⟩
    obtain ⟨g', cap2, e2, -, -, h, -⟩ := o.cell hi
    simp only [Value.slice.injEq, Option.some.injEq, Addr.mk.injEq, and_true, true_and] at e2
    obtain ⟨rfl, -⟩ := e2
    exact h

/-- A state that is marked from x on. -/
def mkSk (x : Int) (s : S4) : S4 := ⟨x, marks (x + 1) s.rs.length, marks (x + 1 + s.rs.length) s.os.length, x + 1 + s.rs.length + s.os.length⟩
theorem OKB.mark {w : World} {P : Nat → Prop} {g n j : Nat} {N : Nat → Int} {vs : Nat → Value} {S : Nat → S4} (o : OKB w P g n N vs S) (hj : j < n) {p code : Int} {ra oa : Option Addr} {rn rc on oc : Nat} (hv : vs j = stV p ra rn rc oa on oc code) (A X C : Int) {w1 w2 : World} {rs' os' : List Int} (l1 : rs'.length = rn) (l2 : os'.length = on)
    (g1 : ((w.setCell ⟨g, j * 5, none⟩ (.int .i64 A)).setCell ⟨g, j * 5 + 1, none⟩ (.int .i64 X)).grownBy w1 (Value.slice ra rn rc).ownBlock) (g2 : w1.grownBy w2 (Value.slice oa on oc).ownBlock) (r1 : OwnI w2 0 (.slice ra rn rc) rs') (r2 : OwnI w2 0 (.slice oa on oc) os') :
    OKB (w2.setCell ⟨g, j * 5 + 4, none⟩ (.int .i64 C)) P g n (fun t => if t = j then A else N t) (fun t => if t = j then stV X ra rn rc oa on oc C else vs t) (fun t => if t = j then ⟨X, rs', os', C⟩ else S t) ∧ Touch P w (w2.setCell ⟨g, j * 5 + 4, none⟩ (.int .i64 C)) := by
  have hg := o.lt
  have hRb : ∀ k, (Value.slice ra rn rc).ownBlock = some k → hasBlock (vs j) k := fun k hk => by rw [hv]; exact (hasBlock_iff _ _ _ _ _).2 (.inl hk)
  have hOb : ∀ k, (Value.slice oa on oc).ownBlock = some k → hasBlock (vs j) k := fun k hk => by rw [hv]; exact (hasBlock_iff _ _ _ _ _).2 (.inr hk)
  have ng : ¬ hasBlock (vs j) g := o.ra j hj
  have z1 : w.heap.size ≤ w1.heap.size := by have := g1.size; simpa using this
  have hkeep : ∀ k, k < w.heap.size → k ≠ g → ¬ hasBlock (vs j) k → (w2.setCell ⟨g, j * 5 + 4, none⟩ (.int .i64 C)).heap[k]? = w.heap[k]? := fun k hk hne hnb => (Below.heap_setCell _ _ _ _ hne).trans ((g2.block k (by omega) fun e => hnb (hOb k e.symm)).trans ((g1.block k (by simpa using hk) fun e => hnb (hRb k e.symm)).trans ((Below.heap_setCell _ _ _ _ hne).trans (Below.heap_setCell _ _ _ _ hne))))
  have hgk : w2.heap[g]? = ((w.setCell ⟨g, j * 5, none⟩ (.int .i64 A)).setCell ⟨g, j * 5 + 1, none⟩ (.int .i64 X)).heap[g]? := (g2.block g (by omega) fun e => ng (hOb g e.symm)).trans (g1.block g (by simpa using hg) fun e => ng (hRb g e.symm))
  have lts : ∀ t, t < n → ∀ k, hasBlock (vs t) k → k < w.heap.size := fun t ht k hk => ((o.own t ht).lt hk).2
  have hhb : ∀ k, hasBlock (stV X ra rn rc oa on oc C) k → hasBlock (vs j) k := fun k hk => by
    rcases (hasBlock_iff _ _ _ _ _).1 hk with h | h
    · exact hRb k h
    · exact hOb k h
  have s1 : ∀ (W : World) (q i : Nat) (u : Value), q ≠ i → (W.setCell ⟨g, q, none⟩ u).cell? ⟨g, i, none⟩ = W.cell? ⟨g, i, none⟩ := fun W q i u h => World.cell?_setCell_other _ _ _ _ fun e => h (by injection e)
  have hcell : ∀ i, i ≠ j * 5 → i ≠ j * 5 + 1 → i ≠ j * 5 + 4 → (w2.setCell ⟨g, j * 5 + 4, none⟩ (.int .i64 C)).cell? ⟨g, i, none⟩ = w.cell? ⟨g, i, none⟩ := fun i h1 h2 h3 => by
    rw [s1 _ _ _ _ (fun e => h3 e.symm), World.cell?_of_block hgk, s1 _ _ _ _ (fun e => h2 e.symm), s1 _ _ _ _ (fun e => h1 e.symm)]
  obtain ⟨ra0, rc0, oa0, oc0, ev, c0, c1, c2, c3, c4⟩ := o.cel j hj
  rw [hv] at ev
  simp only [stV, Value.agg.injEq, Array.mk.injEq, List.cons.injEq, Value.slice.injEq, and_true] at ev
  obtain ⟨-, ⟨rfl, hrn, rfl⟩, ⟨rfl, hon, rfl⟩, -⟩ := ev
  refine ⟨⟨fun t ht => ?_, fun t ht => ?_, o.rb, fun t ht k hk => ?_, fun t ht hk => ?_, fun a b ha hb hab k hk => ?_, fun q => ?_, ?_⟩, ?_⟩
  · by_cases et : t = j
    · subst et
      simp only [if_true]
      refine ⟨ra, rc, oa, oc, by simp only [l1, l2], ?_, ?_, ?_, ?_, ?_⟩
      · rw [s1 _ _ _ _ (by omega), World.cell?_of_block hgk, s1 _ _ _ _ (by omega)]
        exact World.cell?_setCell_same _ _ _ c0
      · rw [s1 _ _ _ _ (by omega), World.cell?_of_block hgk]
        exact World.cell?_setCell_same _ _ _ ((s1 _ _ _ _ (by omega)).trans c1)
      · rw [hcell _ (by omega) (by omega) (by omega), c2, l1, hrn]
      · rw [hcell _ (by omega) (by omega) (by omega), c3, l2, hon]
      · have c5 : w2.cell? ⟨g, t * 5 + 4, none⟩ = some (.int .i64 (S t).c) := by
          rw [World.cell?_of_block hgk, s1 _ _ _ _ (by omega), s1 _ _ _ _ (by omega)]
          exact c4
        exact World.cell?_setCell_same _ _ _ c5
    · simp only [if_neg et]
      obtain ⟨ra', rc', oa', oc', e', d0, d1, d2, d3, d4⟩ := o.cel t ht
      exact ⟨ra', rc', oa', oc', e', (hcell _ (by omega) (by omega) (by omega)).trans d0, (hcell _ (by omega) (by omega) (by omega)).trans d1, (hcell _ (by omega) (by omega) (by omega)).trans d2, (hcell _ (by omega) (by omega) (by omega)).trans d3, (hcell _ (by omega) (by omega) (by omega)).trans d4⟩
  · by_cases et : t = j
    · subst et
      simp only [if_true]
      obtain ⟨vr, vo, ee, -, -, hap⟩ := o.own t hj
      rw [hv] at ee
      simp only [stV, Value.agg.injEq, Array.mk.injEq, List.cons.injEq, and_true] at ee
      obtain ⟨-, rfl, rfl, -⟩ := ee
      exact ⟨.slice ra rn rc, .slice oa on oc, rfl, r1.blk fun k hk => Below.heap_setCell _ _ _ _ fun (e : k = g) => ng (by rw [← e]; exact hRb k hk), r2.blk fun k hk => Below.heap_setCell _ _ _ _ fun (e : k = g) => ng (by rw [← e]; exact hOb k hk), hap⟩
    · simp only [if_neg et]
      exact (o.own t ht).blk fun k hk => hkeep k (lts t ht k hk) (fun e => o.ra t ht (e ▸ hk)) fun h => o.oa t j ht hj et k hk h
  · by_cases et : t = j
    · simp only [if_pos et] at hk
      exact o.ob j hj k (hhb k hk)
    · simp only [if_neg et] at hk
      exact o.ob t ht k hk
  · by_cases et : t = j
    · simp only [if_pos et] at hk
      exact ng (hhb g hk)
    · simp only [if_neg et] at hk
      exact o.ra t ht hk
  · intro hbk
    by_cases ea : a = j
    · have eb : b ≠ j := fun e => hab (by omega)
      simp only [if_pos ea] at hk
      simp only [if_neg eb] at hbk
      exact o.oa j b hj hb (Ne.symm eb) k (hhb k hk) hbk
    · simp only [if_neg ea] at hk
      by_cases eb : b = j
      · simp only [if_pos eb] at hbk
        exact o.oa a j ha hj ea k hk (hhb k hbk)
      · simp only [if_neg eb] at hbk
        exact o.oa a b ha hb hab k hk hbk
  · rw [World.frozen?_setCell, World.frozen?_of_block hgk, World.frozen?_setCell, World.frozen?_setCell]
    exact o.fr q
  · have := g2.size
    simp
    omega
  · have t1 : Touch P w ((w.setCell ⟨g, j * 5, none⟩ (.int .i64 A)).setCell ⟨g, j * 5 + 1, none⟩ (.int .i64 X)) := (Touch.of_set _ o.rb _).trans (Touch.of_set _ o.rb _)
    have t2 : Touch P ((w.setCell ⟨g, j * 5, none⟩ (.int .i64 A)).setCell ⟨g, j * 5 + 1, none⟩ (.int .i64 X)) w1 := Touch.of_grown g1 fun k e => o.ob j hj k (hRb k e)
    have t3 : Touch P w1 w2 := Touch.of_grown g2 fun k e => o.ob j hj k (hOb k e)
    exact ((t1.trans t2).trans t3).trans (Touch.of_set _ o.rb _)

end Go.Proofs.YtcmmlklanjhfoaaGreatDoor
