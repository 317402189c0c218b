/- What a draw of a state hands back. -/
import Derived.Test.YtmbmhpginegggaaOnB
namespace Go.Proofs.Ytmbmhpginegggaa
open Go.RowKit

theorem InsAt.dr {w : World} {b off len : Nat} {g : Nat → I5} (h : InsAt w b off len g) : InsAt w.drew b off len g := h
theorem Sl.dr {w : World} {a0 : Option Addr} {xs : List Int} (h : Sl w a0 xs) : Sl w.drew a0 xs := h

/-- What is read of a list of ints is as it was where its block is. -/
theorem Sl.blk {w w' : World} {a0 : Option Addr} {xs : List Int} (h : Sl w a0 xs) (hs : w.heap.size ≤ w'.heap.size) (hb : ∀ a, a0 = some a → w'.heap[a.block]? = w.heap[a.block]?) : Sl w' a0 xs := by
  rcases h with h | ⟨b, off, rfl, hlt, hc⟩
  · exact .inl h
  · have e : w'.heap[b]? = w.heap[b]? := hb _ rfl
    exact .inr ⟨b, off, rfl, Nat.lt_of_lt_of_le hlt hs, fun i hi => (World.cell?_of_block e).trans (hc i hi)⟩
theorem InsAt.blk {w w' : World} {b off len : Nat} {g : Nat → I5} (h : InsAt w b off len g) (hb : w'.heap[b]? = w.heap[b]?) : InsAt w' b off len g := by
  intro i hi
  obtain ⟨c0, c1, c2, c3, c4⟩ := h i hi
  exact ⟨(World.cell?_of_block hb).trans c0, (World.cell?_of_block hb).trans c1, (World.cell?_of_block hb).trans c2, (World.cell?_of_block hb).trans c3, (World.cell?_of_block hb).trans c4⟩

theorem OwnI.shape {w : World} {B n cp : Nat} {a : Option Addr} {xs : List Int} (h : OwnI w B (.slice a n cp) xs) (hx : 0 < xs.length) : ∃ g, a = some ⟨g, 0, none⟩ ∧ xs.length ≤ cp ∧ B ≤ g ∧ g < w.heap.size := by
  rcases h.2 with ⟨_, h0⟩ | ⟨g, cap, cur, e, hb, hg, h1, h2, _⟩
  · omega
  · simp only [Value.slice.injEq] at e
    obtain ⟨rfl, -, rfl⟩ := e
    exact ⟨g, rfl, h1, hb, (h.lt g rfl).2⟩

theorem Sl.at0 {w : World} {b : Nat} {xs : List Int} (h : Sl w (some ⟨b, 0, none⟩) xs) {k : Nat} (hk : k < xs.length) : w.cell? ⟨b, k, none⟩ = some (.int .i64 (zi xs k)) ∧ b < w.heap.size := by
  obtain ⟨bq, oq, e, hlt, hc⟩ := h.at hk
  cases e
  rw [Nat.zero_add] at hc
  exact ⟨hc, hlt⟩
def pick4 (j : Nat) : Int := [(1000000000 : Int), -1000000000, 1000000001, 40000].getD j 0
theorem pick4_at (w : World) : IntsAt (w.alloc (.cells #[.int .i64 1000000000, .int .i64 (-1000000000), .int .i64 1000000001, .int .i64 40000] 3)) w.heap.size 4 pick4 := by
  intro j hj
  match j, hj with
  | 0, _ => simp [pick4]
  | 1, _ => simp [pick4]
  | 2, _ => simp [pick4]
  | 3, _ => simp [pick4]
theorem OwnI.cells4 {w : World} {B g cap : Nat} {r1 r2 r3 r4 : Int} (h : OwnI w B (.slice (some ⟨g, 0, none⟩) 4 cap) [r1, r2, r3, r4]) : w.cell? ⟨g, 0, none⟩ = some (.int .i64 r1) ∧ w.cell? ⟨g, 1, none⟩ = some (.int .i64 r2) ∧ w.cell? ⟨g, 2, none⟩ = some (.int .i64 r3) ∧ w.cell? ⟨g, 3, none⟩ = some (.int .i64 r4) :=
  ⟨OwnI.cell (xs := [r1, r2, r3, r4]) h (j := 0) (by simp), OwnI.cell (xs := [r1, r2, r3, r4]) h (j := 1) (by simp), OwnI.cell (xs := [r1, r2, r3, r4]) h (j := 2) (by simp), OwnI.cell (xs := [r1, r2, r3, r4]) h (j := 3) (by simp)⟩

/-- A program and a state that were drawn: the state in block Bs, the answer's own block R still empty. -/
structure Dq (w wr : World) (R gb n : Nat) (G : Nat → I5) (W0 c len cap : Nat) (a0 : Option Addr) (Bs : Nat) (p code : Int) (ra : Option Addr) (rc : Nat) (oa : Option Addr) (oc : Nat) (rs os : List Int) : Prop where
  ins : InsAt wr gb 0 n G
  g1 : gb < wr.heap.size
  g2 : gb ≠ c ∧ gb ≠ Bs ∧ gb ≠ R
  box : BoxC wr Bs (.int .i64 p) (.slice ra rs.length rc) (.slice oa os.length oc) (.int .i64 code)
  fz : ∀ j, wr.frozen? ⟨Bs, j, none⟩ = false
  rbox : BoxC wr R (.int .i64 0) (.slice none 0 0) (.slice none 0 0) (.int .i64 0)
  rfz : ∀ j, wr.frozen? ⟨R, j, none⟩ = false
  s1 : Sl wr ra rs
  s2 : Sl wr oa os
  n1 : ∀ a, ra = some a → a.block ≠ c ∧ a.block ≠ Bs ∧ a.block ≠ R
  n2 : ∀ a, oa = some a → a.block ≠ c ∧ a.block ≠ Bs ∧ a.block ≠ R
  lr : rs.length ≤ 1048576
  lo : os.length ≤ 1048576
  cu : Cur wr W0 c a0 len cap
  gr : w.grownBy wr (some c)
  hR : w.heap.size ≤ R ∧ w.heap.size ≤ Bs ∧ R ≠ Bs ∧ c < w.heap.size ∧ W0 ≤ c
  u1 : ∀ a, ra = some a → w.heap.size ≤ a.block
  u2 : ∀ a, oa = some a → w.heap.size ≤ a.block

theorem BoxC.blk {w w' : World} {N : Nat} {p vr vo code : Value} (h : BoxC w N p vr vo code) (hb : w'.heap[N]? = w.heap[N]?) : BoxC w' N p vr vo code := by
  obtain ⟨h0, h1, h2, h3⟩ := h
  exact ⟨(World.cell?_of_block hb).trans h0, (World.cell?_of_block hb).trans h1, (World.cell?_of_block hb).trans h2, (World.cell?_of_block hb).trans h3⟩
theorem BoxC.lt {w : World} {N : Nat} {p vr vo code : Value} (h : BoxC w N p vr vo code) : N < w.heap.size := World.block_lt_of_cell? w _ h.1

theorem Dq.turn {w wr w' : World} {R gb n : Nat} {G : Nat → I5} {W0 c len cap : Nat} {a0 : Option Addr} {Bs : Nat} {p code : Int} {ra : Option Addr} {rc : Nat} {oa : Option Addr} {oc : Nat} {rs os : List Int} (h : Dq w wr R gb n G W0 c len cap a0 Bs p code ra rc oa oc rs os) (hc : Cur w' W0 c a0 len cap) (hg : wr.grownBy w' (some c)) : Dq w w' R gb n G W0 c len cap a0 Bs p code ra rc oa oc rs os := by
  have hb : ∀ j, j < wr.heap.size → j ≠ c → w'.heap[j]? = wr.heap[j]? := fun j h1 h2 => hg.block j h1 (by simp; exact h2)
  obtain ⟨x1, x2, x3, x4, x5⟩ := h.hR
  have eB := hb Bs h.box.lt (by omega)
  have eR := hb R h.rbox.lt (by omega)
  refine ⟨h.ins.blk (hb gb h.g1 h.g2.1), Nat.lt_of_lt_of_le h.g1 hg.size, h.g2, h.box.blk eB, fun j => (World.frozen?_of_block eB).trans (h.fz j), h.rbox.blk eR, fun j => (World.frozen?_of_block eR).trans (h.rfz j), ?_, ?_, h.n1, h.n2, h.lr, h.lo, hc, h.gr.trans hg, h.hR, h.u1, h.u2⟩
  · rcases h.s1 with e | ⟨b, off, e, hlt, hcc⟩
    · exact .inl e
    · exact Sl.blk h.s1 hg.size (fun a ha => hb _ (by rw [e] at ha; cases ha; exact hlt) (h.n1 a ha).1)
  · rcases h.s2 with e | ⟨b, off, e, hlt, hcc⟩
    · exact .inl e
    · exact Sl.blk h.s2 hg.size (fun a ha => hb _ (by rw [e] at ha; cases ha; exact hlt) (h.n2 a ha).1)
theorem Dq.below {w wr w' : World} {R gb n : Nat} {G : Nat → I5} {W0 c len cap : Nat} {a0 : Option Addr} {Bs : Nat} {p code : Int} {ra : Option Addr} {rc : Nat} {oa : Option Addr} {oc : Nat} {rs os : List Int} (h : Dq w wr R gb n G W0 c len cap a0 Bs p code ra rc oa oc rs os) (hb : Below wr.heap.size wr w') : Dq w w' R gb n G W0 c len cap a0 Bs p code ra rc oa oc rs os :=
  h.turn (h.cu.kept (grown_of_below hb) (by simp) (fun k e => by cases e)) (grown_any (grown_of_below hb) _)

/-- A cell of the state's block is written. -/
theorem Dq.tag {w wr : World} {R gb n : Nat} {G : Nat → I5} {W0 c len cap : Nat} {a0 : Option Addr} {Bs : Nat} {p code : Int} {ra : Option Addr} {rc : Nat} {oa : Option Addr} {oc : Nat} {rs os : List Int} (h : Dq w wr R gb n G W0 c len cap a0 Bs p code ra rc oa oc rs os) (j : Nat) (v : Value)
    {p' code' : Int} {ra' : Option Addr} {rc' : Nat} {oa' : Option Addr} {oc' : Nat} {rs' os' : List Int} (hbox : BoxC (wr.setCell ⟨Bs, j, none⟩ v) Bs (.int .i64 p') (.slice ra' rs'.length rc') (.slice oa' os'.length oc') (.int .i64 code')) (h1 : Sl wr ra' rs') (h2 : Sl wr oa' os') (n1 : ∀ a, ra' = some a → a.block ≠ c ∧ a.block ≠ Bs ∧ a.block ≠ R) (n2 : ∀ a, oa' = some a → a.block ≠ c ∧ a.block ≠ Bs ∧ a.block ≠ R) (lr : rs'.length ≤ 1048576) (lo : os'.length ≤ 1048576) (u1 : ∀ a, ra' = some a → w.heap.size ≤ a.block) (u2 : ∀ a, oa' = some a → w.heap.size ≤ a.block) : Dq w (wr.setCell ⟨Bs, j, none⟩ v) R gb n G W0 c len cap a0 Bs p' code' ra' rc' oa' oc' rs' os' := by
  have gz : wr.grownBy (wr.setCell ⟨Bs, j, none⟩ v) (some Bs) := grown_setCell (p := ⟨Bs, j, none⟩) (World.grownBy.refl _ _) (.inl rfl) v
  have hb : ∀ k, k < wr.heap.size → k ≠ Bs → (wr.setCell ⟨Bs, j, none⟩ v).heap[k]? = wr.heap[k]? := fun k h1 h2 => gz.block k h1 (by simp; exact h2)
  obtain ⟨x1, x2, x3, x4, x5⟩ := h.hR
  have eR := hb R h.rbox.lt x3
  refine ⟨h.ins.blk (hb gb h.g1 h.g2.2.1), Nat.lt_of_lt_of_le h.g1 gz.size, h.g2, hbox, fun i => by rw [World.frozen?_setCell]; exact h.fz i, h.rbox.blk eR, fun i => by rw [World.frozen?_setCell]; exact h.rfz i, ?_, ?_, n1, n2, lr, lo, h.cu.setOther (p := ⟨Bs, j, none⟩) (by simp; omega) (by simp; omega) v, grown_setCell (p := ⟨Bs, j, none⟩) h.gr (.inr x2) v, h.hR, u1, u2⟩
  · rcases h1 with e | ⟨b, off, e, hlt, hcc⟩
    · exact .inl e
    · exact Sl.blk (.inr ⟨b, off, e, hlt, hcc⟩) gz.size (fun a ha => hb _ (by rw [e] at ha; cases ha; exact hlt) (n1 a ha).2.1)
  · rcases h2 with e | ⟨b, off, e, hlt, hcc⟩
    · exact .inl e
    · exact Sl.blk (.inr ⟨b, off, e, hlt, hcc⟩) gz.size (fun a ha => hb _ (by rw [e] at ha; cases ha; exact hlt) (n2 a ha).2.1)

/-- A register of the state is written. -/
theorem Dq.reg {w wr : World} {R gb n : Nat} {G : Nat → I5} {W0 c len cap : Nat} {a0 : Option Addr} {Bs : Nat} {p code : Int} {bx : Nat} {rc : Nat} {oa : Option Addr} {oc : Nat} {rs os : List Int} (h : Dq w wr R gb n G W0 c len cap a0 Bs p code (some ⟨bx, 0, none⟩) rc oa oc rs os) {j : Nat} (hj : j < rs.length) (x : Int) (hw : w.heap.size ≤ bx) (hgb : gb ≠ bx) (hob : ∀ a, oa = some a → a.block ≠ bx) : Dq w (wr.setCell ⟨bx, j, none⟩ (.int .i64 x)) R gb n G W0 c len cap a0 Bs p code (some ⟨bx, 0, none⟩) rc oa oc (rs.set j x) os := by
  have gz : wr.grownBy (wr.setCell ⟨bx, j, none⟩ (.int .i64 x)) (some bx) := grown_setCell (p := ⟨bx, j, none⟩) (World.grownBy.refl _ _) (.inl rfl) _
  have hb : ∀ k, k < wr.heap.size → k ≠ bx → (wr.setCell ⟨bx, j, none⟩ (.int .i64 x)).heap[k]? = wr.heap[k]? := fun k h1 h2 => gz.block k h1 (by simp; exact h2)
  obtain ⟨x1, x2, x3, x4, x5⟩ := h.hR
  obtain ⟨m1, m2, m3⟩ := h.n1 _ rfl
  have eR := hb R h.rbox.lt (fun e => m3 e.symm)
  have eB := hb Bs h.box.lt (fun e => m2 e.symm)
  refine ⟨h.ins.blk (hb gb h.g1 hgb), Nat.lt_of_lt_of_le h.g1 gz.size, h.g2, ?_, fun i => by rw [World.frozen?_setCell]; exact h.fz i, h.rbox.blk eR, fun i => by rw [World.frozen?_setCell]; exact h.rfz i, ?_, ?_, h.n1, h.n2, by rw [List.length_set]; exact h.lr, h.lo, h.cu.setOther (p := ⟨bx, j, none⟩) m1 (by simp; omega) _, grown_setCell (p := ⟨bx, j, none⟩) h.gr (.inr hw) _, h.hR, h.u1, h.u2⟩
  · rw [List.length_set]
    exact h.box.blk eB
  · obtain ⟨b', o', e, hlt, hcc⟩ := h.s1.at hj
    cases e
    refine .inr ⟨bx, 0, rfl, Nat.lt_of_lt_of_le hlt gz.size, fun i hi => ?_⟩
    rw [List.length_set] at hi
    obtain ⟨b', o', e, -, hci⟩ := h.s1.at hi
    cases e
    rw [Nat.zero_add] at hci hcc ⊢
    by_cases hij : i = j
    · subst hij
      rw [getD_set_self _ _ _ hi]
      go_cell
    · rw [getD_set_ne _ _ _ _ hij]
      have hne : (⟨bx, j, none⟩ : Addr) ≠ ⟨bx, i, none⟩ := fun e => by
        simp only [Addr.mk.injEq, and_true, true_and] at e
        exact hij e.symm
      go_cell
  · rcases h.s2 with e | ⟨b, off, e, hlt, hcc⟩
    · exact .inl e
    · exact Sl.blk h.s2 gz.size (fun a ha => hb _ (by rw [e] at ha; cases ha; exact hlt) (hob a ha))

/-- What the draw leaves, once its answer is stored. -/
def DrawnR (w : World) (gb n : Nat) (G : Nat → I5) (W0 c len cap : Nat) (a0 : Option Addr) (ra : Option Addr) (oa : Option Addr) (rs os : List Int) (w' : World) : Prop :=
  gb < w'.heap.size ∧ InsAt w' gb 0 n G ∧ Sl w' ra rs ∧ Sl w' oa os ∧ rs.length ≤ 1048576 ∧ os.length ≤ 1048576 ∧ Cur w' W0 c a0 len cap ∧ w.grownBy w' (some c) ∧ (∀ a, ra = some a → w.heap.size ≤ a.block) ∧ (∀ a, oa = some a → w.heap.size ≤ a.block)
theorem DrawnR.dr {w : World} {gb n : Nat} {G : Nat → I5} {W0 c len cap : Nat} {a0 : Option Addr} {ra : Option Addr} {oa : Option Addr} {rs os : List Int} {w' : World} (h : DrawnR w gb n G W0 c len cap a0 ra oa rs os w') : DrawnR w gb n G W0 c len cap a0 ra oa rs os w'.drew :=
  ⟨h.1, h.2.1.dr, h.2.2.1.dr, h.2.2.2.1.dr, h.2.2.2.2.1, h.2.2.2.2.2.1, h.2.2.2.2.2.2.1.drew, grown_dr h.2.2.2.2.2.2.2.1, h.2.2.2.2.2.2.2.2⟩
theorem Dq.done {w wr : World} {R gb n : Nat} {G : Nat → I5} {W0 c len cap : Nat} {a0 : Option Addr} {Bs : Nat} {p code : Int} {ra : Option Addr} {rc : Nat} {oa : Option Addr} {oc : Nat} {rs os : List Int} (h : Dq w wr R gb n G W0 c len cap a0 Bs p code ra rc oa oc rs os) (a b d e : Value) : DrawnR w gb n G W0 c len cap a0 ra oa rs os ((((wr.setCell ⟨R, 0, none⟩ a).setCell ⟨R, 1, none⟩ b).setCell ⟨R, 2, none⟩ d).setCell ⟨R, 3, none⟩ e) := by
  have gz := grown4 wr R a b d e
  have hb : ∀ k, k < wr.heap.size → k ≠ R → ((((wr.setCell ⟨R, 0, none⟩ a).setCell ⟨R, 1, none⟩ b).setCell ⟨R, 2, none⟩ d).setCell ⟨R, 3, none⟩ e).heap[k]? = wr.heap[k]? := fun k h1 h2 => gz.block k h1 (by simp; exact h2)
  obtain ⟨x1, x2, x3, x4, x5⟩ := h.hR
  refine ⟨Nat.lt_of_lt_of_le h.g1 gz.size, h.ins.blk (hb gb h.g1 h.g2.2.2), ?_, ?_, h.lr, h.lo, ?_, ?_, h.u1, h.u2⟩
  · rcases h.s1 with e | ⟨b, off, e, hlt, hcc⟩
    · exact .inl e
    · exact Sl.blk h.s1 gz.size (fun a ha => hb _ (by rw [e] at ha; cases ha; exact hlt) (h.n1 a ha).2.2)
  · rcases h.s2 with e | ⟨b, off, e, hlt, hcc⟩
    · exact .inl e
    · exact Sl.blk h.s2 gz.size (fun a ha => hb _ (by rw [e] at ha; cases ha; exact hlt) (h.n2 a ha).2.2)
  · exact (((h.cu.setOther (p := ⟨R, 0, none⟩) (by simp; omega) (by simp; omega) _).setOther (p := ⟨R, 1, none⟩) (by simp; omega) (by simp; omega) _).setOther (p := ⟨R, 2, none⟩) (by simp; omega) (by simp; omega) _).setOther (p := ⟨R, 3, none⟩) (by simp; omega) (by simp; omega) _
  · repeat (refine grown_setCell ?_ (.inr x1) _)
    exact h.gr

end Go.Proofs.Ytmbmhpginegggaa
