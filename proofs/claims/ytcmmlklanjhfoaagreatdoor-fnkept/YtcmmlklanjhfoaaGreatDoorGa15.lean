/- What the law of Do holds on to between its calls: what lies where, and what may be written. -/
import Derived.Test.YtcmmlklanjhfoaaGreatDoorGa10
import Derived.Test.YtcmmlklanjhfoaaGreatDoorGa13
import Derived.Test.YtcmmlklanjhfoaaGreatDoorGa14
namespace Go.Proofs.YtcmmlklanjhfoaaGreatDoor
open Go.RowKit Go.Deep
/-- The cells of len places stand in a block, and may be written. -/
def Room (w : World) (b len : Nat) : Prop := (∀ i, i < len * 5 → ∃ u, w.cell? ⟨b, i, none⟩ = some u) ∧ ∀ j, w.frozen? ⟨b, j, none⟩ = false
theorem Room.set {w : World} {b len : Nat} (h : Room w b len) (p : Addr) (v : Value) : Room (w.setCell p v) b len :=
  ⟨fun i hi => (h.1 i hi).elim fun _ e => cell?_setCell_some e, fun j => by rw [World.frozen?_setCell]; exact h.2 j⟩
theorem Room.of_ins {w : World} {b len : Nat} {g : Nat → I5} (h : InsAt w b 0 len g) (hf : ∀ j, w.frozen? ⟨b, j, none⟩ = false) : Room w b len := by
  refine ⟨fun i hi => ?_, hf⟩
  obtain ⟨c0, c1, c2, c3, c4⟩ := h (i / 5) (by omega)
  simp only [Nat.zero_add] at c0 c1 c2 c3 c4
  have hh : i = i / 5 * 5 ∨ i = i / 5 * 5 + 1 ∨ i = i / 5 * 5 + 2 ∨ i = i / 5 * 5 + 3 ∨ i = i / 5 * 5 + 4 := by omega
  rcases hh with e | e | e | e | e
  · rw [e]; exact ⟨_, c0⟩
  · rw [e]; exact ⟨_, c1⟩
  · rw [e]; exact ⟨_, c2⟩
  · rw [e]; exact ⟨_, c3⟩
  · rw [e]; exact ⟨_, c4⟩

end Go.Proofs.YtcmmlklanjhfoaaGreatDoor

namespace Go.Proofs.YtcmmlklanjhfoaaGreatDoor
open Go.RowKit

theorem doS_len (g : Nat → I5) (len : Nat) (p : Int) (rs os : List Int) (code k q v : Int) (hr : rs.length ≤ 1048576) (ho : os.length ≤ 1048576) : (doS g len p rs os code k q v).rs.length ≤ 1048576 ∧ (doS g len p rs os code k q v).os.length ≤ 1048576 := by
  rcases Bool.eq_false_or_eq_true (doB g len p rs os code k q v) with hB | hB
  · obtain ⟨hp, hs, rfl⟩ := right_parts (doB_right hB)
    obtain ⟨⟨a1, a2, a3, a4, rfl, -⟩, -, h60, -⟩ := st_parts hs
    unfold doS
    rw [if_pos hB]
    unfold doneS
    repeat' split
    all_goals (simp [goS]; try omega)
  · unfold doS
    rw [if_neg (by rw [hB]; decide)]
    exact ⟨hr, ho⟩

/-- Nothing old has turned but the blocks from lo on, up to hi. -/
structure Tu (lo hi : Nat) (w w' : World) : Prop where
  os : w'.os = w.os
  tape : w'.tape = w.tape
  output : w'.output = w.output
  size : w.heap.size ≤ w'.heap.size
  block : ∀ k, k < w.heap.size → (k < lo ∨ hi ≤ k) → w'.heap[k]? = w.heap[k]?

theorem Tu.of_below {w w' : World} (h : Below w.heap.size w w') : Tu 0 0 w w' := ⟨h.os, h.tape, h.output, h.size, fun k hk _ => h.block k hk⟩
theorem Tu.of_row {w w' : World} {b : Nat} (h : w.grownBy w' (some b)) : Tu b (b + 1) w w' := ⟨h.os, h.tape, h.output, h.size, fun k hk hn => h.block k hk (by simp; omega)⟩
theorem Tu.of_marked {v : Value} {w w' : World} {lo hi : Nat} (h : Marked v w w') (hv : ∀ k, hasBlock v k → lo ≤ k ∧ k < hi) : Tu lo hi w w' :=
  ⟨h.os, h.tape, h.output, h.size, fun k hk hn => h.block k hk (fun e => by have := hv k e; omega)⟩
theorem Tu.below {lo hi B : Nat} {w w' : World} (h : Tu lo hi w w') (hB : B ≤ w.heap.size) (hl : B ≤ lo) : Below B w w' := ⟨h.os, h.tape, h.output, h.size, fun k hk => h.block k (by omega) (.inl (by omega))⟩

theorem OwnI.ofBlock {w w' : World} {B : Nat} {u : Value} {xs : List Int} (hu : OwnI w B u xs) (ha : ∀ k, u.ownBlock = some k → w'.heap[k]? = w.heap[k]?) : OwnI w' B u xs := by
  rcases hu.2 with ⟨rfl, h0⟩ | ⟨g, cap, cur, rfl, hb, hg, hr⟩
  · exact ⟨hu.1, .inl ⟨rfl, h0⟩⟩
  · refine ⟨hu.1, .inr ⟨g, cap, cur, rfl, hb, ?_, hr⟩⟩
    rw [ha g rfl]
    exact hg
theorem OwnI.slOf {w : World} {B n cap : Nat} {a0 : Option Addr} {xs : List Int} (h : OwnI w B (.slice a0 n cap) xs) : Sl w a0 xs := by
  obtain ⟨a1, c1, e, s⟩ := h.form
  simp only [Value.slice.injEq] at e
  obtain ⟨rfl, -, -⟩ := e
  exact s

/-- A state in block N, its lists rs and os in memory of their own, all from B on and below C. -/
structure Tl (w : World) (B C N : Nat) (p c : Int) (ra : Option Addr) (rn rc : Nat) (oa : Option Addr) (on oc : Nat) (rs os : List Int) : Prop where
  lo : B ≤ N
  hi : N < C
  sz : C ≤ w.heap.size
  box : BoxC w N (.int .i64 p) (.slice ra rn rc) (.slice oa on oc) (.int .i64 c)
  own : StOwn w B (stV p ra rn rc oa on oc c) p rs os c
  up : ∀ k, hasBlock (stV p ra rn rc oa on oc c) k → k < C
  ne : ¬ hasBlock (stV p ra rn rc oa on oc c) N

theorem Tl.tu {w w' : World} {B C N : Nat} {p c : Int} {ra : Option Addr} {rn rc : Nat} {oa : Option Addr} {on oc : Nat} {rs os : List Int} {lo hi : Nat} (h : Tl w B C N p c ra rn rc oa on oc rs os) (t : Tu lo hi w w') (hd : C ≤ lo ∨ hi ≤ B) : Tl w' B C N p c ra rn rc oa on oc rs os := by
  obtain ⟨h1, h2, h3, ⟨b0, b1, b2, b3⟩, h5, h6, h7⟩ := h
  have hb : ∀ k, B ≤ k → k < C → w'.heap[k]? = w.heap[k]? := fun k k1 k2 => t.block k (by omega) (by omega)
  have hN := hb N h1 h2
  refine ⟨h1, h2, Nat.le_trans h3 t.size, ⟨(World.cell?_of_block hN).trans b0, (World.cell?_of_block hN).trans b1, (World.cell?_of_block hN).trans b2, (World.cell?_of_block hN).trans b3⟩, ?_, h6, h7⟩
  obtain ⟨o1, o2, ha⟩ := h5.parts
  refine ⟨_, _, rfl, o1.ofBlock fun k hk => ?_, o2.ofBlock fun k hk => ?_, ha⟩
  · exact hb k (o1.lt k hk).1 (h6 k ((hasBlock_iff _ _ _ _ _).2 (.inl hk)))
  · exact hb k (o2.lt k hk).1 (h6 k ((hasBlock_iff _ _ _ _ _).2 (.inr hk)))
theorem Tl.below {w w' : World} {B C N : Nat} {p c : Int} {ra : Option Addr} {rn rc : Nat} {oa : Option Addr} {on oc : Nat} {rs os : List Int} (h : Tl w B C N p c ra rn rc oa on oc rs os) (hb : Below w.heap.size w w') : Tl w' B C N p c ra rn rc oa on oc rs os := h.tu (Tu.of_below hb) (.inr (Nat.zero_le _))
theorem Tl.sl {w : World} {B C N : Nat} {p c : Int} {ra : Option Addr} {rn rc : Nat} {oa : Option Addr} {on oc : Nat} {rs os : List Int} (h : Tl w B C N p c ra rn rc oa on oc rs os) : Sl w ra rs ∧ Sl w oa os := ⟨h.own.parts.1.slOf, h.own.parts.2.1.slOf⟩
theorem Tl.span {w : World} {B C N : Nat} {p c : Int} {ra : Option Addr} {rn rc : Nat} {oa : Option Addr} {on oc : Nat} {rs os : List Int} (h : Tl w B C N p c ra rn rc oa on oc rs os) : ∀ k, hasBlock (stV p ra rn rc oa on oc c) k → B ≤ k ∧ k < C := fun k hk => ⟨(h.own.lt hk).1, h.up k hk⟩
theorem Tl.marked {w w' : World} {B C N : Nat} {p c : Int} {ra : Option Addr} {rn rc : Nat} {oa : Option Addr} {on oc : Nat} {rs os rs' os' : List Int} (h : Tl w B C N p c ra rn rc oa on oc rs os) (ho : StOwn w' B (stV p ra rn rc oa on oc c) p rs' os' c) (hm : Marked (stV p ra rn rc oa on oc c) w w') : Tl w' B C N p c ra rn rc oa on oc rs' os' :=
  ⟨h.lo, h.hi, Nat.le_trans h.sz hm.size, h.box.marked hm h.ne, ho, h.up, h.ne⟩

theorem Tl.of_alloc {w : World} {B : Nat} {p c : Int} {ra oa : Option Addr} {rn rc on oc : Nat} {rs os : List Int} (h : StOwn w B (stV p ra rn rc oa on oc c) p rs os c) (hw : B ≤ w.heap.size) (t : TypeId) : Tl (w.alloc (.cells #[.int .i64 p, .slice ra rn rc, .slice oa on oc, .int .i64 c] t)) B (w.heap.size + 1) w.heap.size p c ra rn rc oa on oc rs os :=
  ⟨hw, Nat.lt_succ_self _, by simp, BoxC.new w _ _ _ _ _, h.below (below_alloc _ _), fun k hk => Nat.lt_succ_of_lt (h.lt hk).2, fun e => Nat.lt_irrefl _ (h.lt e).2⟩

/-- The state S stands in block N, its lists in memory of their own from B on. -/
def Told (w : World) (B N : Nat) (S : S4) : Prop := ∃ ra rc oa oc, BoxC w N (.int .i64 S.p) (.slice ra S.rs.length rc) (.slice oa S.os.length oc) (.int .i64 S.c) ∧ StOwn w B (stV S.p ra S.rs.length rc oa S.os.length oc S.c) S.p S.rs S.os S.c ∧ B ≤ N ∧ ¬ hasBlock (stV S.p ra S.rs.length rc oa S.os.length oc S.c) N
theorem Told.tl {w : World} {B N : Nat} {S : S4} (h : Told w B N S) : ∃ ra rc oa oc, Tl w B w.heap.size N S.p S.c ra S.rs.length rc oa S.os.length oc S.rs S.os := by
  obtain ⟨ra, rc, oa, oc, h1, h2, h3, h4⟩ := h
  exact ⟨ra, rc, oa, oc, h3, World.block_lt_of_cell? w _ h1.1, Nat.le_refl _, h1, h2, fun k hk => (h2.lt hk).2, h4⟩
theorem BoxC.set4 {w : World} {N : Nat} {z0 z1 z2 z3 : Value} (h : BoxC w N z0 z1 z2 z3) (a b c d : Value) : BoxC ((((w.setCell ⟨N, 0, none⟩ a).setCell ⟨N, 1, none⟩ b).setCell ⟨N, 2, none⟩ c).setCell ⟨N, 3, none⟩ d) N a b c d := by
  obtain ⟨h0, h1, h2, h3⟩ := h
  exact ⟨by go_cell, by go_cell, by go_cell, by go_cell⟩
theorem grown4 (w : World) (N : Nat) (a b c d : Value) : w.grownBy ((((w.setCell ⟨N, 0, none⟩ a).setCell ⟨N, 1, none⟩ b).setCell ⟨N, 2, none⟩ c).setCell ⟨N, 3, none⟩ d) (some N) := by
  repeat (refine grown_setCell ?_ (.inl rfl) _)
  exact World.grownBy.refl _ _
theorem Told.of_alloc {w : World} {B B' : Nat} {S : S4} {ra oa : Option Addr} {rc oc : Nat} (h : StOwn w B' (stV S.p ra S.rs.length rc oa S.os.length oc S.c) S.p S.rs S.os S.c) (hB : B ≤ B') (hw : B ≤ w.heap.size) (t : TypeId) : Told (w.alloc (.cells #[.int .i64 S.p, .slice ra S.rs.length rc, .slice oa S.os.length oc, .int .i64 S.c] t)) B w.heap.size S := by
  refine ⟨ra, rc, oa, oc, BoxC.new w _ _ _ _ _, ?_, hw, fun e => Nat.lt_irrefl _ (h.lt e).2⟩
  obtain ⟨vr, vo, e, o1, o2, ha⟩ := h
  exact ⟨vr, vo, e, (o1.below (below_alloc _ _)).mono hB, (o2.below (below_alloc _ _)).mono hB, ha⟩
theorem Told.of_put {w : World} {B B' N : Nat} {S : S4} {ra oa : Option Addr} {rc oc : Nat} {z0 z1 z2 z3 : Value} (h : StOwn w B' (stV S.p ra S.rs.length rc oa S.os.length oc S.c) S.p S.rs S.os S.c) (hB : B ≤ B') (hN : N < B') (hw : B ≤ N) (hZ : BoxC w N z0 z1 z2 z3) : Told ((((w.setCell ⟨N, 0, none⟩ (.int .i64 S.p)).setCell ⟨N, 1, none⟩ (.slice ra S.rs.length rc)).setCell ⟨N, 2, none⟩ (.slice oa S.os.length oc)).setCell ⟨N, 3, none⟩ (.int .i64 S.c)) B N S :=
  ⟨ra, rc, oa, oc, hZ.set4 _ _ _ _, h.put4 hN hB, hw, fun e => Nat.not_le_of_lt hN (h.lt e).1⟩

/-- The law's own state and event stand in their blocks, and nothing old has turned. -/
def Dx (w wr : World) (p code : Int) (ra : Option Addr) (rn rc : Nat) (oa : Option Addr) (on oc : Nat) (ek eq ev : Int) : Prop :=
  Below w.heap.size w wr ∧ BoxC wr w.heap.size (.int .i64 p) (.slice ra rn rc) (.slice oa on oc) (.int .i64 code) ∧ EvC3 wr (w.heap.size + 1) ek eq ev
theorem Dx.step {w wr wr' : World} {p code : Int} {ra : Option Addr} {rn rc : Nat} {oa : Option Addr} {on oc : Nat} {ek eq ev : Int} (h : Dx w wr p code ra rn rc oa on oc ek eq ev) (hb : Below wr.heap.size wr wr') : Dx w wr' p code ra rn rc oa on oc ek eq ev :=
  ⟨h.1.trans (hb.mono h.1.size), h.2.1.below hb, h.2.2.below hb⟩
theorem Dx.new (w : World) (p code : Int) (ra : Option Addr) (rn rc : Nat) (oa : Option Addr) (on oc : Nat) (ek eq ev : Int) (t u : TypeId) : Dx w ((w.alloc (.cells #[.int .i64 p, .slice ra rn rc, .slice oa on oc, .int .i64 code] t)).alloc (.cells #[.int .i64 ek, .int .i64 eq, .int .i64 ev] u)) p code ra rn rc oa on oc ek eq ev := by
  refine ⟨((Below.refl _ _).alloc (Nat.le_refl _) _).alloc (by simp) _, (BoxC.new w _ _ _ _ _).below (below_alloc _ _), ?_⟩
  have := EvC3.new (w.alloc (.cells #[.int .i64 p, .slice ra rn rc, .slice oa on oc, .int .i64 code] t)) ek eq ev u
  rw [World.size_alloc] at this
  exact this
theorem Dx.lt {w wr : World} {p code : Int} {ra : Option Addr} {rn rc : Nat} {oa : Option Addr} {on oc : Nat} {ek eq ev : Int} (h : Dx w wr p code ra rn rc oa on oc ek eq ev) : w.heap.size + 1 < wr.heap.size := World.block_lt_of_cell? wr _ h.2.2.1
theorem Dx.put {w wr : World} {p code : Int} {ra : Option Addr} {rn rc : Nat} {oa : Option Addr} {on oc : Nat} {ek eq ev : Int} (h : Dx w wr p code ra rn rc oa on oc ek eq ev) {N : Nat} (hN : w.heap.size + 1 < N) (a b c d : Value) : Dx w ((((wr.setCell ⟨N, 0, none⟩ a).setCell ⟨N, 1, none⟩ b).setCell ⟨N, 2, none⟩ c).setCell ⟨N, 3, none⟩ d) p code ra rn rc oa on oc ek eq ev := by
  have gz := grown4 wr N a b c d
  have hl := h.lt
  have e0 := gcell gz (b := w.heap.size) (by omega) (by simp; omega)
  have e1 := gcell gz (b := w.heap.size + 1) (by omega) (by simp; omega)
  obtain ⟨h1, ⟨c0, c1, c2, c3⟩, ⟨v0, v1, v2⟩⟩ := h
  exact ⟨h1.trans ⟨gz.os, gz.tape, gz.output, gz.size, fun k hk => gz.block k (by omega) (by simp; omega)⟩, ⟨(e0.1 0).trans c0, (e0.1 1).trans c1, (e0.1 2).trans c2, (e0.1 3).trans c3⟩, ⟨(e1.1 0).trans v0, (e1.1 1).trans v1, (e1.1 2).trans v2⟩⟩
theorem Dx.tu {w wr wr' : World} {p code : Int} {ra : Option Addr} {rn rc : Nat} {oa : Option Addr} {on oc : Nat} {ek eq ev : Int} {lo hi : Nat} (h : Dx w wr p code ra rn rc oa on oc ek eq ev) (t : Tu lo hi wr wr') (hl : w.heap.size + 2 ≤ lo) : Dx w wr' p code ra rn rc oa on oc ek eq ev := by
  have hlt := h.lt
  obtain ⟨h1, ⟨c0, c1, c2, c3⟩, ⟨v0, v1, v2⟩⟩ := h
  have e0 : wr'.heap[w.heap.size]? = wr.heap[w.heap.size]? := t.block _ (by omega) (.inl (by omega))
  have e1 : wr'.heap[w.heap.size + 1]? = wr.heap[w.heap.size + 1]? := t.block _ (by omega) (.inl (by omega))
  exact ⟨h1.trans (t.below h1.size (by omega)), ⟨(World.cell?_of_block e0).trans c0, (World.cell?_of_block e0).trans c1, (World.cell?_of_block e0).trans c2, (World.cell?_of_block e0).trans c3⟩, ⟨(World.cell?_of_block e1).trans v0, (World.cell?_of_block e1).trans v1, (World.cell?_of_block e1).trans v2⟩⟩

end Go.Proofs.YtcmmlklanjhfoaaGreatDoor
