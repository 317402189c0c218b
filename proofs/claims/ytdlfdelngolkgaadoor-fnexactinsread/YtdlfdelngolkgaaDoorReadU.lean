/- The walk of the model's InsRead. -/
import Derived.Test.YtdlfdelngolkgaaDoorReadU0
import Derived.RegionTactic
namespace Go.Proofs.YtdlfdelngolkgaaDoor
open Go.RowKit Go.Sort

/-- Block N is five cells that hold x. -/
def Cell5 (w : World) (N : Nat) (x : J5) : Prop := w.heap[N]? = some (.cells #[.int .i64 x.o, .int .i64 x.r, .int .i64 x.a, .int .i64 x.b, .int .i64 x.n] 25 (0, 0))
theorem Cell5.cells {w : World} {N : Nat} {x : J5} (h : Cell5 w N x) : w.cell? ⟨N, 0, none⟩ = some (.int .i64 x.o) ∧ w.cell? ⟨N, 1, none⟩ = some (.int .i64 x.r) ∧ w.cell? ⟨N, 2, none⟩ = some (.int .i64 x.a) ∧ w.cell? ⟨N, 3, none⟩ = some (.int .i64 x.b) ∧ w.cell? ⟨N, 4, none⟩ = some (.int .i64 x.n) ∧ w.frozen? ⟨N, 0, none⟩ = false ∧ w.frozen? ⟨N, 1, none⟩ = false ∧ w.frozen? ⟨N, 2, none⟩ = false ∧ w.frozen? ⟨N, 3, none⟩ = false ∧ w.frozen? ⟨N, 4, none⟩ = false := by
  unfold Cell5 at h
  simp [World.cell?, World.frozen?, h]
theorem Cell5.below {w w' : World} {B N : Nat} {x : J5} (h : Cell5 w N x) (hb : Below B w w') (hB : N < B) : Cell5 w' N x := (hb.block N hB).trans h

theorem Cell5.op {w : World} {N : Nat} {o r a b n : Int} (h : Cell5 w N ⟨o, r, a, b, n⟩) (k : Int) : Cell5 (w.setCell ⟨N, 0, none⟩ (.int .i64 k)) N ⟨k, r, a, b, n⟩ := by
  rw [Cell5, heap_setCell_same _ _ _ _ _ _ h]
  simp

/-- Only block N has changed. -/
def SameBut (N : Nat) (w w' : World) : Prop := w'.heap.size = w.heap.size ∧ ∀ b, b ≠ N → w'.heap[b]? = w.heap[b]?
theorem SameBut.refl (N : Nat) (w : World) : SameBut N w w := ⟨rfl, fun _ _ => rfl⟩
theorem SameBut.set {N : Nat} {w w' : World} (h : SameBut N w w') (i : Nat) (u : Value) : SameBut N w (w'.setCell ⟨N, i, none⟩ u) :=
  ⟨by rw [World.size_setCell]; exact h.1, fun b hb => (heap_setCell_other _ _ _ _ hb).trans (h.2 b hb)⟩
theorem SameBut.cell {N : Nat} {w w' : World} (h : SameBut N w w') {b i : Nat} (hb : b ≠ N) : w'.cell? ⟨b, i, none⟩ = w.cell? ⟨b, i, none⟩ := World.cell?_of_block (h.2 b hb)

theorem Cell5.r {w : World} {N : Nat} {o r a b n : Int} (h : Cell5 w N ⟨o, r, a, b, n⟩) (k : Int) : Cell5 (w.setCell ⟨N, 1, none⟩ (.int .i64 k)) N ⟨o, k, a, b, n⟩ := by
  rw [Cell5, heap_setCell_same _ _ _ _ _ _ h]
  simp
theorem Cell5.a {w : World} {N : Nat} {o r a b n : Int} (h : Cell5 w N ⟨o, r, a, b, n⟩) (k : Int) : Cell5 (w.setCell ⟨N, 2, none⟩ (.int .i64 k)) N ⟨o, r, k, b, n⟩ := by
  rw [Cell5, heap_setCell_same _ _ _ _ _ _ h]
  simp
theorem Cell5.b {w : World} {N : Nat} {o r a b n : Int} (h : Cell5 w N ⟨o, r, a, b, n⟩) (k : Int) : Cell5 (w.setCell ⟨N, 3, none⟩ (.int .i64 k)) N ⟨o, r, a, k, n⟩ := by
  rw [Cell5, heap_setCell_same _ _ _ _ _ _ h]
  simp
theorem Cell5.n {w : World} {N : Nat} {o r a b n : Int} (h : Cell5 w N ⟨o, r, a, b, n⟩) (k : Int) : Cell5 (w.setCell ⟨N, 4, none⟩ (.int .i64 k)) N ⟨o, r, a, b, k⟩ := by
  rw [Cell5, heap_setCell_same _ _ _ _ _ _ h]
  simp

/-- From W0 to W only block N has changed; it holds x. -/
structure Upd (w : World) (N : Nat) (x : J5) (W0 W : World) : Prop where
  same : SameBut N W0 W
  cell : Cell5 W N x
  below : Below w.heap.size w W
theorem Upd.r {w W0 W : World} {N : Nat} {o r a b n : Int} (h : Upd w N ⟨o, r, a, b, n⟩ W0 W) (hN : w.heap.size ≤ N) (k : Int) : Upd w N ⟨o, k, a, b, n⟩ W0 (W.setCell ⟨N, 1, none⟩ (.int .i64 k)) := ⟨h.same.set _ _, h.cell.r k, h.below.setCell hN _⟩
theorem Upd.a {w W0 W : World} {N : Nat} {o r a b n : Int} (h : Upd w N ⟨o, r, a, b, n⟩ W0 W) (hN : w.heap.size ≤ N) (k : Int) : Upd w N ⟨o, r, k, b, n⟩ W0 (W.setCell ⟨N, 2, none⟩ (.int .i64 k)) := ⟨h.same.set _ _, h.cell.a k, h.below.setCell hN _⟩
theorem Upd.b {w W0 W : World} {N : Nat} {o r a b n : Int} (h : Upd w N ⟨o, r, a, b, n⟩ W0 W) (hN : w.heap.size ≤ N) (k : Int) : Upd w N ⟨o, r, a, k, n⟩ W0 (W.setCell ⟨N, 3, none⟩ (.int .i64 k)) := ⟨h.same.set _ _, h.cell.b k, h.below.setCell hN _⟩
theorem Upd.n {w W0 W : World} {N : Nat} {o r a b n : Int} (h : Upd w N ⟨o, r, a, b, n⟩ W0 W) (hN : w.heap.size ≤ N) (k : Int) : Upd w N ⟨o, r, a, b, k⟩ W0 (W.setCell ⟨N, 4, none⟩ (.int .i64 k)) := ⟨h.same.set _ _, h.cell.n k, h.below.setCell hN _⟩
theorem Upd.call {w W0 W W' : World} {N R : Nat} {x : J5} (h : Upd w N x W0 W) (hr : Cell5 W0 R zero5) (hb : Below W.heap.size W W') (hne : R ≠ N) (hN : N < W0.heap.size) (hR : R < W0.heap.size) : Cell5 W' N x ∧ Cell5 W' R zero5 ∧ Below w.heap.size w W' ∧ N < W'.heap.size := by
  have h1 := h.same.1
  have h2 := hb.size
  exact ⟨h.cell.below hb (by omega), Cell5.below ((h.same.2 R hne).trans hr) hb (by omega), h.below.trans (hb.mono h.below.size), by omega⟩

/-- Three noughts are appended to a list of the call's own. -/
theorem append_int3 {ops : Array Oper} {rest : List Oper} {op : Oper} {act : Act} {Q : Exit → Act → World → Prop} (w : World) (hgd : op.guard = none) (s x : Operand)
    (ho : op.op = .call { callee := .builtin .append, args := #[s, x], argTypes := #[49, 49] })
    (B : Nat) (v : Value) (ns : List Int) (hs : act.eval s = v) (hl : Nums w B v ns) (hx : act.eval x = .slice (some ⟨w.heap.size, 0, none⟩) 3 3) (hn : ns.length ≤ 2000000) (hB : B ≤ w.heap.size)
    (h : ∀ v' w', Nums w' B v' (ns ++ [0, 0, 0]) → (w.alloc (.cells #[.int .i64 0, .int .i64 0, .int .i64 0] 3)).grownBy w' v.ownBlock → wpList Tryd.prog ops Q rest (act.put op.dst v') w') :
    wpList Tryd.prog ops Q (op :: rest) act (w.alloc (.cells #[.int .i64 0, .int .i64 0, .int .i64 0] 3)) := by
  obtain ⟨i0, hi, hz0, hz1, hz2⟩ := info_parts infoInt
  refine wpList_append_own _ hgd s x 49 ho B 3 i0 (.int .i64 0) 1 8 Tryd.underlying49 hi hz0 hz1 hz2 rfl (by decide) v ns.length (ns.map (Value.int .i64)) hs (hl.alloc _) ⟨w.heap.size, 0, none⟩ 3 3
    [.int .i64 0, .int .i64 0, .int .i64 0] hx rfl (fun j u hu => ?_) (fun u hu => ?_) (by unfold maxLen; omega) (by omega) (by simp; omega) ?_
  · match j, hu with
    | 0, hu => simpa [Addr.add] using hu
    | 1, hu => simpa [Addr.add] using hu
    | 2, hu => simpa [Addr.add] using hu
    | j + 3, hu => simp at hu
  · simp at hu
    subst hu
    rfl
  · intro v' w' h1 h2 _
    refine h v' w' ?_ h2
    rw [Nums, List.length_append, List.map_append]
    exact h1
theorem nums_lie {w : World} {B : Nat} {v : Value} {ns : List Int} (h : Nums w B v ns) (hp : 0 < ns.length) : ∃ g cap, v = .slice (some ⟨g, 0, none⟩) ns.length cap ∧ B ≤ g ∧ g < w.heap.size ∧ (∀ j, j < ns.length → w.cell? ⟨g, j, none⟩ = some (.int .i64 (ns.getD j 0))) := by
  obtain ⟨g, cap, h1, h2, h3⟩ := h.lies hp
  refine ⟨g, cap, h1, ?_, h2, fun j hj => ?_⟩
  · have := h.lt g (by rw [h1]; rfl)
    exact this.1
  · rw [h3 j hj, List.getD_eq_getElem?_getD, List.getElem?_eq_getElem hj]
    rfl

theorem tail_facts {w7 : World} {B : Nat} {v' : Value} {ns : List Int} {s : ByteArray} {o : Int} (hl7 : Nums w7 B v' (ns ++ [0, 0, 0])) (hn : ns.length ≤ 4) (hs : ∀ y, ReadOf s y → ns = args5 y) (ho : OpTo s 12 o) :
    ∃ (g c L : Nat) (m0 m1 m2 : Int), v' = .slice (some ⟨g, 0, none⟩) L c ∧ B ≤ g ∧ g < w7.heap.size ∧ 3 ≤ L ∧ L ≤ 7 ∧ w7.cell? ⟨g, 0, none⟩ = some (.int .i64 m0) ∧ w7.cell? ⟨g, 1, none⟩ = some (.int .i64 m1) ∧ w7.cell? ⟨g, 2, none⟩ = some (.int .i64 m2) ∧ (∀ y, ReadOf s y → insS o m0 m1 m2 = y) := by
  have hl : (ns ++ [0, 0, 0]).length = ns.length + 3 := by simp
  obtain ⟨g, c, h1, h2, h3, h4⟩ := nums_lie hl7 (by omega)
  refine ⟨g, c, _, _, _, _, h1, h2, h3, by omega, by omega, h4 0 (by omega), h4 1 (by omega), h4 2 (by omega), fun y hy => ?_⟩
  rw [hs y hy, ho.done hy]
  exact insS_read hy

/-- Where the walk stands still, at an append. -/
def STOP (p : Prop) : Prop := p
theorem append_stop {P : Program} {ops : Array Oper} {rest : List Oper} {op : Oper} {act : Act} {Q : Exit → Act → World → Prop} {w : World} {a : Array Operand} {t : Array TypeId} (_ : op.op = .call { callee := .builtin .append, args := a, argTypes := t }) (h : STOP (wpList P ops Q (op :: rest) act w)) : wpList P ops Q (op :: rest) act w := h

/-- The op of the last word below k that is x. -/
def opTo (x : ByteArray) : Nat → Int
  | 0 => 0
  | k + 1 => if 1 ≤ k ∧ wordT k = x then (k : Int) else opTo x k
theorem opTo_hit {x : ByteArray} {k : Nat} (h1 : 1 ≤ k) (h : wordT k = x) : opTo x (k + 1) = k := by rw [opTo, if_pos ⟨h1, h⟩]
theorem opTo_miss {x : ByteArray} {k : Nat} (h : ¬ wordT k = x) : opTo x (k + 1) = opTo x k := by rw [opTo, if_neg (fun e => h e.2)]
theorem opTo_range (x : ByteArray) : ∀ k, k ≤ 12 → 0 ≤ opTo x k ∧ opTo x k ≤ 11
  | 0, _ => by simp [opTo]
  | k + 1, h => by
    have := opTo_range x k (by omega)
    rw [opTo]
    split
    · omega
    · exact this
theorem opTo_empty {s : ByteArray} (h : s.data.toList = []) : opTo (wd s 0) 12 = 0 := by
  have hw : wd s 0 = ⟨#[]⟩ := by
    have h1 := words_all s
    rw [words_tail, h] at h1
    simp only [wordsOf, List.cons.injEq] at h1
    exact bytes_ext h1.1.symm
  rw [hw]
  decide

end Go.Proofs.YtdlfdelngolkgaaDoor
