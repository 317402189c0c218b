/- Lists of events of a draw's own. -/
import Derived.Test.YtmbmhpginegggaaRpA
import Derived.Test.YtmbmhpginegggaaDrawE
import Derived.Test.YtmbmhpginegggaaDjL
import Derived.Test.YtmbmhpginegggaaDoH
namespace Go.Proofs.Ytmbmhpginegggaa
open Go.RowKit

/-- The slice v is n events in a block of its own, from block B on. -/
def LstE (w : World) (B : Nat) (v : Value) (n : Nat) : Prop := ∃ xs, w.ownsRow B 29 3 v n xs ∧ xs.all isI = true ∧ v ≠ .slice none 0 0

theorem LstE.ofBlock {w w' : World} {B n : Nat} {v : Value} (h : LstE w B v n) (ha : ∀ k, v.ownBlock = some k → w'.heap[k]? = w.heap[k]?) : LstE w' B v n := by
  obtain ⟨xs, ho, hx⟩ := h
  refine ⟨xs, ?_, hx⟩
  rcases ho.2 with ⟨rfl, h0⟩ | ⟨g, cap, cur, rfl, hb, hg, hr⟩
  · exact ⟨ho.1, .inl ⟨rfl, h0⟩⟩
  · refine ⟨ho.1, .inr ⟨g, cap, cur, rfl, hb, ?_, hr⟩⟩
    rw [ha g rfl]
    exact hg
theorem LstE.mono {w : World} {B B' n : Nat} {v : Value} (h : LstE w B v n) (hb : B' ≤ B) : LstE w B' v n := by
  obtain ⟨xs, ho, hx⟩ := h
  exact ⟨xs, ho.mono hb, hx⟩
theorem LstE.lt {w : World} {B n : Nat} {v : Value} (h : LstE w B v n) : ∀ j, v.ownBlock = some j → B ≤ j ∧ j < w.heap.size := by
  obtain ⟨xs, ho, hx⟩ := h
  exact fun j hj => ho.lt j hj
theorem LstE.kept {w w' : World} {B n : Nat} {v : Value} {row : Option Nat} (h : LstE w B v n) (hg : w.grownBy w' row) (hr : ∀ k, row = some k → v.ownBlock ≠ some k) : LstE w' B v n :=
  h.ofBlock fun k hk => hg.block k (h.lt k hk).2 (fun e => hr k e.symm hk)
theorem LstE.below {w w' : World} {B n : Nat} {v : Value} (h : LstE w B v n) (hb : Below w.heap.size w w') : LstE w' B v n := h.ofBlock fun k hk => hb.block k (h.lt k hk).2
theorem LstE.empty (w : World) : LstE (w.alloc (.cells #[] 29)) w.heap.size (.slice (some ⟨w.heap.size, 0, none⟩) 0 0) 0 :=
  ⟨[], World.ownsRow_lit w #[] 0 (Nat.le_refl _) (by unfold maxLen; omega) rfl, rfl, by simp⟩
theorem LstE.form {w : World} {B n : Nat} {v : Value} (h : LstE w B v n) : ∃ g cap, v = .slice (some ⟨g, 0, none⟩) n cap ∧ B ≤ g ∧ g < w.heap.size := by
  obtain ⟨xs, ho, hx, hv⟩ := h
  rcases ho.2 with ⟨h0, _⟩ | ⟨g, cap, cur, rfl, hb, _⟩
  · exact absurd h0 hv
  · exact ⟨g, cap, rfl, hb, (ho.lt g rfl).2⟩
theorem LstE.at {w : World} {B n g cap : Nat} (h : LstE w B (.slice (some ⟨g, 0, none⟩) n cap) n) : ∃ G, EvAt w g 0 n G := by
  obtain ⟨xs, ho, hx, -⟩ := h
  have hall := List.all_eq_true.1 hx
  have key : ∀ j, j < n * 3 → ∃ x : Int, w.cell? ⟨g, j, none⟩ = some (.int .i64 x) := by
    intro j hj
    have hl : j < xs.length := by rw [ho.1]; exact hj
    obtain ⟨x, hxx⟩ := isI_int (hall xs[j] (List.getElem_mem hl))
    exact ⟨x, by rw [ho.cellAt j hj, List.getElem?_eq_getElem hl, hxx]⟩
  have inh : Inhabited Int := ⟨0⟩
  obtain ⟨f, hf⟩ := Go.Deep.choose_lt (α := Int) key
  refine ⟨fun i => ⟨f (i * 3), f (i * 3 + 1), f (i * 3 + 2)⟩, fun i hi => ?_⟩
  simp only [Nat.zero_add]
  exact ⟨hf _ (by omega), hf _ (by omega), hf _ (by omega)⟩

theorem info_ev : ∃ i, Try.prog.info? 29 = some i ∧ i.zero = some (evV 0 0 0) ∧ i.size = 3 ∧ i.bytes = 24 := by
  have hinfo := infoEv
  cases hi : Try.prog.info? 29 with
  | none => rw [hi] at hinfo; cases hinfo
  | some i =>
    rw [hi] at hinfo
    simp only [Option.map_some, Option.some.injEq, Prod.mk.injEq] at hinfo
    exact ⟨i, rfl, hinfo⟩
theorem cell_three_new (w : World) (a b c : Value) (t : TypeId) : ∀ j u, [a, b, c][j]? = some u → (w.alloc (.cells #[a, b, c] t)).cell? ((⟨w.heap.size, 0, none⟩ : Addr).add j) = some u := by
  intro j u hj
  match j, hj with
  | 0, hj => simp at hj; subst hj; simp [Addr.add]
  | 1, hj => simp at hj; subst hj; simp [Addr.add]
  | 2, hj => simp at hj; subst hj; simp [Addr.add]
  | j + 3, hj => simp at hj

/-- One event is appended to a list of the draw's own. -/
theorem append_evt {ops : Array Oper} {rest : List Oper} {op : Oper} {act : Act} {Q : Exit → Act → World → Prop} (w : World) (hgd : op.guard = none) (s x : Operand)
    (ho : op.op = .call { callee := .builtin .append, args := #[s, x], argTypes := #[37, 37] })
    (B : Nat) (v : Value) (n : Nat) (hs : act.eval s = v) (hl : LstE w B v n) (k q y : Int) (hx : act.eval x = .slice (some ⟨w.heap.size, 0, none⟩) 1 1) (hn : n ≤ 1000) (hB : B ≤ w.heap.size)
    (h : ∀ v' w', LstE w' B v' (n + 1) → w.grownBy w' v.ownBlock → (∀ j, v'.ownBlock = some j → v.ownBlock = some j ∨ w.heap.size ≤ j) → wpList Try.prog ops Q rest (act.put op.dst v') w') :
    wpList Try.prog ops Q (op :: rest) act (w.alloc (.cells #[.int .i64 k, .int .i64 q, .int .i64 y] 29)) := by
  obtain ⟨i0, hi, hz0, hz1, hz2⟩ := info_ev
  obtain ⟨xs, how, hxs, hvn⟩ := hl
  have hb : Below w.heap.size w (w.alloc (.cells #[.int .i64 k, .int .i64 q, .int .i64 y] 29)) := below_alloc _ _
  obtain ⟨v', w', h1, h2, h3, h4, h5⟩ := run_append_own_at (P := Try.prog) (w.alloc (.cells #[.int .i64 k, .int .i64 q, .int .i64 y] 29)) B 37 op.type 29 i0 (evV 0 0 0) 3 24 Try.underlying37 hi hz0 hz1 hz2 rfl (by decide) v n xs (how.alloc _) ⟨w.heap.size, 0, none⟩ 1 1 [.int .i64 k, .int .i64 q, .int .i64 y] rfl (cell_three_new _ _ _ _ _) (fun u hu => by
    simp at hu
    rcases hu with rfl | rfl | rfl <;> rfl) (by unfold maxLen; omega) (by omega) (by simp; omega)
  refine wpList_plain hgd fun K hK => ?_
  unfold Oper.wp execOp
  simp only [ho, resolve, invoke, builtin, Sem.run_bind, Sem.run_pure, Result.andThen_ok, List.map_toArray, List.map_cons, List.map_nil, hs, hx, h1]
  refine hK _ _ (h v' w' ⟨_, h2, ?_, fun e => hvn (h4.1 e).1⟩ ⟨h3.os, h3.tape, h3.output, Nat.le_trans hb.size h3.size, fun j hj hne => (h3.block j (Nat.lt_of_lt_of_le hj hb.size) hne).trans (hb.block j hj)⟩ fun j hj => ?_)
  · rw [List.all_append, hxs]
    rfl
  · rcases h5 with a | a
    · exact .inl (a.symm.trans hj)
    · rw [hj] at a
      simp only [Option.some.injEq] at a
      right
      rw [a]
      simp

set_option maxRecDepth 100000 in
set_option maxHeartbeats 1000000 in
theorem specStateNew_any (w : World) :
    Calls Try.prog 81 #[] w fun e w' => ∃ v, e = .returned v ∧ StOwn w' w.heap.size v 0 [0, 0, 0, 0] [] 0 ∧ Below w.heap.size w w' := by
  have hmk : ∀ w : World, (Instr.makeSlice 25 (.int .i64 4) (.int .i64 4)).run Try.prog w = .ok (.slice (some ⟨w.heap.size, 0, none⟩) 4 4) (w.alloc (.cells (madeCells #[.int .i64 0] 4) 3)) := fun w => run_make_int 4 (by omega) w
  have HM : Hid (∀ w : World, OwnI (w.alloc (.cells (madeCells #[.int .i64 0] 4) 3)) w.heap.size (.slice (some ⟨w.heap.size, 0, none⟩) 4 4) [0, 0, 0, 0]) := fun w => made_own w 4 (by omega)
  go_enter Try.func81, Try.ntmps81
  go_wp2
  have hB : w.heap.size ≤ w.heap.size + 1 := by omega
  have hM := HM.out (w.alloc (.cells #[.int .i64 0, .slice (some ⟨w.heap.size + 1, 0, none⟩) 4 4, .slice none 0 0, .int .i64 0] 27))
  rw [World.size_alloc] at hM
  refine bodyPost_ret (v := stV 0 (some ⟨w.heap.size + 1, 0, none⟩) 4 4 none 0 0 0) (by simp [results, Try.results81, go_sem]) rfl ⟨_, rfl, ⟨_, _, rfl, hM.mono hB, World.ownsRow_nil _ _ _ _, fun k _ => by simp [Value.ownBlock]⟩, by go_grown⟩

end Go.Proofs.Ytmbmhpginegggaa
