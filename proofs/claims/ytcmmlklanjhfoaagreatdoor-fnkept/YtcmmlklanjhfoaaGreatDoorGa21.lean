/- What stands between the rounds of a draw of events. -/
import Derived.Test.YtcmmlklanjhfoaaGreatDoorGa17
import Derived.Test.YtcmmlklanjhfoaaGreatDoorGa19
import Derived.Test.YtcmmlklanjhfoaaGreatDoorGa15
import Derived.Test.YtcmmlklanjhfoaaGreatDoorGa20
namespace Go.Proofs.YtcmmlklanjhfoaaGreatDoor
open Go.RowKit

/-- The slice v is n events in a block of its own, from block B on. -/
def LstE (w : World) (B : Nat) (v : Value) (n : Nat) : Prop := ∃ xs, w.ownsRow B 62 3 v n xs ∧ xs.all isI = true ∧ v ≠ .slice none 0 0

theorem LstE.ofBlock {w w' : World} {B n : Nat} {v : Value} (h : LstE w B v n) (ha : ∀ k, v.ownBlock = some k → w'.heap[k]? = w.heap[k]?) : LstE w' B v n := by
  obtain ⟨xs, ho, hx⟩ := h
  refine ⟨xs, ?_, hx⟩
  rcases ho.2 with ⟨rfl, h0⟩ | ⟨g, cap, cur, rfl, hb, hg, hr⟩
  · exact ⟨ho.1, .inl ⟨rfl, h0⟩⟩
  · refine ⟨ho.1, .inr ⟨g, cap, cur, rfl, hb, ?_, hr⟩⟩
    rw [ha g rfl]
    exact hg
theorem LstE.mono {w : World} {B B' n : Nat} {v : Value} (h : LstE w B v n) (hb : B' ≤ B) : LstE w B' v n := by
  obtain ⟨xs, ho, hx⟩ := h
  exact ⟨xs, ho.mono hb, hx⟩
theorem LstE.lt {w : World} {B n : Nat} {v : Value} (h : LstE w B v n) : ∀ j, v.ownBlock = some j → B ≤ j ∧ j < w.heap.size := by
  obtain ⟨xs, ho, hx⟩ := h
  exact fun j hj => ho.lt j hj
theorem LstE.kept {w w' : World} {B n : Nat} {v : Value} {row : Option Nat} (h : LstE w B v n) (hg : w.grownBy w' row) (hr : ∀ k, row = some k → v.ownBlock ≠ some k) : LstE w' B v n :=
  h.ofBlock fun k hk => hg.block k (h.lt k hk).2 (fun e => hr k e.symm hk)
theorem LstE.below {w w' : World} {B n : Nat} {v : Value} (h : LstE w B v n) (hb : Below w.heap.size w w') : LstE w' B v n := h.ofBlock fun k hk => hb.block k (h.lt k hk).2
theorem LstE.empty (w : World) : LstE (w.alloc (.cells #[] 62)) w.heap.size (.slice (some ⟨w.heap.size, 0, none⟩) 0 0) 0 :=
  ⟨[], World.ownsRow_lit w #[] 0 (Nat.le_refl _) (by unfold maxLen; omega) rfl, rfl, by simp⟩
theorem LstE.form {w : World} {B n : Nat} {v : Value} (h : LstE w B v n) : ∃ g cap, v = .slice (some ⟨g, 0, none⟩) n cap ∧ B ≤ g ∧ g < w.heap.size := by
  obtain ⟨xs, ho, hx, hv⟩ := h
  rcases ho.2 with ⟨h0, _⟩ | ⟨g, cap, cur, rfl, hb, _⟩
  · exact absurd h0 hv
  · exact ⟨g, cap, rfl, hb, (ho.lt g rfl).2⟩
theorem LstE.at {w : World} {B n g cap : Nat} (h : LstE w B (.slice (some ⟨g, 0, none⟩) n cap) n) : ∃ G, EvAt w g 0 n G := by
  obtain ⟨xs, ho, hx, -⟩ := h
  have hall := List.all_eq_true.1 hx
  have key : ∀ j, j < n * 3 → ∃ x : Int, w.cell? ⟨g, j, none⟩ = some (.int .i64 x) := by
    intro j hj
    have hl : j < xs.length := by rw [ho.1]; exact hj
    obtain ⟨x, hxx⟩ := isI_int (hall xs[j] (List.getElem_mem hl))
    exact ⟨x, by rw [ho.cellAt j hj, List.getElem?_eq_getElem hl, hxx]⟩
  have inh : Inhabited Int := ⟨0⟩
  obtain ⟨f, hf⟩ := Go.Deep.choose_lt (α := Int) key
  refine ⟨fun i => ⟨f (i * 3), f (i * 3 + 1), f (i * 3 + 2)⟩, fun i hi => ?_⟩
  simp only [Nat.zero_add]
  exact ⟨hf _ (by omega), hf _ (by omega), hf _ (by omega)⟩

theorem info_ev : ∃ i, Tryz.prog.info? 62 = some i ∧ i.zero = some (evV 0 0 0) ∧ i.size = 3 ∧ i.bytes = 24 := by
  have hinfo := infoEv
  cases hi : Tryz.prog.info? 62 with
  | none => rw [hi] at hinfo; cases hinfo
  | some i =>
    rw [hi] at hinfo
    simp only [Option.map_some, Option.some.injEq, Prod.mk.injEq] at hinfo
    exact ⟨i, rfl, hinfo⟩
theorem cell_three_new (w : World) (a b c : Value) (t : TypeId) : ∀ j u, [a, b, c][j]? = some u → (w.alloc (.cells #[a, b, c] t)).cell? ((⟨w.heap.size, 0, none⟩ : Addr).add j) = some u := by
  intro j u hj
  match j, hj with
  | 0, hj => simp at hj; subst hj; simp [Addr.add]
  | 1, hj => simp at hj; subst hj; simp [Addr.add]
  | 2, hj => simp at hj; subst hj; simp [Addr.add]
  | j + 3, hj => simp at hj

/-- One event is appended to a list of the draw's own. -/
theorem append_evt {ops : Array Oper} {rest : List Oper} {op : Oper} {act : Act} {Q : Exit → Act → World → Prop} (w : World) (hgd : op.guard = none) (s x : Operand)
    (ho : op.op = .call { callee := .builtin .append, args := #[s, x], argTypes := #[25, 25] })
    (B : Nat) (v : Value) (n : Nat) (hs : act.eval s = v) (hl : LstE w B v n) (k q y : Int) (hx : act.eval x = .slice (some ⟨w.heap.size, 0, none⟩) 1 1) (hn : n ≤ 1000) (hB : B ≤ w.heap.size)
    (h : ∀ v' w', LstE w' B v' (n + 1) → w.grownBy w' v.ownBlock → (∀ j, v'.ownBlock = some j → v.ownBlock = some j ∨ w.heap.size ≤ j) → wpList Tryz.prog ops Q rest (act.put op.dst v') w') :
    wpList Tryz.prog ops Q (op :: rest) act (w.alloc (.cells #[.int .i64 k, .int .i64 q, .int .i64 y] 62)) := by
  obtain ⟨i0, hi, hz0, hz1, hz2⟩ := info_ev
  obtain ⟨xs, how, hxs, hvn⟩ := hl
  have hb : Below w.heap.size w (w.alloc (.cells #[.int .i64 k, .int .i64 q, .int .i64 y] 62)) := below_alloc _ _
  obtain ⟨v', w', h1, h2, h3, h4, h5⟩ := run_append_own_at (P := Tryz.prog) (w.alloc (.cells #[.int .i64 k, .int .i64 q, .int .i64 y] 62)) B 25 op.type 62 i0 (evV 0 0 0) 3 24 Tryz.underlying25 hi hz0 hz1 hz2 rfl (by decide) v n xs (how.alloc _) ⟨w.heap.size, 0, none⟩ 1 1 [.int .i64 k, .int .i64 q, .int .i64 y] rfl (cell_three_new _ _ _ _ _) (fun u hu => by
    simp at hu
    rcases hu with rfl | rfl | rfl <;> rfl) (by unfold maxLen; omega) (by omega) (by simp; omega)
  refine wpList_plain hgd fun K hK => ?_
  unfold Oper.wp execOp
  simp only [ho, resolve, invoke, builtin, Sem.run_bind, Sem.run_pure, Result.andThen_ok, List.map_toArray, List.map_cons, List.map_nil, hs, hx, h1]
  refine hK _ _ (h v' w' ⟨_, h2, ?_, fun e => hvn (h4.1 e).1⟩ ⟨h3.os, h3.tape, h3.output, Nat.le_trans hb.size h3.size, fun j hj hne => (h3.block j (Nat.lt_of_lt_of_le hj hb.size) hne).trans (hb.block j hj)⟩ fun j hj => ?_)
  · rw [List.all_append, hxs]
    rfl
  · rcases h5 with a | a
    · exact .inl (a.symm.trans hj)
    · rw [hj] at a
      simp only [Option.some.injEq] at a
      right
      rw [a]
      simp

set_option maxRecDepth 100000 in
set_option maxHeartbeats 1000000 in
theorem specStateNew_any (w : World) :
    Calls Tryz.prog 66 #[] w fun e w' => ∃ v, e = .returned v ∧ StOwn w' w.heap.size v 0 [0, 0, 0, 0] [] 0 ∧ Below w.heap.size w w' := by
  have hmk : ∀ w : World, (Instr.makeSlice 30 (.int .i64 4) (.int .i64 4)).run Tryz.prog w = .ok (.slice (some ⟨w.heap.size, 0, none⟩) 4 4) (w.alloc (.cells (madeCells #[.int .i64 0] 4) 3)) := fun w => run_make_int 4 (by omega) w
  have HM : Hid (∀ w : World, OwnI (w.alloc (.cells (madeCells #[.int .i64 0] 4) 3)) w.heap.size (.slice (some ⟨w.heap.size, 0, none⟩) 4 4) [0, 0, 0, 0]) := fun w => made_own w 4 (by omega)
  go_enter Tryz.func66, Tryz.ntmps66
  go_wp2
  have hB : w.heap.size ≤ w.heap.size + 1 := by omega
  have hM := HM.out (w.alloc (.cells #[.int .i64 0, .slice (some ⟨w.heap.size + 1, 0, none⟩) 4 4, .slice none 0 0, .int .i64 0] 32))
  rw [World.size_alloc] at hM
  refine bodyPost_ret (v := stV 0 (some ⟨w.heap.size + 1, 0, none⟩) 4 4 none 0 0 0) (by simp [results, Tryz.results66, go_sem]) rfl ⟨_, rfl, ⟨_, _, rfl, hM.mono hB, World.ownsRow_nil _ _ _ _, fun k _ => by simp [Value.ownBlock]⟩, by go_grown⟩

end Go.Proofs.YtcmmlklanjhfoaaGreatDoor

namespace Go.Proofs.YtcmmlklanjhfoaaGreatDoor
open Go.RowKit

theorem Tl.widen {w : World} {B C C' N : Nat} {p c : Int} {ra : Option Addr} {rn rc : Nat} {oa : Option Addr} {on oc : Nat} {rs os : List Int} (h : Tl w B C N p c ra rn rc oa on oc rs os) (h1 : C ≤ C') (h2 : C' ≤ w.heap.size) : Tl w B C' N p c ra rn rc oa on oc rs os :=
  ⟨h.lo, Nat.lt_of_lt_of_le h.hi h1, h2, h.box, h.own, fun k hk => Nat.lt_of_lt_of_le (h.up k hk) h1, h.ne⟩

/-- What stands between the rounds of a draw of events: the events so far, the cursor, a state of the draw's own in block Bs, all of it below C. -/
structure Dr (w wr : World) (C W0 c len cap : Nat) (a0 : Option Addr) (Bs : Nat) (out : Value) (k : Nat) (p code : Int) (ra : Option Addr) (rc : Nat) (oa : Option Addr) (oc : Nat) (rs os : List Int) : Prop where
  ls : LstE wr w.heap.size out k
  cu : Cur wr W0 c a0 len cap
  gr : w.grownBy wr (some c)
  tl : Tl wr w.heap.size C Bs p code ra rs.length rc oa os.length oc rs os
  fz : ∀ j, wr.frozen? ⟨Bs, j, none⟩ = false
  oC : ∀ j, out.ownBlock = some j → j < C
  nB : out.ownBlock ≠ some Bs
  ap : ∀ j, hasBlock (stV p ra rs.length rc oa os.length oc code) j → out.ownBlock ≠ some j
  lr : rs.length ≤ 1048576
  lo : os.length ≤ 1048576

theorem Dr.tu {w wr w' : World} {C W0 c len cap : Nat} {a0 : Option Addr} {Bs : Nat} {out : Value} {k : Nat} {p code : Int} {ra : Option Addr} {rc : Nat} {oa : Option Addr} {oc : Nat} {rs os : List Int} (h : Dr w wr C W0 c len cap a0 Bs out k p code ra rc oa oc rs os) {lo hi : Nat} (t : Tu lo hi wr w') (hd : C ≤ lo ∨ hi ≤ w.heap.size) (hc : Cur w' W0 c a0 len cap) (hg : w.grownBy w' (some c)) : Dr w w' C W0 c len cap a0 Bs out k p code ra rc oa oc rs os := by
  obtain ⟨h1, h2, h3, h4, h5, h6, h7, h8, h9, h10⟩ := h
  refine ⟨h1.ofBlock fun j hj => ?_, hc, hg, h4.tu t hd, fun j => ?_, h6, h7, h8, h9, h10⟩
  · have a := h1.lt j hj
    have b := h6 j hj
    exact t.block j a.2 (by omega)
  · rw [World.frozen?_of_block (t.block Bs (Nat.lt_of_lt_of_le h4.hi h4.sz) (by have := h4.lo; have := h4.hi; omega))]
    exact h5 j
theorem Dr.turn {w wr w' : World} {C W0 c len cap : Nat} {a0 : Option Addr} {Bs : Nat} {out : Value} {k : Nat} {p code : Int} {ra : Option Addr} {rc : Nat} {oa : Option Addr} {oc : Nat} {rs os : List Int} (h : Dr w wr C W0 c len cap a0 Bs out k p code ra rc oa oc rs os) (hcl : c < w.heap.size) (hc : Cur w' W0 c a0 len cap) (hg : wr.grownBy w' (some c)) : Dr w w' C W0 c len cap a0 Bs out k p code ra rc oa oc rs os :=
  h.tu (Tu.of_row hg) (.inr hcl) hc (h.gr.trans hg)
theorem Dr.below {w wr w' : World} {C W0 c len cap : Nat} {a0 : Option Addr} {Bs : Nat} {out : Value} {k : Nat} {p code : Int} {ra : Option Addr} {rc : Nat} {oa : Option Addr} {oc : Nat} {rs os : List Int} (h : Dr w wr C W0 c len cap a0 Bs out k p code ra rc oa oc rs os) (hb : Below wr.heap.size wr w') : Dr w w' C W0 c len cap a0 Bs out k p code ra rc oa oc rs os :=
  h.tu (Tu.of_below hb) (.inr (Nat.zero_le _)) (h.cu.kept (grown_of_below hb) (by simp) (fun k e => by cases e)) (h.gr.trans (grown_any (grown_of_below hb) _))
theorem Dr.set {w wr : World} {C W0 c len cap : Nat} {a0 : Option Addr} {Bs : Nat} {out : Value} {k : Nat} {p code : Int} {ra : Option Addr} {rc : Nat} {oa : Option Addr} {oc : Nat} {rs os : List Int} (h : Dr w wr C W0 c len cap a0 Bs out k p code ra rc oa oc rs os) (hcl : c < w.heap.size) (hcg : W0 ≤ c) {N : Nat} (hN : C ≤ N) (j : Nat) (v : Value) : Dr w (wr.setCell ⟨N, j, none⟩ v) C W0 c len cap a0 Bs out k p code ra rc oa oc rs os := by
  have hw : w.heap.size ≤ N := by have := h.tl.lo; have := h.tl.hi; omega
  exact h.tu (Tu.of_row (b := N) (grown_setCell (p := ⟨N, j, none⟩) (World.grownBy.refl _ _) (.inl rfl) v)) (.inl hN) (h.cu.setOther (p := ⟨N, j, none⟩) (by simp; omega) (by simp; omega) v) (grown_setCell (p := ⟨N, j, none⟩) h.gr (.inr hw) v)
theorem Dr.widen {w wr : World} {C W0 c len cap : Nat} {a0 : Option Addr} {Bs : Nat} {out : Value} {k : Nat} {p code : Int} {ra : Option Addr} {rc : Nat} {oa : Option Addr} {oc : Nat} {rs os : List Int} (h : Dr w wr C W0 c len cap a0 Bs out k p code ra rc oa oc rs os) : Dr w wr wr.heap.size W0 c len cap a0 Bs out k p code ra rc oa oc rs os :=
  ⟨h.ls, h.cu, h.gr, h.tl.widen h.tl.sz (Nat.le_refl _), h.fz, fun j hj => Nat.lt_of_lt_of_le (h.oC j hj) h.tl.sz, h.nB, h.ap, h.lr, h.lo⟩
theorem Dr.ins {w wr : World} {C W0 c len cap : Nat} {a0 : Option Addr} {Bs : Nat} {out : Value} {k : Nat} {p code : Int} {ra : Option Addr} {rc : Nat} {oa : Option Addr} {oc : Nat} {rs os : List Int} (h : Dr w wr C W0 c len cap a0 Bs out k p code ra rc oa oc rs os) {gb n : Nat} {g : Nat → I5} (hI : InsAt w gb 0 n g) (hg : gb < w.heap.size) (hne : gb ≠ c) : InsAt wr gb 0 n g ∧ gb < wr.heap.size := by
  have hb := h.gr.block gb hg (by simp [hne])
  refine ⟨fun i hi => ?_, Nat.lt_of_lt_of_le hg h.gr.size⟩
  obtain ⟨c0, c1, c2, c3, c4⟩ := hI i hi
  exact ⟨(World.cell?_of_block hb).trans c0, (World.cell?_of_block hb).trans c1, (World.cell?_of_block hb).trans c2, (World.cell?_of_block hb).trans c3, (World.cell?_of_block hb).trans c4⟩

/-- An event in block N, that may be written. -/
def EvB (w : World) (N : Nat) (k q v : Int) : Prop := EvC3 w N k q v ∧ ∀ j, w.frozen? ⟨N, j, none⟩ = false
theorem EvB.lt {w : World} {N : Nat} {k q v : Int} (h : EvB w N k q v) : N < w.heap.size := World.block_lt_of_cell? w _ h.1.1
theorem EvB.block {w w' : World} {N : Nat} {k q v : Int} (h : EvB w N k q v) (hb : w'.heap[N]? = w.heap[N]?) : EvB w' N k q v := by
  obtain ⟨⟨h0, h1, h2⟩, h3⟩ := h
  exact ⟨⟨(World.cell?_of_block hb).trans h0, (World.cell?_of_block hb).trans h1, (World.cell?_of_block hb).trans h2⟩, fun j => (World.frozen?_of_block hb).trans (h3 j)⟩
theorem EvB.new (w : World) (k q v : Int) (t : TypeId) : EvB (w.alloc (.cells #[.int .i64 k, .int .i64 q, .int .i64 v] t)) w.heap.size k q v := ⟨EvC3.new w k q v t, fun j => new_frozen _ _ _ j rfl⟩
theorem EvB.set1 {w : World} {N : Nat} {k q v : Int} (h : EvB w N k q v) (x : Int) : EvB (w.setCell ⟨N, 1, none⟩ (.int .i64 x)) N k x v := by
  obtain ⟨⟨h0, h1, h2⟩, h3⟩ := h
  exact ⟨⟨by go_cell, by go_cell, by go_cell⟩, fun j => by rw [World.frozen?_setCell]; exact h3 j⟩
theorem EvB.set2 {w : World} {N : Nat} {k q v : Int} (h : EvB w N k q v) (x : Int) : EvB (w.setCell ⟨N, 2, none⟩ (.int .i64 x)) N k q x := by
  obtain ⟨⟨h0, h1, h2⟩, h3⟩ := h
  exact ⟨⟨by go_cell, by go_cell, by go_cell⟩, fun j => by rw [World.frozen?_setCell]; exact h3 j⟩

/-- One event more, and the state behind it. -/
theorem Dr.next {w w8 w9 : World} {C W0 c len cap : Nat} {a0 : Option Addr} {Bs : Nat} {out out' : Value} {k : Nat} {p code : Int} {ra : Option Addr} {rc : Nat} {oa : Option Addr} {oc : Nat} {rs os : List Int} (h : Dr w w8 C W0 c len cap a0 Bs out k p code ra rc oa oc rs os) (hcl : c < w.heap.size) (hcg : W0 ≤ c)
    {B7 : Nat} {S : S4} {ra7 oa7 : Option Addr} {rc7 oc7 : Nat} (o7 : StOwn w8 B7 (stV S.p ra7 S.rs.length rc7 oa7 S.os.length oc7 S.c) S.p S.rs S.os S.c) (hB : C ≤ B7) (l1 : S.rs.length ≤ 1048576) (l2 : S.os.length ≤ 1048576)
    (g9 : w8.grownBy w9 out.ownBlock) (L9 : LstE w9 w.heap.size out' (k + 1)) (a9 : ∀ j, out'.ownBlock = some j → out.ownBlock = some j ∨ w8.heap.size ≤ j) :
    Dr w ((((w9.setCell ⟨Bs, 0, none⟩ (.int .i64 S.p)).setCell ⟨Bs, 1, none⟩ (.slice ra7 S.rs.length rc7)).setCell ⟨Bs, 2, none⟩ (.slice oa7 S.os.length oc7)).setCell ⟨Bs, 3, none⟩ (.int .i64 S.c)) w9.heap.size W0 c len cap a0 Bs out' (k + 1) S.p S.c ra7 rc7 oa7 oc7 S.rs S.os := by
  have hlo := h.tl.lo
  have hhi := h.tl.hi
  have hsz := h.tl.sz
  have hs9 := g9.size
  have gz := grown4 w9 Bs (.int .i64 S.p) (.slice ra7 S.rs.length rc7) (.slice oa7 S.os.length oc7) (.int .i64 S.c)
  have hap : ∀ j, out.ownBlock = some j → w.heap.size ≤ j ∧ j < C := fun j hj => ⟨(h.ls.lt j hj).1, h.oC j hj⟩
  have eB : w9.heap[Bs]? = w8.heap[Bs]? := g9.block Bs (by omega) (fun e => h.nB e.symm)
  have nB : out'.ownBlock ≠ some Bs := fun e => by
    rcases a9 Bs e with e | e
    · exact h.nB e
    · omega
  obtain ⟨b0, b1, b2, b3⟩ := h.tl.box
  have o9 : StOwn w9 B7 (stV S.p ra7 S.rs.length rc7 oa7 S.os.length oc7 S.c) S.p S.rs S.os S.c := by
    obtain ⟨q1, q2, qa⟩ := o7.parts
    refine ⟨_, _, rfl, q1.ofBlock fun j hj => ?_, q2.ofBlock fun j hj => ?_, qa⟩
    · have := q1.lt j hj
      exact g9.block j this.2 (fun e => by have := hap j e.symm; omega)
    · have := q2.lt j hj
      exact g9.block j this.2 (fun e => by have := hap j e.symm; omega)
  have gW : w.grownBy w9 (some c) := ⟨g9.os.trans h.gr.os, g9.tape.trans h.gr.tape, g9.output.trans h.gr.output, Nat.le_trans h.gr.size g9.size, fun j hj hne => (g9.block j (Nat.lt_of_lt_of_le hj h.gr.size) (fun e => by have := hap j e.symm; omega)).trans (h.gr.block j hj hne)⟩
  have hC : C ≤ w9.heap.size := by omega
  refine ⟨?_, ?_, ?_, ⟨hlo, by omega, by simp, ?_, ?_, fun j hj => ?_, fun hj => ?_⟩, fun j => ?_, fun j hj => ?_, nB, fun j hj e => ?_, l1, l2⟩
  · exact L9.kept gz (fun j e => by cases e; exact nB)
  · have hc9 : Cur w9 W0 c a0 len cap := h.cu.kept g9 (fun e => by have := hap c e.symm; omega) (fun j e => by have := hap j e; omega)
    exact (((hc9.setOther (p := ⟨Bs, 0, none⟩) (by simp; omega) (by simp; omega) _).setOther (p := ⟨Bs, 1, none⟩) (by simp; omega) (by simp; omega) _).setOther (p := ⟨Bs, 2, none⟩) (by simp; omega) (by simp; omega) _).setOther (p := ⟨Bs, 3, none⟩) (by simp; omega) (by simp; omega) _
  · repeat (refine grown_setCell ?_ (.inr hlo) _)
    exact gW
  · exact BoxC.set4 (z0 := .int .i64 p) (z1 := .slice ra rs.length rc) (z2 := .slice oa os.length oc) (z3 := .int .i64 code) ⟨(World.cell?_of_block eB).trans b0, (World.cell?_of_block eB).trans b1, (World.cell?_of_block eB).trans b2, (World.cell?_of_block eB).trans b3⟩ _ _ _ _
  · exact o9.put4 (by omega) (by omega)
  · exact (o9.lt hj).2
  · have := (o9.lt hj).1
    omega
  · rw [World.frozen?_setCell, World.frozen?_setCell, World.frozen?_setCell, World.frozen?_setCell, World.frozen?_of_block eB]
    exact h.fz j
  · exact (L9.lt j hj).2
  · have hj7 := o7.lt hj
    rcases a9 j e with e | e
    · have := hap j e
      omega
    · omega

end Go.Proofs.YtcmmlklanjhfoaaGreatDoor
