/- The one listed variable: what the condition gives a walk, and a world that meets it. -/
import Derived.Test.YtfdanemmefckpaaGreatDoorOc0
import Derived.Test.YtfdanemmefckpaaGreatDoorOc10
import Derived.Maps.AppendAt
import Derived.OneCell
import Derived.Test.YtfdanemmefckpaaGreatDoorOc6
import Derived.Test.YtfdanemmefckpaaGreatDoorOc9
import Derived.Test.YtfdanemmefckpaaGreatDoorOc2
import Derived.Test.YtfdanemmefckpaaGreatDoorRows
import Derived.Test.YtfdanemmefckpaaGreatDoorTie
import Derived.ChangeSame
import Derived.ChangeVars
import Derived.JoinedOf
import Derived.RowKit
import Derived.RowKitTokens
import Derived.LaidLaws
import Derived.LaidHandle
import Derived.Stop.Joined
namespace Go.Proofs.YtfdanemmefckpaaGreatDoor
set_option maxRecDepth 100000
set_option maxHeartbeats 2000000
open Go.ChangeShapes Go.WideShapes Go.ChangeAt Go.RowKit Go.Deep
theorem below_allocL (w : World) (o : Obj) : Below w.heap.size w (w.alloc o) := (Below.refl _ _).alloc (Nat.le_refl _) _
def Src (w : World) (a0 : Option Addr) (cs : List Value) : Prop := cs = [] ∨ ∃ b off, a0 = some ⟨b, off, none⟩ ∧ b < w.heap.size ∧ ∀ j u, cs[j]? = some u → w.cell? ⟨b, off + j, none⟩ = some u
theorem Src.below {w w' : World} {a0 : Option Addr} {cs : List Value} (h : Src w a0 cs) (hb : Below w.heap.size w w') : Src w' a0 cs := by
 rcases h with h | ⟨b, off, e, hlt, hc⟩
 ·exact .inl h
 ·exact .inr ⟨b, off, e, Nat.lt_of_lt_of_le hlt hb.size, fun j u hj => (hb.cell (p := ⟨b, off + j, none⟩) hlt).trans (hc j u hj)⟩
structure Kind (t e : TypeId) (size bytes : Nat) : Prop where
 und : Tryz.prog.underlying t = some (.slice e)
 inf : ∃ i z, Tryz.prog.info? e = some i ∧ i.zero = some z ∧ i.size = size ∧ i.bytes = bytes ∧ z.cells.size = size
 pos : 0 < size
 sml : bytes ≤ 128
theorem run_append_src {t e : TypeId} {size bytes : Nat} (K : Kind t e size bytes) (w : World) (ty : TypeId) (B : Nat) (v : Value) (n : Nat) (xs : List Value) (hown : w.ownsRow B e size v n xs) (a0 : Option Addr) (m c : Nat) (news : List Value) (hl : news.length = m * size) (hsrc : Src w a0 news) (h1 : ∀ u ∈ news, u.oneCell' = true) (hnm : n + m ≤ 4000000) (hB : B ≤ w.heap.size) :
  ∃ v' w', (Builtin.append_ #[t, t] ty #[v, .slice a0 m c]).run Tryz.prog w = .ok v' w' ∧ w'.ownsRow B e size v' (n + m) (xs ++ news) ∧ w.grownBy w' v.ownBlock ∧ (v'.ownBlock = v.ownBlock ∨ v'.ownBlock = some w.heap.size) ∧ (v ≠ .slice none 0 0 ∨ 0 < m → v' ≠ .slice none 0 0) := by
 obtain ⟨i, z, hi, hz, hs, hb, hzs⟩ := K.inf
 have hby : (n + m) * bytes ≤ 140737488355328 := Nat.le_trans (Nat.mul_le_mul hnm K.sml) (by omega)
 cases a0 with
 | none =>
  have hn0 : news = [] := by
   rcases hsrc with h | ⟨b, off, e, _⟩
   ·exact h
   ·cases e
  subst hn0
  have hm : m = 0 := by
   have := K.pos
   simp only [List.length_nil] at hl
   rcases Nat.eq_zero_or_pos m with h | h
   ·exact h
   ·have := Nat.mul_pos h K.pos
    omega
  subst hm
  refine ⟨v, w, ?_, by simpa using hown, World.grownBy.refl _ _, .inl rfl, fun h => h.elim id fun h => by omega⟩
  rcases hown.2 with ⟨rfl, _⟩ | ⟨g, cap, cur, rfl, _, _, hnc, _⟩
  ·simp [Builtin.append_, run_underlying K.und, sizeOf, typeInfo, hi, Builtin.lenOf, Builtin.firstCells]
  ·simp [Builtin.append_, run_underlying K.und, sizeOf, typeInfo, hi, Builtin.lenOf, Builtin.firstCells, hnc, storeCells]
 | some a =>
  have hnews : ∀ j u, news[j]? = some u → w.cell? (a.add j) = some u := by
   rcases hsrc with h0 | ⟨b, off, e, hlt, hc⟩
   ·subst h0
    intro j u hj
    simp at hj
   ·cases e
    intro j u hj
    have ha : Addr.add ⟨b, off, none⟩ j = ⟨b, off + j, none⟩ := by unfold Addr.add; split <;> simp_all
    rw [ha]
    exact hc j u hj
  obtain ⟨v', w', r1, r2, r3, r4, r5⟩ := run_append_own_at (P := Tryz.prog) w B t ty e i z size bytes K.und hi hz hs hb hzs K.pos v n xs hown a m c news hl hnews h1 (by unfold maxLen; omega) hby hB
  exact ⟨v', w', r1, r2, r3, r5, fun h e => h.elim (fun h => h (r4.1 e).1) fun h => by have := (r4.1 e).2; omega⟩
theorem step_append_src {ops : Array Oper} {rest : List Oper} {op : Oper} {act : Act} {Q : Exit → Act → World → Prop} {t e : TypeId} {size bytes : Nat} (K : Kind t e size bytes) (w : World) (hgd : op.guard = none) (s x : Operand)
  (ho : op.op = .call { callee := .builtin .append, args := #[s, x], argTypes := #[t, t] })
  (B : Nat) (v : Value) (n : Nat) (xs : List Value) (hs : act.eval s = v) (hown : w.ownsRow B e size v n xs) (a0 : Option Addr) (m c : Nat) (news : List Value) (hx : act.eval x = .slice a0 m c) (hl : news.length = m * size) (hsrc : Src w a0 news) (h1 : ∀ u ∈ news, u.oneCell' = true) (hnm : n + m ≤ 4000000) (hB : B ≤ w.heap.size)
  (h : ∀ v' w', w'.ownsRow B e size v' (n + m) (xs ++ news) → w.grownBy w' v.ownBlock → (v'.ownBlock = v.ownBlock ∨ v'.ownBlock = some w.heap.size) → (v ≠ .slice none 0 0 ∨ 0 < m → v' ≠ .slice none 0 0) → wpList Tryz.prog ops Q rest (act.put op.dst v') w') :
  wpList Tryz.prog ops Q (op :: rest) act w := by
 obtain ⟨v', w', r1, r2, r3, r4, r5⟩ := run_append_src K w op.type B v n xs hown a0 m c news hl hsrc h1 hnm hB
 refine wpList_plain hgd fun K hK => ?_
 unfold Oper.wp execOp
 simp only [ho, resolve, invoke, builtin, Sem.run_bind, Sem.run_pure, Result.andThen_ok, List.map_toArray, List.map_cons, List.map_nil, hs, hx, r1]
 exact hK _ _ (h v' w' r2 r3 r4 r5)
theorem step_append_srcN {ops : Array Oper} {rest : List Oper} {op : Oper} {act : Act} {Q : Exit → Act → World → Prop} {t e : TypeId} {size bytes : Nat} (K : Kind t e size bytes) (w : World) {N : Nat} (hN : N = w.heap.size) (hgd : op.guard = none) (s x : Operand)
  (ho : op.op = .call { callee := .builtin .append, args := #[s, x], argTypes := #[t, t] })
  (a0 : Option Addr) (m c : Nat) (news : List Value) (hs : act.eval s = .slice (some ⟨N, 0, none⟩) 0 0) (hx : act.eval x = .slice a0 m c) (hl : news.length = m * size) (hsrc : Src w a0 news) (h1 : ∀ u ∈ news, u.oneCell' = true) (hnm : m ≤ 4000000)
  (h : ∀ v' w', w'.ownsRow w.heap.size e size v' m news → Below w.heap.size w w' → v' ≠ .slice none 0 0 → wpList Tryz.prog ops Q rest (act.put op.dst v') w') :
  wpList Tryz.prog ops Q (op :: rest) act (w.alloc (.cells #[] e)) := by
 subst hN
 have hb : Below w.heap.size w (w.alloc (.cells #[] e)) := below_allocL _ _
 refine step_append_src K _ hgd s x ho w.heap.size (.slice (some ⟨w.heap.size, 0, none⟩) 0 0) 0 [] hs (World.ownsRow_made (base := w.heap.size) (e := e) (size := size) w #[] 0 (Nat.le_refl _) (by unfold maxLen; omega) (by simp)) a0 m c news hx hl (hsrc.below hb) h1 (by omega) (by simp) ?_
 intro v' w' o g _ hne
 rw [Nat.zero_add, List.nil_append] at o
 exact h v' w' o (hb.grown g (by simp) (fun k hk => by cases hk; exact Nat.le_refl _)) (hne (.inl (by simp)))
theorem step_append_val {ops : Array Oper} {rest : List Oper} {op : Oper} {act : Act} {Q : Exit → Act → World → Prop} {t e : TypeId} {size bytes : Nat} (K : Kind t e size bytes) (w : World) {N : Nat} (hN : N = w.heap.size) (hgd : op.guard = none) (s x : Operand)
  (ho : op.op = .call { callee := .builtin .append, args := #[s, x], argTypes := #[t, t] })
  (B : Nat) (v : Value) (n : Nat) (xs : List Value) (hs : act.eval s = v) (hown : w.ownsRow B e size v n xs) (cs : Array Value) (hx : act.eval x = .slice (some ⟨N, 0, none⟩) 1 1) (hl : cs.size = size) (h1 : ∀ u ∈ cs.toList, u.oneCell' = true) (hn : n ≤ 2000000) (hB : B ≤ w.heap.size)
  (h : ∀ v' w', w'.ownsRow B e size v' (n + 1) (xs ++ cs.toList) → w.grownBy w' v.ownBlock → (∀ j, v'.ownBlock = some j → v.ownBlock = some j ∨ w.heap.size ≤ j) → v' ≠ .slice none 0 0 → wpList Tryz.prog ops Q rest (act.put op.dst v') w') :
  wpList Tryz.prog ops Q (op :: rest) act (w.alloc (.cells cs e)) := by
 subst hN
 have hb : Below w.heap.size w (w.alloc (.cells cs e)) := below_allocL _ _
 refine step_append_src K _ hgd s x ho B v n xs hs (hown.alloc _) (some ⟨w.heap.size, 0, none⟩) 1 1 cs.toList hx (by simp [hl]) (.inr ⟨w.heap.size, 0, rfl, by simp, fun j u hj => ?_⟩) h1 (by omega) (by simp; omega) ?_
 ·rw [Nat.zero_add, new_cell _ _ _ j rfl]
  simpa using hj
 ·intro v' w' o g hbk hne
  refine h v' w' o ⟨g.os, g.tape, g.output, Nat.le_trans hb.size g.size, fun j hj hne => (g.block j (Nat.lt_of_lt_of_le hj hb.size) hne).trans (hb.block j hj)⟩ (fun j hj => ?_) (hne (.inr (by omega)))
  rcases hbk with a | a
  ·exact .inl (a.symm.trans hj)
  ·rw [hj] at a
   simp only [Option.some.injEq] at a
   right
   rw [a]
   simp
def Nz (z : Bool) (e : TypeId) : Prop := z = true ∨ e = 149
theorem nzI {z : Bool} : Nz z 149 := .inr rfl
theorem nzT (e : TypeId) : Nz true e := .inl rfl
structure LL (z : Bool) (e : TypeId) (sz : Nat) (E : TypeId) (w : World) (P : Nat → Prop) (v : Value) (n : Nat) (u : Nat → Value) (L : Nat → Nat) (c : Nat → List Value) : Prop where
 row : w.ownsRow 0 E 1 v n ((List.range n).map u)
 own : ∀ i, i < n → w.ownsRow 0 e sz (u i) (L i) (c i)
 rb : ∀ k, v.ownBlock = some k → P k
 ob : ∀ i, i < n → ∀ k, (u i).ownBlock = some k → P k
 ra : ∀ i, i < n → ∀ k, (u i).ownBlock = some k → v.ownBlock ≠ some k
 oa : ∀ i j, i < n → j < n → i ≠ j → ∀ k, (u i).ownBlock = some k → (u j).ownBlock ≠ some k
 nn : Nz z e → ∀ i, i < n → u i ≠ .slice none 0 0
theorem ownsRow_blkL {w w' : World} {B size n : Nat} {e : TypeId} {v : Value} {xs : List Value} (h : w.ownsRow B e size v n xs) (hb : ∀ k, v.ownBlock = some k → w'.heap[k]? = w.heap[k]?) : w'.ownsRow B e size v n xs := by
 refine ⟨h.1, ?_⟩
 rcases h.2 with hn | ⟨g, cap, cur, rfl, hB, hg, hr⟩
 ·exact .inl hn
 ·exact .inr ⟨g, cap, cur, rfl, hB, (hb g rfl).trans hg, hr⟩
theorem ownsRow_base0 {w : World} {B size n : Nat} {e : TypeId} {v : Value} {xs : List Value} (h : w.ownsRow B e size v n xs) : w.ownsRow 0 e size v n xs := h.mono (Nat.zero_le _)
section
variable {z : Bool} {e : TypeId} {sz : Nat} {E : TypeId} {w : World} {P : Nat → Prop} {v : Value} {n : Nat} {u : Nat → Value} {L : Nat → Nat} {c : Nat → List Value}
theorem LL.keep (o : LL z e sz E w P v n u L c) {w' : World} (hb : ∀ k, P k → k < w.heap.size → w'.heap[k]? = w.heap[k]?) : LL z e sz E w' P v n u L c :=
 ⟨ownsRow_blkL o.row fun k hk => hb k (o.rb k hk) (o.row.lt k hk).2, fun i hi => ownsRow_blkL (o.own i hi) fun k hk => hb k (o.ob i hi k hk) ((o.own i hi).lt k hk).2, o.rb, o.ob, o.ra, o.oa, o.nn⟩
theorem LL.below (o : LL z e sz E w P v n u L c) {w' : World} (hb : Below w.heap.size w w') : LL z e sz E w' P v n u L c := o.keep fun k _ hk => hb.block k hk
theorem LL.mono (o : LL z e sz E w P v n u L c) {P' : Nat → Prop} (h : ∀ k, P k → k < w.heap.size → P' k) : LL z e sz E w P' v n u L c :=
 ⟨o.row, o.own, fun k hk => h k (o.rb k hk) (o.row.lt k hk).2, fun i hi k hk => h k (o.ob i hi k hk) ((o.own i hi).lt k hk).2, o.ra, o.oa, o.nn⟩
theorem LL.pushG (o : LL z e sz E w P v n u L c) {w1 w2 : World} {u' v' : Value} (hsz : w.heap.size ≤ w1.heap.size) (hb : ∀ k, P k → k < w.heap.size → w1.heap[k]? = w.heap[k]?) (hu : w1.ownsRow w.heap.size e sz u' (L n) (c n)) (hne : Nz z e → u' ≠ .slice none 0 0) (hv : w2.ownsRow 0 E 1 v' (n + 1) ((List.range n).map u ++ [u'])) (g : w1.grownBy w2 v.ownBlock)
  (hv' : ∀ j, v'.ownBlock = some j → v.ownBlock = some j ∨ w1.heap.size ≤ j) {P' : Nat → Prop} (hP : ∀ k, P k → k < w.heap.size → P' k) (hP' : ∀ k, w.heap.size ≤ k → k < w2.heap.size → P' k) : LL z e sz E w2 P' v' (n + 1) (fun j => if j = n then u' else u j) L c := by
 have hvlt : ∀ k, v.ownBlock = some k → k < w.heap.size := fun k hk => (o.row.lt k hk).2
 have hu2 : w2.ownsRow w.heap.size e sz u' (L n) (c n) := hu.kept g (by
  cases hk : u'.ownBlock with
  | none => exact .inl rfl
  | some k =>
   refine .inr fun e => ?_
   have q1 := (hu.lt k hk).1
   have q2 := hvlt k e.symm
   omega)
 have ho2 : ∀ i, i < n → w2.ownsRow 0 e sz (u i) (L i) (c i) := fun i hi => ownsRow_blkL (o.own i hi) fun k hk => (g.block k (Nat.lt_of_lt_of_le ((o.own i hi).lt k hk).2 hsz) fun e => o.ra i hi k hk e.symm).trans (hb k (o.ob i hi k hk) ((o.own i hi).lt k hk).2)
 have lts : ∀ i, i < n → ∀ k, (u i).ownBlock = some k → k < w.heap.size := fun i hi k hk => ((o.own i hi).lt k hk).2
 refine ⟨?_, fun i hi => ?_, fun k hk => ?_, fun i hi k hk => ?_, fun i hi k hk => ?_, fun i j hi hj hij k hk => ?_, fun hz i hi => ?_⟩
 ·have e : (List.range (n + 1)).map (fun j => if j = n then u' else u j) = (List.range n).map u ++ [u'] := by
   rw [List.range_succ, List.map_append]
   simp only [List.map_cons, List.map_nil, if_true]
   congr 1
   exact List.map_congr_left fun j hj => by
    rw [if_neg]
    have := List.mem_range.1 hj
    omega
  rw [e]
  exact hv
 ·by_cases ei : i = n
  ·subst ei
   rw [if_pos rfl]
   exact ownsRow_base0 hu2
  ·rw [if_neg ei]
   exact ho2 i (by omega)
 ·rcases hv' k hk with h | h
  ·exact hP k (o.rb k h) (hvlt k h)
  ·exact hP' k (Nat.le_trans hsz h) (hv.lt k hk).2
 ·by_cases ei : i = n
  ·simp only [if_pos ei] at hk
   exact hP' k (hu.lt k hk).1 (hu2.lt k hk).2
  ·simp only [if_neg ei] at hk
   exact hP k (o.ob i (by omega) k hk) (lts i (by omega) k hk)
 ·intro hvk
  by_cases ei : i = n
  ·simp only [if_pos ei] at hk
   rcases hv' k hvk with h | h
   ·have := hvlt k h
    have := (hu.lt k hk).1
    omega
   ·have := (hu.lt k hk).2
    omega
  ·simp only [if_neg ei] at hk
   rcases hv' k hvk with h | h
   ·exact o.ra i (by omega) k hk h
   ·have := lts i (by omega) k hk
    omega
 ·intro hjk
  by_cases ei : i = n
  ·have ej : j ≠ n := fun e => hij (by omega)
   simp only [if_pos ei] at hk
   simp only [if_neg ej] at hjk
   have := lts j (by omega) k hjk
   have := (hu.lt k hk).1
   omega
  ·simp only [if_neg ei] at hk
   by_cases ej : j = n
   ·simp only [if_pos ej] at hjk
    have := lts i (by omega) k hk
    have := (hu.lt k hjk).1
    omega
   ·simp only [if_neg ej] at hjk
    exact o.oa i j (by omega) (by omega) hij k hk hjk
 ·by_cases ei : i = n
  ·rw [if_pos ei]
   exact hne hz
  ·rw [if_neg ei]
   exact o.nn hz i (by omega)
theorem LL.push (o : LL z e sz E w P v n u L c) {w1 w2 : World} {u' v' : Value} (b1 : Below w.heap.size w w1) (hu : w1.ownsRow w.heap.size e sz u' (L n) (c n)) (hne : Nz z e → u' ≠ .slice none 0 0) (hv : w2.ownsRow 0 E 1 v' (n + 1) ((List.range n).map u ++ [u'])) (g : w1.grownBy w2 v.ownBlock)
  (hv' : ∀ j, v'.ownBlock = some j → v.ownBlock = some j ∨ w1.heap.size ≤ j) {P' : Nat → Prop} (hP : ∀ k, P k → k < w.heap.size → P' k) (hP' : ∀ k, w.heap.size ≤ k → k < w2.heap.size → P' k) : LL z e sz E w2 P' v' (n + 1) (fun j => if j = n then u' else u j) L c :=
 o.pushG b1.size (fun k _ hk => b1.block k hk) hu hne hv g hv' hP hP'
theorem LL.nil (e : TypeId) (sz : Nat) (E : TypeId) (w : World) (P : Nat → Prop) (u : Nat → Value) (L : Nat → Nat) (c : Nat → List Value) : LL z e sz E w P (.slice none 0 0) 0 u L c :=
 ⟨World.ownsRow_nil _ _ _ _, fun i hi => (by omega), fun k hk => (by cases hk), fun i hi => (by omega), fun i hi => (by omega), fun i j hi => (by omega), fun _ i hi => by omega⟩
theorem LL.new (e : TypeId) (sz : Nat) (E : TypeId) (w : World) (P : Nat → Prop) (hP : P w.heap.size) (u : Nat → Value) (L : Nat → Nat) (c : Nat → List Value) : LL z e sz E (w.alloc (.cells #[] E)) P (.slice (some ⟨w.heap.size, 0, none⟩) 0 0) 0 u L c :=
 ⟨World.ownsRow_made (base := 0) (e := E) (size := 1) w #[] 0 (Nat.zero_le _) (by unfold maxLen; omega) rfl, fun i hi => (by omega), fun k hk => (by cases hk; exact hP), fun i hi => (by omega), fun i hi => (by omega), fun i j hi => (by omega), fun _ i hi => by omega⟩
theorem LL.cell (o : LL z e sz E w P v n u L c) {i : Nat} (hi : i < n) : ∃ g cap, v = .slice (some ⟨g, 0, none⟩) n cap ∧ P g ∧ g < w.heap.size ∧ w.cell? ⟨g, i, none⟩ = some (u i) ∧ ∀ j, w.frozen? ⟨g, j, none⟩ = false := by
 rcases o.row.2 with ⟨_, h0⟩ | ⟨g, cap, cur, rfl, hb, hg, hr⟩
 ·omega
 ·refine ⟨g, cap, rfl, o.rb g rfl, (o.row.lt g rfl).2, ?_, fun j => o.row.frozenAt j⟩
  rw [o.row.cellAt i (by omega)]
  simp [hi]
theorem LL.put {g cap : Nat} (o : LL z e sz E w P (.slice (some ⟨g, 0, none⟩) n cap) n u L c) {i : Nat} (hi : i < n) {w1 : World} {u' : Value} {m : Nat} {c' : List Value} (_hs : w.heap.size ≤ w1.heap.size) (g1 : ∀ k, k < w.heap.size → (u i).ownBlock ≠ some k → w1.heap[k]? = w.heap[k]?)
  (hu : w1.ownsRow 0 e sz u' m c') (hne : Nz z e → u' ≠ .slice none 0 0) (hb : ∀ k, u'.ownBlock = some k → (u i).ownBlock = some k ∨ w.heap.size ≤ k) {P' : Nat → Prop} (hP : ∀ k, P k → k < w.heap.size → P' k) (hP' : ∀ k, w.heap.size ≤ k → k < w1.heap.size → P' k) :
  LL z e sz E (w1.setCell ⟨g, i, none⟩ u') P' (.slice (some ⟨g, 0, none⟩) n cap) n (fun j => if j = i then u' else u j) (fun j => if j = i then m else L j) (fun j => if j = i then c' else c j) := by
 have hg : g < w.heap.size := (o.row.lt g rfl).2
 have hgi : (u i).ownBlock ≠ some g := fun e => o.ra i hi g e rfl
 have row1 : w1.ownsRow 0 E 1 (.slice (some ⟨g, 0, none⟩) n cap) n ((List.range n).map u) := ownsRow_blkL o.row fun k hk => by
  cases hk
  exact g1 g hg hgi
 have hu'g : u'.ownBlock ≠ some g := fun e => by
  rcases hb g e with h | h
  ·exact hgi h
  ·omega
 have lts : ∀ j, j < n → ∀ k, (u j).ownBlock = some k → k < w.heap.size := fun j hj k hk => ((o.own j hj).lt k hk).2
 refine ⟨?_, fun j hj => ?_, fun k hk => ?_, fun j hj k hk => ?_, fun j hj k hk => ?_, fun a b ha hb' hab k hk => ?_, fun hz j hj => ?_⟩
 ·have h := (World.ownsRow.stored row1 i u').1
  have e : (List.range n).map (fun j => if j = i then u' else u j) = ((List.range n).map u).set i u' := by
   apply List.ext_getElem (by simp)
   intro j h1 h2
   simp only [List.getElem_map, List.getElem_range, List.getElem_set]
   by_cases q : j = i
   ·rw [if_pos q, if_pos q.symm]
   ·rw [if_neg q, if_neg fun e => q e.symm]
  rw [e]
  exact h
 ·by_cases ej : j = i
  ·subst ej
   simp only [if_true]
   exact ownsRow_setCell_other hu hu'g _
  ·simp only [if_neg ej]
   refine ownsRow_setCell_other (ownsRow_blkL (o.own j hj) fun k hk => g1 k (lts j hj k hk) fun e => o.oa j i hj hi ej k hk e) (fun e => o.ra j hj g e rfl) _
 ·cases hk
  exact hP g (o.rb g rfl) hg
 ·by_cases ej : j = i
  ·simp only [if_pos ej] at hk
   rcases hb k hk with h | h
   ·exact hP k (o.ob i hi k h) (lts i hi k h)
   ·exact hP' k h (hu.lt k hk).2
  ·simp only [if_neg ej] at hk
   exact hP k (o.ob j hj k hk) (lts j hj k hk)
 ·intro hvk
  cases hvk
  by_cases ej : j = i
  ·simp only [if_pos ej] at hk
   exact hu'g hk
  ·simp only [if_neg ej] at hk
   exact o.ra j hj g hk rfl
 ·intro hbk
  by_cases ea : a = i
  ·have eb : b ≠ i := fun e => hab (by omega)
   simp only [if_pos ea] at hk
   simp only [if_neg eb] at hbk
   rcases hb k hk with h | h
   ·exact o.oa b i hb' hi eb k hbk h
   ·have := lts b hb' k hbk
    omega
  ·simp only [if_neg ea] at hk
   by_cases eb : b = i
   ·simp only [if_pos eb] at hbk
    rcases hb k hbk with h | h
    ·exact o.oa a i ha hi ea k hk h
    ·have := lts a ha k hk
     omega
   ·simp only [if_neg eb] at hbk
    exact o.oa a b ha hb' hab k hk hbk
 ·by_cases ej : j = i
  ·simp only [if_pos ej]
   exact hne hz
  ·simp only [if_neg ej]
   exact o.nn hz j hj
end
structure St8 where
 p : Int
 ra : Option Addr
 rc : Nat
 rs : List Int
 oa : Option Addr
 oc : Nat
 os : List Int
 c : Int
def St8.s (x : St8) : S4 := ⟨x.p, x.rs, x.os, x.c⟩
def lenS (S : Nat → S4) (i : Nat) : Nat := (S i).rs.length + (S i).os.length
structure AllState (W : World) (a0 : Option Addr) (n : Nat) (q : Nat → St8) : Prop where
 row : n = 0 ∨ ∃ b off, a0 = some ⟨b, off, none⟩ ∧ b < W.heap.size ∧ ∀ i, i < n → W.cell? ⟨b, off + i * 4, none⟩ = some (.int .i64 (q i).p) ∧ W.cell? ⟨b, off + i * 4 + 1, none⟩ = some (.slice (q i).ra (q i).rs.length (q i).rc) ∧ W.cell? ⟨b, off + i * 4 + 2, none⟩ = some (.slice (q i).oa (q i).os.length (q i).oc) ∧ W.cell? ⟨b, off + i * 4 + 3, none⟩ = some (.int .i64 (q i).c)
 lst : ∀ i, i < n → Sl W (q i).ra (q i).rs ∧ Sl W (q i).oa (q i).os
theorem AllState.below {w w' : World} {a0 : Option Addr} {n : Nat} {q : Nat → St8} (h : AllState w a0 n q) (hb : Below w.heap.size w w') : AllState w' a0 n q := by
 refine ⟨?_, fun i hi => ⟨(h.lst i hi).1.below hb, (h.lst i hi).2.below hb⟩⟩
 rcases h.row with h | ⟨b, off, e, hlt, hc⟩
 ·exact .inl h
 ·exact .inr ⟨b, off, e, Nat.lt_of_lt_of_le hlt hb.size, fun i hi => by
   obtain ⟨h0, h1, h2, h3⟩ := hc i hi
   exact ⟨(hb.cell hlt).trans h0, (hb.cell hlt).trans h1, (hb.cell hlt).trans h2, (hb.cell hlt).trans h3⟩⟩
theorem AllState.at {w : World} {a0 : Option Addr} {n : Nat} {q : Nat → St8} (h : AllState w a0 n q) {k : Nat} (hk : k < n) : ∃ b off, a0 = some ⟨b, off, none⟩ ∧ w.cell? ⟨b, off + k * 4, none⟩ = some (.int .i64 (q k).p) ∧ w.cell? ⟨b, off + k * 4 + 1, none⟩ = some (.slice (q k).ra (q k).rs.length (q k).rc) ∧ w.cell? ⟨b, off + k * 4 + 2, none⟩ = some (.slice (q k).oa (q k).os.length (q k).oc) ∧ w.cell? ⟨b, off + k * 4 + 3, none⟩ = some (.int .i64 (q k).c) := by
 rcases h.row with rfl | ⟨b, off, e, -, hc⟩
 ·omega
 ·exact ⟨b, off, e, hc k hk⟩
theorem szStateS_small (a0 : Option Addr) (n cap : Nat) (q : Nat → St8) (L : Int) (w : World) (hr : AllState w a0 n q) (h : (n : Int) + (sumL (lenS fun i => (q i).s) n : Nat) ≤ L) (hL : L ≤ 1048576) :
  Calls Tryz.prog 25 #[.slice a0 n cap, .int .i64 L] w fun e w' => e = .returned (.int .i64 (L - n - (sumL (lenS fun i => (q i).s) n : Nat))) ∧ Below w.heap.size w w' := by
 have hn : (n : Int) ≤ 1048576 := by omega
 have h0 : 0 ≤ L := by omega
 have hn0 : ¬ (L - (n : Int) < 0) := by omega
 have HR : Hid (AllState w a0 n q) := hr
 have HS : Hid ((n : Int) + (sumL (lenS fun i => (q i).s) n : Nat) ≤ L) := h
 clear hr h
 generalize hls : (lenS fun i => (q i).s) = ls at *
 have HLS : Hid ((lenS fun i => (q i).s) = ls) := hls
 clear hls
 go_enter Tryz.func25, Tryz.ntmps25
 go_wp2_with fail
 go_loopw [1, 5] (fun x i wr => ∃ k : Nat, k ≤ n ∧ i = .int .i64 k ∧ x = .int .i64 (L - n - (sumL ls k : Nat)) ∧ Below w.heap.size w wr) (fun _ i _ => n - (intOf i).toNat)
 case atStart => exact ⟨0, Nat.zero_le _, rfl, by simp [sumL], Below.refl _ _⟩
 case round =>
  obtain ⟨k, hk, rfl, rfl, hbw⟩ := hrel
  by_cases hlt : k < n
  ·have hlt' : (k : Int) < (n : Int) := by omega
   obtain ⟨b, off, rfl, c0, c1, c2, c3⟩ := (HR.out.below hbw).at hlt
   have hsl := sumL_at ls hlt
   have hlk : ls k = (q k).rs.length + (q k).os.length := by rw [← HLS.out]; rfl
   have hS := HS.out
   have e1 : (L - n - (sumL ls k : Nat)) - ((q k).rs.length : Int) - ((q k).os.length : Int) = L - n - (sumL ls (k + 1) : Nat) := by simp only [sumL]; omega
   have HE : Hid ((L - n - (sumL ls k : Nat)) - ((q k).rs.length : Int) - ((q k).os.length : Int) = L - n - (sumL ls (k + 1) : Nat)) := e1
   have e2 : ((q k).rs.length : Int) + ((q k).os.length : Int) ≤ L - n - (sumL ls k : Nat) := by omega
   have e3 : ¬ (L - n - (sumL ls (k + 1) : Nat) < 0) := by omega
   have e4 : L - n - (sumL ls k : Nat) ≤ 1048576 := by omega
   clear e1 hS hsl hlk
   generalize hy : L - n - (sumL ls (k + 1) : Nat) = Y at *
   go_wp2_with fail
   refine (szState_small _ _ _ _ _ _ _ _ _ _ e2 e4).mono ?_
   rintro e w1 ⟨rfl, b1⟩
   rw [HE.out]
   clear e2 e4 c0 c1 c2 c3
   go_wp2
   go_roundw
   case rel => exact ⟨k + 1, by omega, by go_num, by rw [← hy], hbw.trans (b1.mono hbw.size)⟩
   case measure => simp [intOf]; omega
  ·have hkl : k = n := by omega
   subst hkl
   go_wp2
   go_ret
   exact ⟨rfl, hbw⟩
theorem szStateS_great (a0 : Option Addr) (n cap : Nat) (q : Nat → St8) (L : Int) (w : World) (hr : AllState w a0 n q) (h : L < (n : Int) + (sumL (lenS fun i => (q i).s) n : Nat)) (h0 : 0 ≤ L) (hL : L ≤ 1048576) (hm : n ≤ maxLen) (hl : ∀ i, i < n → (q i).rs.length ≤ maxLen ∧ (q i).os.length ≤ maxLen) :
  Calls Tryz.prog 25 #[.slice a0 n cap, .int .i64 L] w fun e w' => e = .returned (.int .i64 (-1)) ∧ Below w.heap.size w w' := by
 have hm' : (n : Int) ≤ 9223372036854775807 := by unfold maxLen at hm; omega
 by_cases hn0 : L - (n : Int) < 0
 ·go_enter Tryz.func25, Tryz.ntmps25
  go_wp2
  go_ret
  exact ⟨rfl, Below.refl _ _⟩
 have hn : (n : Int) ≤ 1048576 := by omega
 have HR : Hid (AllState w a0 n q) := hr
 have HS : Hid (L < (n : Int) + (sumL (lenS fun i => (q i).s) n : Nat)) := h
 have HL : Hid (∀ i, i < n → (q i).rs.length ≤ maxLen ∧ (q i).os.length ≤ maxLen) := hl
 clear hr h hl hm
 generalize hls : (lenS fun i => (q i).s) = ls at *
 have HLS : Hid ((lenS fun i => (q i).s) = ls) := hls
 clear hls
 go_enter Tryz.func25, Tryz.ntmps25
 go_wp2_with fail
 go_loopw [1, 5] (fun x i wr => ∃ k : Nat, k ≤ n ∧ i = .int .i64 k ∧ x = .int .i64 (L - n - (sumL ls k : Nat)) ∧ 0 ≤ L - n - (sumL ls k : Nat) ∧ Below w.heap.size w wr) (fun _ i _ => n - (intOf i).toNat)
 case atStart => exact ⟨0, Nat.zero_le _, rfl, by simp [sumL], by simp only [sumL]; omega, Below.refl _ _⟩
 case round =>
  obtain ⟨k, hk, rfl, rfl, hp, hbw⟩ := hrel
  by_cases hlt : k < n
  ·have hlt' : (k : Int) < (n : Int) := by omega
   obtain ⟨b, off, rfl, c0, c1, c2, c3⟩ := (HR.out.below hbw).at hlt
   obtain ⟨ml1, ml2⟩ := HL.out k hlt
   have hlk : ls k = (q k).rs.length + (q k).os.length := by rw [← HLS.out]; rfl
   have e1 : (L - n - (sumL ls k : Nat)) - ((q k).rs.length : Int) - ((q k).os.length : Int) = L - n - (sumL ls (k + 1) : Nat) := by simp only [sumL]; omega
   have HE : Hid ((L - n - (sumL ls k : Nat)) - ((q k).rs.length : Int) - ((q k).os.length : Int) = L - n - (sumL ls (k + 1) : Nat)) := e1
   have e4 : L - n - (sumL ls k : Nat) ≤ 1048576 := by omega
   clear e1 hlk
   by_cases hb : ((q k).rs.length : Int) + ((q k).os.length : Int) ≤ L - n - (sumL ls k : Nat)
   ·have e3 : 0 ≤ L - n - (sumL ls (k + 1) : Nat) := by have := HE.out; omega
    have e3' : ¬ (L - n - (sumL ls (k + 1) : Nat) < 0) := by omega
    generalize hy : L - n - (sumL ls (k + 1) : Nat) = Y at *
    go_wp2_with fail
    refine (szState_small _ _ _ _ _ _ _ _ _ _ hb e4).mono ?_
    rintro e w1 ⟨rfl, b1⟩
    rw [HE.out]
    clear hb e4 hp c0 c1 c2 c3 ml1 ml2
    go_wp2
    go_roundw
    case rel => exact ⟨k + 1, by omega, by go_num, by rw [← hy], by omega, hbw.trans (b1.mono hbw.size)⟩
    case measure => simp [intOf]; omega
   ·have hb' : L - n - (sumL ls k : Nat) < ((q k).rs.length : Int) + ((q k).os.length : Int) := by omega
    go_wp2_with fail
    refine (szState_great _ _ _ _ _ _ _ _ _ _ hb' e4 hp ml1 ml2).mono ?_
    rintro e w1 ⟨rfl, b1⟩
    clear hb hb' e4 hp HE c0 c1 c2 c3 ml1 ml2
    go_wp2
    go_ret
    exact ⟨rfl, hbw.trans (b1.mono hbw.size)⟩
  ·have hkl : k = n := by omega
   subst hkl
   have := HS.out
   omega
theorem ownsRow_blk {w w' : World} {B size n : Nat} {e : TypeId} {v : Value} {xs : List Value} (h : w.ownsRow B e size v n xs) (hb : ∀ k, v.ownBlock = some k → w'.heap[k]? = w.heap[k]?) : w'.ownsRow B e size v n xs := by
 obtain ⟨h0, h⟩ := h
 refine ⟨h0, ?_⟩
 rcases h with h | ⟨g, cap, cur, rfl, h1, h2, h3⟩
 ·exact .inl h
 ·exact .inr ⟨g, cap, cur, rfl, h1, (hb g rfl).trans h2, h3⟩
theorem OwnI.blk {w w' : World} {B : Nat} {v : Value} {xs : List Int} (h : OwnI w B v xs) (hb : ∀ k, v.ownBlock = some k → w'.heap[k]? = w.heap[k]?) : OwnI w' B v xs := ownsRow_blk h hb
theorem StOwn.blk {w w' : World} {B : Nat} {v : Value} {p code : Int} {rs os : List Int} (h : StOwn w B v p rs os code) (hb : ∀ k, hasBlock v k → w'.heap[k]? = w.heap[k]?) : StOwn w' B v p rs os code := by
 obtain ⟨vr, vo, rfl, h1, h2, h3⟩ := h
 exact ⟨vr, vo, rfl, h1.blk fun k hk => hb k ((hasBlock_iff _ _ _ _ _).2 (.inl hk)), h2.blk fun k hk => hb k ((hasBlock_iff _ _ _ _ _).2 (.inr hk)), h3⟩
def Cel4 (w : World) (D j : Nat) (S : S4) (v : Value) : Prop := ∃ ra rc oa oc, v = stV S.p ra S.rs.length rc oa S.os.length oc S.c ∧ w.cell? ⟨D, j, none⟩ = some (.int .i64 S.p) ∧ w.cell? ⟨D, j + 1, none⟩ = some (.slice ra S.rs.length rc) ∧ w.cell? ⟨D, j + 2, none⟩ = some (.slice oa S.os.length oc) ∧ w.cell? ⟨D, j + 3, none⟩ = some (.int .i64 S.c)
structure OutState (w : World) (D hi n : Nat) (S : Nat → S4) (vs : Nat → Value) : Prop where
 cel : ∀ i, i < n → Cel4 w D (i * 4) (S i) (vs i)
 own : ∀ i, i < n → StOwn w (D + 1) (vs i) (S i).p (S i).rs (S i).os (S i).c
 bd : ∀ i, i < n → ∀ k, hasBlock (vs i) k → k < hi
 apart : ∀ i j, i < j → j < n → ∀ k, hasBlock (vs i) k → ¬ hasBlock (vs j) k
 fr : ∀ j, w.frozen? ⟨D, j, none⟩ = false
 le : hi ≤ w.heap.size
 lt : D < hi
theorem Cel4.blk {w w' : World} {D j : Nat} {S : S4} {v : Value} (h : Cel4 w D j S v) (hb : w'.heap[D]? = w.heap[D]?) : Cel4 w' D j S v := by
 obtain ⟨ra, rc, oa, oc, e, h0, h1, h2, h3⟩ := h
 exact ⟨ra, rc, oa, oc, e, (World.cell?_of_block hb).trans h0, (World.cell?_of_block hb).trans h1, (World.cell?_of_block hb).trans h2, (World.cell?_of_block hb).trans h3⟩
theorem OutState.below {w w' : World} {D hi n B : Nat} {S : Nat → S4} {vs : Nat → Value} (o : OutState w D hi n S vs) (hb : Below B w w') (hB : hi ≤ B) : OutState w' D hi n S vs :=
 have hD : w'.heap[D]? = w.heap[D]? := hb.block D (Nat.lt_of_lt_of_le o.lt hB)
 ⟨fun i hi' => (o.cel i hi').blk hD, fun i hi' => (o.own i hi').blk fun k hk => hb.block k (Nat.lt_of_lt_of_le (o.bd i hi' k hk) hB), o.bd, o.apart, fun j => (World.frozen?_of_block hD).trans (o.fr j), Nat.le_trans o.le hb.size, o.lt⟩
theorem OutState.keep {w w' : World} {D hi n : Nat} {S : Nat → S4} {vs : Nat → Value} (o : OutState w D hi n S vs) (hs : w.heap.size ≤ w'.heap.size) (hb : ∀ k, D ≤ k → k < hi → w'.heap[k]? = w.heap[k]?) : OutState w' D hi n S vs :=
 have hD : w'.heap[D]? = w.heap[D]? := hb D (Nat.le_refl _) o.lt
 ⟨fun i hi' => (o.cel i hi').blk hD, fun i hi' => (o.own i hi').blk fun k hk => hb k (by have := ((o.own i hi').lt hk).1; omega) (o.bd i hi' k hk), o.bd, o.apart, fun j => (World.frozen?_of_block hD).trans (o.fr j), Nat.le_trans o.le hs, o.lt⟩
theorem infoSta : (Tryz.prog.info? 123).map (fun i => (i.zero, i.size, i.bytes)) = some (some (stV 0 none 0 0 none 0 0 0), 4, 64) := by kernel_rfl
theorem run_make_sta (n : Nat) (hn : n ≤ 1048576) (w : World) :
  (Instr.makeSlice 30 (.int .i64 (n : Int)) (.int .i64 (n : Int))).run Tryz.prog w = .ok (.slice (some ⟨w.heap.size, 0, none⟩) n n) (w.alloc (.cells (madeCells (stV 0 none 0 0 none 0 0 0).cells (n * 4)) 123)) := by
 have hinfo := infoSta
 cases hi : Tryz.prog.info? 123 with
 | none => rw [hi] at hinfo; cases hinfo
 | some i =>
  rw [hi] at hinfo
  simp only [Option.map_some, Option.some.injEq, Prod.mk.injEq] at hinfo
  obtain ⟨hz, hs, hb⟩ := hinfo
  have h := run_make (P := Tryz.prog) w 30 123 i _ Tryz.underlying30 hi hz .i64 .i64 (n : Int) (n : Int) (by omega) (Int.le_refl _) (by rw [hb]; omega) (by omega)
  rw [hs] at h
  simpa using h
theorem madeSta_row (w : World) (n : Nat) : ∃ f, (w.alloc (.cells (madeCells (stV 0 none 0 0 none 0 0 0).cells (n * 4)) 123)).rowIs w.heap.size 123 (n * 4) f := by
 refine ⟨fun i => (stV 0 none 0 0 none 0 0 0).cells[i % 4]!, _, blk_alloc_new _ _, size_madeCells _ _, fun i hi => ?_⟩
 simp only [madeCells]
 rw [Array.getElem?_map, Array.getElem?_range, if_pos hi]
 rfl
structure FillS (w : World) (D k : Nat) (f : Nat → Value) (S : Nat → S4) (vs : Nat → Value) : Prop where
 cel : ∀ i, i < k → ∃ ra rc oa oc, vs i = stV (S i).p ra (S i).rs.length rc oa (S i).os.length oc (S i).c ∧ f (i * 4) = .int .i64 (S i).p ∧ f (i * 4 + 1) = .slice ra (S i).rs.length rc ∧ f (i * 4 + 2) = .slice oa (S i).os.length oc ∧ f (i * 4 + 3) = .int .i64 (S i).c
 own : ∀ i, i < k → StOwn w (D + 1) (vs i) (S i).p (S i).rs (S i).os (S i).c
 apart : ∀ i j, i < j → j < k → ∀ b, hasBlock (vs i) b → ¬ hasBlock (vs j) b
theorem FillS.step {w w1 : World} {D k : Nat} {f : Nat → Value} {S : Nat → S4} {vs : Nat → Value} (o : FillS w D k f S vs) (hb : Below w.heap.size w w1) (hD : D < w.heap.size) {ra oa : Option Addr} {rc oc : Nat} (hv : StOwn w1 w.heap.size (stV (S k).p ra (S k).rs.length rc oa (S k).os.length oc (S k).c) (S k).p (S k).rs (S k).os (S k).c) (a b c d : Value) :
  FillS ((((w1.setCell ⟨D, k * 4, none⟩ a).setCell ⟨D, k * 4 + 1, none⟩ b).setCell ⟨D, k * 4 + 2, none⟩ c).setCell ⟨D, k * 4 + 3, none⟩ d) D (k + 1)
   (fun i => if i = k * 4 + 3 then .int .i64 (S k).c else if i = k * 4 + 2 then .slice oa (S k).os.length oc else if i = k * 4 + 1 then .slice ra (S k).rs.length rc else if i = k * 4 then .int .i64 (S k).p else f i) S
   (fun i => if i = k then stV (S k).p ra (S k).rs.length rc oa (S k).os.length oc (S k).c else vs i) := by
 have hs : ∀ g, g ≠ D → ((((w1.setCell ⟨D, k * 4, none⟩ a).setCell ⟨D, k * 4 + 1, none⟩ b).setCell ⟨D, k * 4 + 2, none⟩ c).setCell ⟨D, k * 4 + 3, none⟩ d).heap[g]? = w1.heap[g]? := fun g hne => (Below.heap_setCell _ _ _ _ hne).trans ((Below.heap_setCell _ _ _ _ hne).trans ((Below.heap_setCell _ _ _ _ hne).trans (Below.heap_setCell _ _ _ _ hne)))
 refine ⟨fun i hi => ?_, fun i hi => ?_, fun i j hij hj g h1 => ?_⟩
 ·by_cases e : i = k
  ·subst e
   exact ⟨ra, rc, oa, oc, by simp, by simp, by simp, by simp, by simp⟩
  ·obtain ⟨ra', rc', oa', oc', e0, e1, e2, e3, e4⟩ := o.cel i (by omega)
   refine ⟨ra', rc', oa', oc', by simp only [if_neg e]; exact e0, ?_, ?_, ?_, ?_⟩
   ·rw [if_neg (by omega), if_neg (by omega), if_neg (by omega), if_neg (by omega)]; exact e1
   ·rw [if_neg (by omega), if_neg (by omega), if_neg (by omega), if_neg (by omega)]; exact e2
   ·rw [if_neg (by omega), if_neg (by omega), if_neg (by omega), if_neg (by omega)]; exact e3
   ·rw [if_neg (by omega), if_neg (by omega), if_neg (by omega), if_neg (by omega)]; exact e4
 ·by_cases e : i = k
  ·subst e
   simp only [if_true]
   refine StOwn.blk (hv.mono (by omega)) fun g hg => hs g ?_
   have := (hv.lt hg).1
   omega
  ·simp only [if_neg e]
   have ho := o.own i (by omega)
   refine (ho.below hb).blk fun g hg => hs g ?_
   have := (ho.lt hg).1
   omega
 ·by_cases e : j = k
  ·have hi : i ≠ k := by omega
   simp only [if_neg hi] at h1
   simp only [if_pos e]
   intro h2
   have a1 := ((o.own i (by omega)).lt h1).2
   have a2 := (hv.lt h2).1
   omega
  ·have hi : i ≠ k := by omega
   simp only [if_neg hi] at h1
   simp only [if_neg e]
   exact o.apart i j hij (by omega) g h1
theorem toStateS_any (a0 : Option Addr) (n cap : Nat) (q : Nat → St8) (W w : World) (hn : n ≤ 1048576) (hl : ∀ i, i < n → (q i).rs.length ≤ 1048576 ∧ (q i).os.length ≤ 1048576) (hA : AllState W a0 n q) (hW : Below W.heap.size W w) :
  Calls Tryz.prog 31 #[.slice a0 n cap] w fun e w' => e = .returned (.slice (some ⟨w.heap.size, 0, none⟩) n n) ∧ (∃ vs, OutState w' w.heap.size w'.heap.size n (fun i => (q i).s) vs) ∧ Below w.heap.size w w' := by
 have hl' : (n : Int) ≤ 1048576 := by omega
 have hmk := run_make_sta n hn
 have HA : Hid (AllState W a0 n q) := hA
 have HW : Hid (Below W.heap.size W w) := hW
 have HL : Hid (∀ i, i < n → (q i).rs.length ≤ 1048576 ∧ (q i).os.length ≤ 1048576) := hl
 clear hA hW hl
 go_enter Tryz.func31, Tryz.ntmps31
 go_wp2_with fail
 clear hmk
 go_loopw [4] (fun i wr => ∃ k : Nat, k ≤ n ∧ i = .int .i64 k ∧ (∃ f, wr.rowIs w.heap.size 123 (n * 4) f ∧ Hid (∃ vs, FillS wr w.heap.size k f (fun i => (q i).s) vs)) ∧ Below w.heap.size w wr) (fun i _ => n - (intOf i).toNat)
 case atStart =>
  obtain ⟨f, hf⟩ := madeSta_row w n
  exact ⟨0, Nat.zero_le _, rfl, ⟨f, hf, fun _ => .int .i64 0, fun i hi => by omega, fun i hi => by omega, fun i j hij hj => by omega⟩, (Below.refl _ _).alloc (Nat.le_refl _) _⟩
 case round =>
  obtain ⟨k, hk, rfl, ⟨f, hrow, HF⟩, hbw⟩ := hrel
  have hs := hrow.lt
  by_cases hlt : k < n
  ·have hlt' : (k : Int) < (n : Int) := by omega
   have HB : Hid (AllState wr a0 n q) := HA.out.below (HW.out.trans (hbw.mono HW.out.size))
   obtain ⟨b, off, rfl, c0, c1, c2, c3⟩ := HB.out.at hlt
   have HR : Hid (wr.rowIs w.heap.size 123 (n * 4) f) := hrow
   clear hrow
   go_wp2_with fail
   refine (toState_any _ _ _ _ _ _ (q k).rs (q k).os _ (HL.out k hlt).1 (HL.out k hlt).2 (HB.out.lst k hlt).1 (HB.out.lst k hlt).2).mono ?_
   rintro e w1 ⟨v1, rfl, o1, hb1⟩
   obtain ⟨ra1, rc1, oa1, oc1, rfl, -, -⟩ := o1.read
   have hr1 : w1.rowIs w.heap.size 123 (n * 4) f := HR.out.of_block (hb1.block _ hs)
   have f0 := hr1.frozen
   have g0 := hr1.cell (i := k * 4) (by omega)
   have g1 := hr1.cell (i := k * 4 + 1) (by omega)
   have g2 := hr1.cell (i := k * 4 + 2) (by omega)
   have g3 := hr1.cell (i := k * 4 + 3) (by omega)
   have HR1 : Hid (w1.rowIs w.heap.size 123 (n * 4) f) := hr1
   have HF1 : Hid (∀ a b c d : Value, ∃ vs, FillS ((((w1.setCell ⟨w.heap.size, k * 4, none⟩ a).setCell ⟨w.heap.size, k * 4 + 1, none⟩ b).setCell ⟨w.heap.size, k * 4 + 2, none⟩ c).setCell ⟨w.heap.size, k * 4 + 3, none⟩ d) w.heap.size (k + 1) (fun i => if i = k * 4 + 3 then .int .i64 (q k).c else if i = k * 4 + 2 then .slice oa1 (q k).os.length oc1 else if i = k * 4 + 1 then .slice ra1 (q k).rs.length rc1 else if i = k * 4 then .int .i64 (q k).p else f i) (fun i => (q i).s) vs) := by
    intro a b c d
    obtain ⟨vs, o⟩ := HF.out
    exact ⟨_, o.step hb1 hs (S := fun i => (q i).s) (k := k) o1 a b c d⟩
   clear hr1 o1 HF HR HB c0 c1 c2 c3
   go_wp2_with fail
   exact ⟨⟨k + 1, by omega, by go_num, ⟨_, (((HR1.out.set _ _).set _ _).set _ _).set _ _, HF1.out _ _ _ _⟩, ((((hbw.trans (hb1.mono (Nat.le_of_lt hs))).setCell (Nat.le_refl _) _).setCell (Nat.le_refl _) _).setCell (Nat.le_refl _) _).setCell (Nat.le_refl _) _⟩, by simp [intOf]; omega⟩
  ·have hkl : k = n := by omega
   have HO : Hid (∃ vs, OutState wr w.heap.size wr.heap.size n (fun i => (q i).s) vs) := by
    obtain ⟨vs, o⟩ := HF.out
    rw [hkl] at o
    refine ⟨vs, fun i hi => ?_, o.own, fun i hi b hb => ((o.own i hi).lt hb).2, o.apart, fun j => hrow.frozen j, Nat.le_refl _, hs⟩
    obtain ⟨ra, rc, oa, oc, e0, e1, e2, e3, e4⟩ := o.cel i hi
    exact ⟨ra, rc, oa, oc, e0, by rw [hrow.cell (by omega), e1], by rw [hrow.cell (by omega), e2], by rw [hrow.cell (by omega), e3], by rw [hrow.cell (by omega), e4]⟩
   clear hkl HF hrow
   go_wp2
   go_ret
   exact ⟨rfl, HO.out, hbw⟩
def flat (f : Nat → List Value) : Nat → List Value
 | 0 => []
 | n + 1 => flat f n ++ f n
theorem flat_len {f : Nat → List Value} {sz : Nat} : ∀ {n : Nat}, (∀ i, i < n → (f i).length = sz) → (flat f n).length = n * sz
 | 0, _ => by simp [flat]
 | n + 1, h => by
  rw [flat, List.length_append, flat_len (fun i hi => h i (by omega)), h n (by omega), Nat.add_mul, Nat.one_mul]
theorem flat_at {f : Nat → List Value} {sz : Nat} : ∀ {n : Nat}, (∀ i, i < n → (f i).length = sz) → ∀ {i j : Nat}, i < n → j < sz → (flat f n)[i * sz + j]? = (f i)[j]?
 | 0, _, i, j, hi, _ => by omega
 | n + 1, h, i, j, hi, hj => by
  have hl := flat_len (f := f) (sz := sz) (n := n) fun i hi => h i (by omega)
  by_cases e : i = n
  ·subst e
   rw [flat, List.getElem?_append_right (by omega), hl]
   congr 1
   omega
  ·have : i * sz + sz ≤ n * sz := by
    have := Nat.mul_le_mul_right sz (show i + 1 ≤ n by omega)
    rw [Nat.add_mul, Nat.one_mul] at this
    exact this
   rw [flat, List.getElem?_append_left (by omega)]
   exact flat_at (fun i hi => h i (by omega)) (by omega) hj
theorem flat_one {f : Nat → List Value} : ∀ {n : Nat}, (∀ i, i < n → ∀ u ∈ f i, u.oneCell' = true) → ∀ u ∈ flat f n, u.oneCell' = true
 | 0, _, u, hu => by simp [flat] at hu
 | n + 1, h, u, hu => by
  rw [flat, List.mem_append] at hu
  rcases hu with hu | hu
  ·exact flat_one (fun i hi => h i (by omega)) u hu
  ·exact h n (by omega) u hu
theorem flat_congr {f g : Nat → List Value} : ∀ {n : Nat}, (∀ i, i < n → f i = g i) → flat f n = flat g n
 | 0, _ => rfl
 | n + 1, h => by rw [flat, flat, flat_congr fun i hi => h i (by omega), h n (by omega)]
theorem flat_set4 {f : Nat → List Value} {n i : Nat} (hl : ∀ j, j < n → (f j).length = 4) (hi : i < n) (a b c d : Value) :
  flat (fun j => if j = i then [a, b, c, d] else f j) n = ((((flat f n).set (i * 4) a).set (i * 4 + 1) b).set (i * 4 + 2) c).set (i * 4 + 3) d := by
 have hl' : ∀ j, j < n → ((fun j => if j = i then [a, b, c, d] else f j) j).length = 4 := fun j hj => by
  by_cases e : j = i
  ·simp [e]
  ·simp [e, hl j hj]
 have n1 := flat_len hl
 have n2 := flat_len hl'
 apply List.ext_getElem?
 intro q
 by_cases hq : q < n * 4
 ·have hk : q / 4 < n := by omega
  have hr : q % 4 < 4 := by omega
  have e : q = q / 4 * 4 + q % 4 := by omega
  have e1 := flat_at hl' hk hr
  have e2 := flat_at hl hk hr
  rw [← e] at e1 e2
  rw [e1]
  by_cases ei : q / 4 = i
  ·simp only [if_pos ei]
   have hr4 : q % 4 = 0 ∨ q % 4 = 1 ∨ q % 4 = 2 ∨ q % 4 = 3 := by omega
   rcases hr4 with h | h | h | h <;> rw [h] <;>
    (simp only [List.getElem?_set, List.length_set, n1]
     have : i < n := hi
     repeat (first | rw [if_pos (by omega)] | rw [if_neg (by omega)])
     simp)
  ·simp only [if_neg ei]
   simp only [List.getElem?_set, List.length_set, n1]
   rw [if_neg (by omega), if_neg (by omega), if_neg (by omega), if_neg (by omega), e2]
 ·rw [List.getElem?_eq_none (by omega), List.getElem?_eq_none (by simp only [List.length_set]; omega)]
def cellsL : Value → List Value
 | .agg a => a.toList
 | _ => []
theorem StOwn.cellsL {w : World} {B : Nat} {v : Value} {p code : Int} {rs os : List Int} (h : StOwn w B v p rs os code) : (cellsL v).length = 4 ∧ ∀ u ∈ cellsL v, u.oneCell' = true := by
 obtain ⟨vr, vo, rfl, h1, h2, -⟩ := h
 obtain ⟨a1, c1, rfl, -⟩ := h1.form
 obtain ⟨a2, c2, rfl, -⟩ := h2.form
 refine ⟨rfl, fun u hu => ?_⟩
 simp [Go.Proofs.YtfdanemmefckpaaGreatDoor.cellsL] at hu
 rcases hu with rfl | rfl | rfl | rfl <;> rfl
structure LS (w : World) (P : Nat → Prop) (v : Value) (n : Nat) (vs : Nat → Value) (S : Nat → S4) : Prop where
 row : w.ownsRow 0 123 4 v n (flat (fun i => cellsL (vs i)) n)
 own : ∀ i, i < n → StOwn w 0 (vs i) (S i).p (S i).rs (S i).os (S i).c
 rb : ∀ k, v.ownBlock = some k → P k
 ob : ∀ i, i < n → ∀ k, hasBlock (vs i) k → P k
 ra : ∀ i, i < n → ∀ k, hasBlock (vs i) k → v.ownBlock ≠ some k
 oa : ∀ i j, i < n → j < n → i ≠ j → ∀ k, hasBlock (vs i) k → ¬ hasBlock (vs j) k
section
variable {w : World} {P : Nat → Prop} {v : Value} {n : Nat} {vs : Nat → Value} {S : Nat → S4}
theorem LS.keep (o : LS w P v n vs S) {w' : World} (hb : ∀ k, P k → k < w.heap.size → w'.heap[k]? = w.heap[k]?) : LS w' P v n vs S :=
 ⟨ownsRow_blkL o.row fun k hk => hb k (o.rb k hk) (o.row.lt k hk).2, fun i hi => (o.own i hi).blk fun k hk => hb k (o.ob i hi k hk) ((o.own i hi).lt hk).2, o.rb, o.ob, o.ra, o.oa⟩
theorem LS.below (o : LS w P v n vs S) {w' : World} (hb : Below w.heap.size w w') : LS w' P v n vs S := o.keep fun k _ hk => hb.block k hk
theorem LS.mono (o : LS w P v n vs S) {P' : Nat → Prop} (h : ∀ k, P k → k < w.heap.size → P' k) : LS w P' v n vs S :=
 ⟨o.row, o.own, fun k hk => h k (o.rb k hk) (o.row.lt k hk).2, fun i hi k hk => h k (o.ob i hi k hk) ((o.own i hi).lt hk).2, o.ra, o.oa⟩
theorem LS.nil (w : World) (P : Nat → Prop) (vs : Nat → Value) (S : Nat → S4) : LS w P (.slice none 0 0) 0 vs S :=
 ⟨World.ownsRow_nil _ _ _ _, fun i hi => (by omega), fun k hk => (by cases hk), fun i hi => (by omega), fun i hi => (by omega), fun i j hi => (by omega)⟩
theorem LS.push (o : LS w P v n vs S) {w1 w2 : World} {u' v' : Value} (b1 : Below w.heap.size w w1) (hu : StOwn w1 w.heap.size u' (S n).p (S n).rs (S n).os (S n).c) (hv : w2.ownsRow 0 123 4 v' (n + 1) (flat (fun i => cellsL (vs i)) n ++ cellsL u')) (g : w1.grownBy w2 v.ownBlock)
  (hv' : ∀ j, v'.ownBlock = some j → v.ownBlock = some j ∨ w1.heap.size ≤ j) {P' : Nat → Prop} (hP : ∀ k, P k → k < w.heap.size → P' k) (hP' : ∀ k, w.heap.size ≤ k → k < w2.heap.size → P' k) : LS w2 P' v' (n + 1) (fun j => if j = n then u' else vs j) S := by
 have hvlt : ∀ k, v.ownBlock = some k → k < w.heap.size := fun k hk => (o.row.lt k hk).2
 have lts : ∀ i, i < n → ∀ k, hasBlock (vs i) k → k < w.heap.size := fun i hi k hk => ((o.own i hi).lt hk).2
 have hu2 : StOwn w2 w.heap.size u' (S n).p (S n).rs (S n).os (S n).c := hu.blk fun k hk => g.block k (hu.lt hk).2 fun e => by
  have q1 := (hu.lt hk).1
  have q2 := hvlt k e.symm
  omega
 have ho2 : ∀ i, i < n → StOwn w2 0 (vs i) (S i).p (S i).rs (S i).os (S i).c := fun i hi => (o.own i hi).blk fun k hk => (g.block k (Nat.lt_of_lt_of_le (lts i hi k hk) b1.size) fun e => o.ra i hi k hk e.symm).trans (b1.block k (lts i hi k hk))
 refine ⟨?_, fun i hi => ?_, fun k hk => ?_, fun i hi k hk => ?_, fun i hi k hk => ?_, fun i j hi hj hij k hk => ?_⟩
 ·have e : flat (fun i => cellsL (if i = n then u' else vs i)) (n + 1) = flat (fun i => cellsL (vs i)) n ++ cellsL u' := by
   rw [flat, if_pos rfl]
   congr 1
   exact flat_congr fun i hi => by rw [if_neg (by omega)]
  rw [e]
  exact hv
 ·by_cases ei : i = n
  ·subst ei
   simp only [if_true]
   exact hu2.mono (Nat.zero_le _)
  ·simp only [if_neg ei]
   exact ho2 i (by omega)
 ·rcases hv' k hk with h | h
  ·exact hP k (o.rb k h) (hvlt k h)
  ·exact hP' k (Nat.le_trans b1.size h) (hv.lt k hk).2
 ·by_cases ei : i = n
  ·simp only [if_pos ei] at hk
   exact hP' k (hu.lt hk).1 (hu2.lt hk).2
  ·simp only [if_neg ei] at hk
   exact hP k (o.ob i (by omega) k hk) (lts i (by omega) k hk)
 ·intro hvk
  by_cases ei : i = n
  ·simp only [if_pos ei] at hk
   rcases hv' k hvk with h | h
   ·have := hvlt k h
    have := (hu.lt hk).1
    omega
   ·have := (hu.lt hk).2
    omega
  ·simp only [if_neg ei] at hk
   rcases hv' k hvk with h | h
   ·exact o.ra i (by omega) k hk h
   ·have := lts i (by omega) k hk
    have := b1.size
    omega
 ·intro hjk
  by_cases ei : i = n
  ·have ej : j ≠ n := fun e => hij (by omega)
   simp only [if_pos ei] at hk
   simp only [if_neg ej] at hjk
   have := lts j (by omega) k hjk
   have := (hu.lt hk).1
   omega
  ·simp only [if_neg ei] at hk
   by_cases ej : j = n
   ·simp only [if_pos ej] at hjk
    have := lts i (by omega) k hk
    have := (hu.lt hjk).1
    omega
   ·simp only [if_neg ej] at hjk
    exact o.oa i j (by omega) (by omega) hij k hk hjk
theorem LS.cell (o : LS w P v n vs S) {i : Nat} (hi : i < n) : ∃ g cap, v = .slice (some ⟨g, 0, none⟩) n cap ∧ P g ∧ g < w.heap.size ∧ Cel4 w g (i * 4) (S i) (vs i) ∧ ∀ j, w.frozen? ⟨g, j, none⟩ = false := by
 have hr := o.row
 rcases hr.2 with ⟨_, h0⟩ | ⟨g, cap, cur, rfl, hb, hg, hcap, _⟩
 ·omega
 ·refine ⟨g, cap, rfl, o.rb g rfl, (o.row.lt g rfl).2, ?_, fun j => o.row.frozenAt j⟩
  have hl : ∀ j, j < n → (cellsL (vs j)).length = 4 := fun j hj => (o.own j hj).cellsL.1
  have hc : ∀ j, j < 4 → w.cell? ⟨g, i * 4 + j, none⟩ = (cellsL (vs i))[j]? := fun j hj => by
   rw [o.row.cellAt (i * 4 + j) (by omega)]
   exact flat_at hl hi hj
  obtain ⟨vr, vo, e, h1, h2, -⟩ := o.own i hi
  obtain ⟨a1, c1, rfl, -⟩ := h1.form
  obtain ⟨a2, c2, rfl, -⟩ := h2.form
  rw [e] at hc
  exact ⟨a1, c1, a2, c2, e, hc 0 (by omega), hc 1 (by omega), hc 2 (by omega), hc 3 (by omega)⟩
theorem LS.put {g cap : Nat} (o : LS w P (.slice (some ⟨g, 0, none⟩) n cap) n vs S) {i : Nat} (hi : i < n) {w1 : World} {ra oa : Option Addr} {rn rc on oc : Nat} {p code : Int} {T : S4} (b1 : Below w.heap.size w w1) (hu : StOwn w1 w.heap.size (stV p ra rn rc oa on oc code) T.p T.rs T.os T.c)
  {P' : Nat → Prop} (hP : ∀ k, P k → k < w.heap.size → P' k) (hP' : ∀ k, w.heap.size ≤ k → k < w1.heap.size → P' k) :
  LS ((((w1.setCell ⟨g, i * 4, none⟩ (.int .i64 p)).setCell ⟨g, i * 4 + 1, none⟩ (.slice ra rn rc)).setCell ⟨g, i * 4 + 2, none⟩ (.slice oa on oc)).setCell ⟨g, i * 4 + 3, none⟩ (.int .i64 code)) P' (.slice (some ⟨g, 0, none⟩) n cap) n (fun j => if j = i then stV p ra rn rc oa on oc code else vs j) (fun j => if j = i then T else S j) := by
 have hg : g < w.heap.size := (o.row.lt g rfl).2
 have lts : ∀ j, j < n → ∀ k, hasBlock (vs j) k → k < w.heap.size := fun j hj k hk => ((o.own j hj).lt hk).2
 have hbk : ∀ k, k ≠ g → ((((w1.setCell ⟨g, i * 4, none⟩ (.int .i64 p)).setCell ⟨g, i * 4 + 1, none⟩ (.slice ra rn rc)).setCell ⟨g, i * 4 + 2, none⟩ (.slice oa on oc)).setCell ⟨g, i * 4 + 3, none⟩ (.int .i64 code)).heap[k]? = w1.heap[k]? := fun k hne => (Below.heap_setCell _ _ _ _ hne).trans ((Below.heap_setCell _ _ _ _ hne).trans ((Below.heap_setCell _ _ _ _ hne).trans (Below.heap_setCell _ _ _ _ hne)))
 refine ⟨?_, fun j hj => ?_, fun k hk => ?_, fun j hj k hk => ?_, fun j hj k hk => ?_, fun a b ha hb hab k hk => ?_⟩
 ·have hl : ∀ j, j < n → (cellsL (vs j)).length = 4 := fun j hj => (o.own j hj).cellsL.1
  have e : flat (fun j => cellsL (if j = i then stV p ra rn rc oa on oc code else vs j)) n = flat (fun j => if j = i then [.int .i64 p, .slice ra rn rc, .slice oa on oc, .int .i64 code] else cellsL (vs j)) n := flat_congr fun j _ => by
   by_cases ej : j = i
   ·rw [if_pos ej, if_pos ej]; rfl
   ·rw [if_neg ej, if_neg ej]
  rw [e, flat_set4 hl hi]
  exact (World.ownsRow.stored (World.ownsRow.stored (World.ownsRow.stored (World.ownsRow.stored (ownsRow_blkL o.row fun k hk => by cases hk; exact b1.block g hg) _ _).1 _ _).1 _ _).1 _ _).1
 ·by_cases ej : j = i
  ·subst ej
   simp only [if_true]
   refine (hu.mono (Nat.zero_le _)).blk fun k hk => hbk k ?_
   have := (hu.lt hk).1
   omega
  ·simp only [if_neg ej]
   refine (o.own j hj).blk fun k hk => (hbk k fun e => ?_).trans (b1.block k (lts j hj k hk))
   exact o.ra j hj k hk (by rw [e]; rfl)
 ·cases hk
  exact hP g (o.rb g rfl) hg
 ·by_cases ej : j = i
  ·simp only [if_pos ej] at hk
   exact hP' k (hu.lt hk).1 (hu.lt hk).2
  ·simp only [if_neg ej] at hk
   exact hP k (o.ob j hj k hk) (lts j hj k hk)
 ·intro hvk
  by_cases ej : j = i
  ·simp only [if_pos ej] at hk
   have := (hu.lt hk).1
   have hkg : g = k := by simpa [Value.ownBlock] using hvk
   omega
  ·simp only [if_neg ej] at hk
   exact o.ra j hj k hk hvk
 ·intro hbk'
  by_cases ea : a = i
  ·have eb : b ≠ i := fun e => hab (by omega)
   simp only [if_pos ea] at hk
   simp only [if_neg eb] at hbk'
   have := lts b hb k hbk'
   have := (hu.lt hk).1
   omega
  ·simp only [if_neg ea] at hk
   by_cases eb : b = i
   ·simp only [if_pos eb] at hbk'
    have := lts a ha k hk
    have := (hu.lt hbk').1
    omega
   ·simp only [if_neg eb] at hbk'
    exact o.oa a b ha hb hab k hk hbk'
end
def ItL (w : World) (a : Option Addr) (len : Nat) (h : Nat → I2) : Prop := len = 0 ∨ ∃ b off, a = some ⟨b, off, none⟩ ∧ b < w.heap.size ∧ ItAt w b off len h
theorem ItL.below {w w' : World} {a : Option Addr} {len : Nat} {h : Nat → I2} (hh : ItL w a len h) (hb : Below w.heap.size w w') : ItL w' a len h := by
 rcases hh with e | ⟨b, off, e, hlt, hc⟩
 ·exact .inl e
 ·exact .inr ⟨b, off, e, Nat.lt_of_lt_of_le hlt hb.size, hc.below hb hlt⟩
theorem ItL.at {w : World} {a : Option Addr} {len : Nat} {h : Nat → I2} (hh : ItL w a len h) {k : Nat} (hk : k < len) : ∃ b off, a = some ⟨b, off, none⟩ ∧ b < w.heap.size ∧ w.cell? ⟨b, off + k * 2, none⟩ = some (.bool (h k).m) ∧ w.cell? ⟨b, off + k * 2 + 1, none⟩ = some (.int .i64 (h k).v) := by
 rcases hh with rfl | ⟨b, off, e, hlt, hc⟩
 ·omega
 ·exact ⟨b, off, e, hlt, hc k hk⟩
def cI (h : I5) : List Value := [.int .i64 h.o, .int .i64 h.r, .int .i64 h.a, .int .i64 h.b, .int .i64 h.n]
def cT (h : I2) : List Value := [.bool h.m, .int .i64 h.v]
def cE (h : E3) : List Value := [.int .i64 h.k, .int .i64 h.q, .int .i64 h.v]
def fI (h : Nat → I5) (n : Nat) : List Value := flat (fun i => cI (h i)) n
def fT (h : Nat → I2) (n : Nat) : List Value := flat (fun i => cT (h i)) n
def fE (h : Nat → E3) (n : Nat) : List Value := flat (fun i => cE (h i)) n
theorem fI_len (h : Nat → I5) (n : Nat) : (fI h n).length = n * 5 := flat_len fun _ _ => rfl
theorem fT_len (h : Nat → I2) (n : Nat) : (fT h n).length = n * 2 := flat_len fun _ _ => rfl
theorem fE_len (h : Nat → E3) (n : Nat) : (fE h n).length = n * 3 := flat_len fun _ _ => rfl
theorem fI_one (h : Nat → I5) (n : Nat) : ∀ u ∈ fI h n, u.oneCell' = true := flat_one fun i _ u hu => by
 simp [cI] at hu
 rcases hu with rfl | rfl | rfl | rfl | rfl <;> rfl
theorem fT_one (h : Nat → I2) (n : Nat) : ∀ u ∈ fT h n, u.oneCell' = true := flat_one fun i _ u hu => by
 simp [cT] at hu
 rcases hu with rfl | rfl <;> rfl
theorem fE_one (h : Nat → E3) (n : Nat) : ∀ u ∈ fE h n, u.oneCell' = true := flat_one fun i _ u hu => by
 simp [cE] at hu
 rcases hu with rfl | rfl | rfl <;> rfl
theorem kndI : Kind 122 149 5 40 := by
 refine ⟨Tryz.underlying122, ?_, by omega, by omega⟩
 have hinfo : (Tryz.prog.info? 149).map (fun i => (i.zero, i.size, i.bytes)) = some (some (.agg #[.int .i64 0, .int .i64 0, .int .i64 0, .int .i64 0, .int .i64 0]), 5, 40) := by kernel_rfl
 cases hi : Tryz.prog.info? 149 with
 | none => rw [hi] at hinfo; cases hinfo
 | some i =>
  rw [hi] at hinfo
  simp only [Option.map_some, Option.some.injEq, Prod.mk.injEq] at hinfo
  exact ⟨i, _, rfl, hinfo.1, hinfo.2.1, hinfo.2.2, rfl⟩
theorem kndT : Kind 93 95 2 16 := by
 refine ⟨Tryz.underlying93, ?_, by omega, by omega⟩
 have hinfo : (Tryz.prog.info? 95).map (fun i => (i.zero, i.size, i.bytes)) = some (some (.agg #[.bool false, .int .i64 0]), 2, 16) := by kernel_rfl
 cases hi : Tryz.prog.info? 95 with
 | none => rw [hi] at hinfo; cases hinfo
 | some i =>
  rw [hi] at hinfo
  simp only [Option.map_some, Option.some.injEq, Prod.mk.injEq] at hinfo
  exact ⟨i, _, rfl, hinfo.1, hinfo.2.1, hinfo.2.2, rfl⟩
theorem kndE : Kind 107 106 3 24 := by
 refine ⟨Tryz.underlying107, ?_, by omega, by omega⟩
 have hinfo : (Tryz.prog.info? 106).map (fun i => (i.zero, i.size, i.bytes)) = some (some (.agg #[.int .i64 0, .int .i64 0, .int .i64 0]), 3, 24) := by kernel_rfl
 cases hi : Tryz.prog.info? 106 with
 | none => rw [hi] at hinfo; cases hinfo
 | some i =>
  rw [hi] at hinfo
  simp only [Option.map_some, Option.some.injEq, Prod.mk.injEq] at hinfo
  exact ⟨i, _, rfl, hinfo.1, hinfo.2.1, hinfo.2.2, rfl⟩
theorem kndS : Kind 30 123 4 64 := by
 refine ⟨Tryz.underlying30, ?_, by omega, by omega⟩
 have hinfo := infoSta
 cases hi : Tryz.prog.info? 123 with
 | none => rw [hi] at hinfo; cases hinfo
 | some i =>
  rw [hi] at hinfo
  simp only [Option.map_some, Option.some.injEq, Prod.mk.injEq] at hinfo
  exact ⟨i, _, rfl, hinfo.1, hinfo.2.1, hinfo.2.2, rfl⟩
theorem kndII : Kind 29 122 1 24 := by
 refine ⟨Tryz.underlying29, ?_, by omega, by omega⟩
 have hinfo : (Tryz.prog.info? 122).map (fun i => (i.zero, i.size, i.bytes)) = some (some (.slice none 0 0), 1, 24) := by kernel_rfl
 cases hi : Tryz.prog.info? 122 with
 | none => rw [hi] at hinfo; cases hinfo
 | some i =>
  rw [hi] at hinfo
  simp only [Option.map_some, Option.some.injEq, Prod.mk.injEq] at hinfo
  exact ⟨i, _, rfl, hinfo.1, hinfo.2.1, hinfo.2.2, rfl⟩
theorem kndTT : Kind 31 93 1 24 := by
 refine ⟨Tryz.underlying31, ?_, by omega, by omega⟩
 have hinfo : (Tryz.prog.info? 93).map (fun i => (i.zero, i.size, i.bytes)) = some (some (.slice none 0 0), 1, 24) := by kernel_rfl
 cases hi : Tryz.prog.info? 93 with
 | none => rw [hi] at hinfo; cases hinfo
 | some i =>
  rw [hi] at hinfo
  simp only [Option.map_some, Option.some.injEq, Prod.mk.injEq] at hinfo
  exact ⟨i, _, rfl, hinfo.1, hinfo.2.1, hinfo.2.2, rfl⟩
theorem kndEE : Kind 32 107 1 24 := by
 refine ⟨Tryz.underlying32, ?_, by omega, by omega⟩
 have hinfo : (Tryz.prog.info? 107).map (fun i => (i.zero, i.size, i.bytes)) = some (some (.slice none 0 0), 1, 24) := by kernel_rfl
 cases hi : Tryz.prog.info? 107 with
 | none => rw [hi] at hinfo; cases hinfo
 | some i =>
  rw [hi] at hinfo
  simp only [Option.map_some, Option.some.injEq, Prod.mk.injEq] at hinfo
  exact ⟨i, _, rfl, hinfo.1, hinfo.2.1, hinfo.2.2, rfl⟩
theorem srcOf {w : World} {b off sz n : Nat} {f : Nat → List Value} (hb : b < w.heap.size) (hsz : 0 < sz) (hl : ∀ i, i < n → (f i).length = sz) (hc : ∀ i, i < n → ∀ j, j < sz → w.cell? ⟨b, off + (i * sz + j), none⟩ = (f i)[j]?) : Src w (some ⟨b, off, none⟩) (flat f n) := by
 refine .inr ⟨b, off, rfl, hb, fun q u hq => ?_⟩
 have hlen := flat_len hl
 have hq' : q < n * sz := by
  rcases Nat.lt_or_ge q (n * sz) with h | h
  ·exact h
  ·rw [List.getElem?_eq_none (by omega)] at hq
   cases hq
 have hk : q / sz < n := Nat.div_lt_of_lt_mul (by rw [Nat.mul_comm]; exact hq')
 have hr : q % sz < sz := Nat.mod_lt _ hsz
 have e : q / sz * sz + q % sz = q := by rw [Nat.mul_comm]; exact Nat.div_add_mod q sz
 have h1 := hc (q / sz) hk (q % sz) hr
 have h2 := flat_at hl hk hr
 rw [e] at h1 h2
 rw [h1, ← h2, hq]
theorem srcI {w : World} {b off len : Nat} {g : Nat → I5} (hb : b < w.heap.size) (h : InsAt w b off len g) : Src w (some ⟨b, off, none⟩) (fI g len) := srcOf (sz := 5) hb (by omega) (fun _ _ => rfl) fun i hi j hj => by
 obtain ⟨h0, h1, h2, h3, h4⟩ := h i hi
 match j, hj with
 | 0, _ => exact h0
 | 1, _ => exact h1
 | 2, _ => exact h2
 | 3, _ => exact h3
 | 4, _ => exact h4
theorem srcT {w : World} {a : Option Addr} {len : Nat} {g : Nat → I2} (h : ItL w a len g) : Src w a (fT g len) := by
 rcases h with rfl | ⟨b, off, rfl, hb, h⟩
 ·exact .inl rfl
 ·refine srcOf (sz := 2) hb (by omega) (fun _ _ => rfl) fun i hi j hj => ?_
  obtain ⟨h0, h1⟩ := h i hi
  match j, hj with
  | 0, _ => exact h0
  | 1, _ => exact h1
theorem srcE {w : World} {a : Option Addr} {len : Nat} {g : Nat → E3} (h : EvL w a len g) : Src w a (fE g len) := by
 rcases h with rfl | ⟨b, off, rfl, hb, h⟩
 ·exact .inl rfl
 ·refine srcOf (sz := 3) hb (by omega) (fun _ _ => rfl) fun i hi j hj => ?_
  obtain ⟨h0, h1, h2⟩ := h i hi
  match j, hj with
  | 0, _ => exact h0
  | 1, _ => exact h1
  | 2, _ => exact h2
theorem atI {w : World} {B : Nat} {u : Value} {n : Nat} {g : Nat → I5} (o : w.ownsRow B 149 5 u n (fI g n)) (hne : u ≠ .slice none 0 0) : ∃ b cap, u = .slice (some ⟨b, 0, none⟩) n cap ∧ b < w.heap.size ∧ InsAt w b 0 n g ∧ n ≤ cap := by
 rcases o.2 with ⟨e, _⟩ | ⟨b, cap, cur, rfl, hb, hg, hcap, _⟩
 ·exact absurd e hne
 ·refine ⟨b, cap, rfl, (o.lt b rfl).2, fun i hi => ?_, hcap⟩
  have hc : ∀ j, j < 5 → w.cell? ⟨b, 0 + (i * 5 + j), none⟩ = (cI (g i))[j]? := fun j hj => by
   rw [Nat.zero_add, o.cellAt _ (by omega)]
   exact flat_at (sz := 5) (fun _ _ => rfl) hi hj
  exact ⟨hc 0 (by omega), hc 1 (by omega), hc 2 (by omega), hc 3 (by omega), hc 4 (by omega)⟩
theorem atT {w : World} {B : Nat} {u : Value} {n : Nat} {g : Nat → I2} (o : w.ownsRow B 95 2 u n (fT g n)) (hne : u ≠ .slice none 0 0) : ∃ b cap, u = .slice (some ⟨b, 0, none⟩) n cap ∧ b < w.heap.size ∧ ItAt w b 0 n g ∧ n ≤ cap := by
 rcases o.2 with ⟨e, _⟩ | ⟨b, cap, cur, rfl, hb, hg, hcap, _⟩
 ·exact absurd e hne
 ·refine ⟨b, cap, rfl, (o.lt b rfl).2, fun i hi => ?_, hcap⟩
  have hc : ∀ j, j < 2 → w.cell? ⟨b, 0 + (i * 2 + j), none⟩ = (cT (g i))[j]? := fun j hj => by
   rw [Nat.zero_add, o.cellAt _ (by omega)]
   exact flat_at (sz := 2) (fun _ _ => rfl) hi hj
  exact ⟨hc 0 (by omega), hc 1 (by omega)⟩
theorem atE {w : World} {B : Nat} {u : Value} {n : Nat} {g : Nat → E3} (o : w.ownsRow B 106 3 u n (fE g n)) (hne : u ≠ .slice none 0 0) : ∃ b cap, u = .slice (some ⟨b, 0, none⟩) n cap ∧ b < w.heap.size ∧ EvAt w b 0 n g ∧ n ≤ cap := by
 rcases o.2 with ⟨e, _⟩ | ⟨b, cap, cur, rfl, hb, hg, hcap, _⟩
 ·exact absurd e hne
 ·refine ⟨b, cap, rfl, (o.lt b rfl).2, fun i hi => ?_, hcap⟩
  have hc : ∀ j, j < 3 → w.cell? ⟨b, 0 + (i * 3 + j), none⟩ = (cE (g i))[j]? := fun j hj => by
   rw [Nat.zero_add, o.cellAt _ (by omega)]
   exact flat_at (sz := 3) (fun _ _ => rfl) hi hj
  exact ⟨hc 0 (by omega), hc 1 (by omega), hc 2 (by omega)⟩
def Cl (B : Nat) (c : Nat → Nat) (i : Nat) : Nat → Prop := fun k => B ≤ k ∧ c k = i
abbrev LI (z : Bool) (w : World) (P : Nat → Prop) (v : Value) (n : Nat) (u : Nat → Value) (L : Nat → Nat) (H : Nat → Nat → I5) : Prop := LL z 149 5 122 w P v n u L fun i => fI (H i) (L i)
abbrev LT (z : Bool) (w : World) (P : Nat → Prop) (v : Value) (n : Nat) (u : Nat → Value) (L : Nat → Nat) (H : Nat → Nat → I2) : Prop := LL z 95 2 93 w P v n u L fun i => fT (H i) (L i)
abbrev LE (z : Bool) (w : World) (P : Nat → Prop) (v : Value) (n : Nat) (u : Nat → Value) (L : Nat → Nat) (H : Nat → Nat → E3) : Prop := LL z 106 3 107 w P v n u L fun i => fE (H i) (L i)
theorem eqStateS_same (D1 h1 D2 h2 n c1 c2 : Nat) (S : Nat → S4) (v1 v2 : Nat → Value) (w : World) (hn : n ≤ 1048576) (hl : ∀ i, i < n → (S i).rs.length ≤ 1048576 ∧ (S i).os.length ≤ 1048576) (o1 : OutState w D1 h1 n S v1) (o2 : OutState w D2 h2 n S v2) :
  Calls Tryz.prog 39 #[.slice (some ⟨D1, 0, none⟩) n c1, .slice (some ⟨D2, 0, none⟩) n c2] w fun e w' => e = .returned (.bool true) ∧ Below w.heap.size w w' := by
 have hl' : (n : Int) ≤ 1048576 := by omega
 have O1 : Hid (OutState w D1 h1 n S v1) := o1
 have O2 : Hid (OutState w D2 h2 n S v2) := o2
 have HL : Hid (∀ i, i < n → (S i).rs.length ≤ 1048576 ∧ (S i).os.length ≤ 1048576) := hl
 clear o1 o2 hl
 go_enter Tryz.func39, Tryz.ntmps39
 go_wp2_with fail
 go_loopw [5] (fun i wr => ∃ k : Nat, k ≤ n ∧ i = .int .i64 k ∧ Below w.heap.size w wr) (fun i _ => n - (intOf i).toNat)
 case atStart => exact ⟨0, Nat.zero_le _, rfl, Below.refl _ _⟩
 case round =>
  obtain ⟨k, hk, rfl, hbw⟩ := hrel
  have hs := hbw.size
  by_cases hlt : k < n
  ·have P1 : Hid (OutState wr D1 h1 n S v1) := O1.out.below hbw O1.out.le
   have P2 : Hid (OutState wr D2 h2 n S v2) := O2.out.below hbw O2.out.le
   obtain ⟨ra, rc, oa, oc, e1, a0, a1, a2, a3⟩ := P1.out.cel k hlt
   obtain ⟨ra', rc', oa', oc', e2, b0, b1, b2, b3⟩ := P2.out.cel k hlt
   have hsl1 : Sl wr ra (S k).rs ∧ Sl wr oa (S k).os := by
    obtain ⟨x1, x2, x3, x4, e, s1, s2⟩ := (P1.out.own k hlt).read
    rw [e1] at e
    simp only [Value.agg.injEq, Array.mk.injEq, List.cons.injEq, Value.slice.injEq, and_true, true_and] at e
    obtain ⟨⟨rfl, rfl⟩, rfl, rfl⟩ := e
    exact ⟨s1, s2⟩
   have hsl2 : Sl wr ra' (S k).rs ∧ Sl wr oa' (S k).os := by
    obtain ⟨x1, x2, x3, x4, e, s1, s2⟩ := (P2.out.own k hlt).read
    rw [e2] at e
    simp only [Value.agg.injEq, Array.mk.injEq, List.cons.injEq, Value.slice.injEq, and_true, true_and] at e
    obtain ⟨⟨rfl, rfl⟩, rfl, rfl⟩ := e
    exact ⟨s1, s2⟩
   have H1 : Hid (Sl wr ra (S k).rs ∧ Sl wr oa (S k).os) := hsl1
   have H2 : Hid (Sl wr ra' (S k).rs ∧ Sl wr oa' (S k).os) := hsl2
   have hlt' : (k : Int) < (n : Int) := by omega
   clear hsl1 hsl2 e1 e2
   go_wp2_with fail
   first | (go_region_with (go_at_call 103; refine (eqState_same _ _ ra oa ra' oa' rc oc rc' oc' (S k).rs (S k).os wr.drew (HL.out k hlt).1 (HL.out k hlt).2 H1.out.1 H1.out.2 H2.out.1 H2.out.2).mono ?_; rintro e w1 ⟨rfl, hq1⟩)) | fail
   all_goals
    go_wp2
    go_roundw
    case rel => exact ⟨k + 1, by omega, by go_num, hbw.drew.trans (hq1.mono hs)⟩
    case measure => simp [intOf]; omega
  ·go_wp2
   go_ret
   exact ⟨rfl, hbw⟩
structure MkS (w wr : World) (D j : Nat) (vs : Nat → Value) : Prop where
 tch : Touch (fun b => b = D ∨ ∃ t, t < j ∧ hasBlock (vs t) b) w wr
 cel : ∀ i, j * 4 ≤ i → wr.cell? ⟨D, i, none⟩ = w.cell? ⟨D, i, none⟩
 fr : ∀ i, wr.frozen? ⟨D, i, none⟩ = false
theorem markStateS_any (D hi n cap : Nat) (S : Nat → S4) (vs : Nat → Value) (k : Int) (w : World) (hn : n ≤ 1048576) (hl : sumL (lenS S) n ≤ 1048576) (k0 : 0 ≤ k) (k1 : k ≤ 50000000) (o : OutState w D hi n S vs) :
  Calls Tryz.prog 43 #[.slice (some ⟨D, 0, none⟩) n cap, .int .i64 k] w fun e w' => e = .returned (.int .i64 (k + (2 * n + sumL (lenS S) n : Nat))) ∧ Touch (fun b => D ≤ b ∧ b < hi) w w' := by
 have hl' : (n : Int) ≤ 1048576 := by omega
 have O : Hid (OutState w D hi n S vs) := o
 have HL : Hid (sumL (lenS S) n ≤ 1048576) := hl
 clear o hl
 go_enter Tryz.func43, Tryz.ntmps43
 go_wp2_with fail
 go_loopw [1, 5] (fun q i wr => ∃ j : Nat, j ≤ n ∧ i = .int .i64 j ∧ q = .int .i64 (k + (2 * j + sumL (lenS S) j : Nat)) ∧ Hid (MkS w wr D j vs)) (fun _ i _ => n - (intOf i).toNat)
 case atStart => exact ⟨0, Nat.zero_le _, rfl, by simp [sumL], Touch.refl _ _, fun _ _ => rfl, O.out.fr⟩
 case round =>
  obtain ⟨j, hj, rfl, rfl, HT⟩ := hrel
  by_cases hlt : j < n
  ·have hlt' : (j : Int) < (n : Int) := by omega
   obtain ⟨ra, rc, oa, oc, ev, a0, a1, a2, a3⟩ := O.out.cel j hlt
   have c0 := (HT.out.cel (j * 4) (by omega)).trans a0
   have c1 := (HT.out.cel (j * 4 + 1) (by omega)).trans a1
   have c2 := (HT.out.cel (j * 4 + 2) (by omega)).trans a2
   have c3 := (HT.out.cel (j * 4 + 3) (by omega)).trans a3
   have fz := HT.out.fr
   have hD : D < wr.heap.size := Nat.lt_of_lt_of_le O.out.lt (Nat.le_trans O.out.le HT.out.tch.size)
   have how := O.out.own j hlt
   have howr : StOwn wr (D + 1) (vs j) (S j).p (S j).rs (S j).os (S j).c := how.blk fun b hb => HT.out.tch.block b (how.lt hb).2 (by
    rintro (e | ⟨t, ht, h1⟩)
    ·have := (how.lt hb).1
     omega
    ·exact O.out.apart t j ht hlt b h1 hb)
   have hbd : ∀ b, hasBlock (vs j) b → D + 1 ≤ b := fun b hb => (how.lt hb).1
   rw [ev] at howr hbd
   obtain ⟨vr, vo, e, w1r, w1o, wap⟩ := howr
   simp only [Value.agg.injEq, Array.mk.injEq, List.cons.injEq, and_true, true_and] at e
   obtain ⟨rfl, rfl⟩ := e
   have OR : Hid (OwnI wr (D + 1) (.slice ra (S j).rs.length rc) (S j).rs) := w1r
   have OO : Hid (OwnI wr (D + 1) (.slice oa (S j).os.length oc) (S j).os) := w1o
   have AP : Hid (∀ b, (Value.slice ra (S j).rs.length rc).ownBlock = some b → (Value.slice oa (S j).os.length oc).ownBlock ≠ some b) := wap
   have HV : Hid (vs j = stV (S j).p ra (S j).rs.length rc oa (S j).os.length oc (S j).c) := ev
   have hsl := sumL_at (lenS S) hlt
   have hS := HL.out
   have hlk : lenS S j = (S j).rs.length + (S j).os.length := rfl
   have r1 : (S j).rs.length ≤ 1048576 := by omega
   have r2 : (S j).os.length ≤ 1048576 := by omega
   generalize hx : k + (2 * j + sumL (lenS S) j : Nat) = X at *
   have x0 : 0 ≤ X := by omega
   have x1 : X ≤ 60000000 := by omega
   have HN : Hid (X + 1 + (S j).rs.length + (S j).os.length + 1 = k + (2 * (j + 1) + sumL (lenS S) (j + 1) : Nat)) := by
    show X + 1 + (S j).rs.length + (S j).os.length + 1 = k + (2 * (j + 1) + sumL (lenS S) (j + 1) : Nat)
    simp only [sumL]
    omega
   have rI : ((S j).rs.length : Int) ≤ 1048576 := by omega
   have oI : ((S j).os.length : Int) ≤ 1048576 := by omega
   clear a0 a1 a2 a3 ev wap w1r w1o how hsl hS hlk hx
   go_wp2_with fail
   refine (markIntS_any ra rc (D + 1) (S j).rs _ _ r1 (by omega) (by omega) (OR.out.setBelow (by simp) _)).mono ?_
   rintro e w1 ⟨rfl, -, g1⟩
   have nR : some D ≠ (Value.slice ra (S j).rs.length rc).ownBlock := fun e => by
    have := (OR.out.lt D e.symm).1
    omega
   have nO : some D ≠ (Value.slice oa (S j).os.length oc).ownBlock := fun e => by
    have := (OO.out.lt D e.symm).1
    omega
   obtain ⟨d1, f1⟩ := gcell g1 (b := D) (by simpa using hD) nR
   have OO1 : Hid (OwnI w1 (D + 1) (.slice oa (S j).os.length oc) (S j).os) := own_apart (OO.out.setBelow (by simp) _) g1 AP.out
   have hD1 : D < w1.heap.size := by have := g1.size; simp at this; omega
   have G1 : Hid (World.grownBy (wr.setCell ⟨D, j * 4, none⟩ (.int .i64 X)) w1 (Value.slice ra (S j).rs.length rc).ownBlock) := g1
   clear g1
   go_wp2_with fail
   refine (markIntS_any oa oc (D + 1) (S j).os _ _ r2 (by omega) (by omega) OO1.out).mono ?_
   rintro e w2 ⟨rfl, -, g2⟩
   obtain ⟨d2, f2⟩ := gcell g2 (b := D) hD1 nO
   have HT2 : Hid (∀ u, MkS w (w2.setCell ⟨D, j * 4 + 3, none⟩ u) D (j + 1) vs) := by
    intro u
    have t0 : Touch (fun b => b = D ∨ ∃ t, t < j + 1 ∧ hasBlock (vs t) b) w wr := HT.out.tch.mono (by
     rintro b (e | ⟨t, ht, h1⟩)
     ·exact .inl e
     ·exact .inr ⟨t, by omega, h1⟩)
    have t1 : Touch (fun b => b = D ∨ ∃ t, t < j + 1 ∧ hasBlock (vs t) b) wr (wr.setCell ⟨D, j * 4, none⟩ (.int .i64 X)) := Touch.of_set _ (.inl rfl) _
    have t2 : Touch (fun b => b = D ∨ ∃ t, t < j + 1 ∧ hasBlock (vs t) b) (wr.setCell ⟨D, j * 4, none⟩ (.int .i64 X)) w1 := Touch.of_grown G1.out fun b e => .inr ⟨j, by omega, by
     rw [HV.out]
     exact (hasBlock_iff _ _ _ _ _).2 (.inl e)⟩
    have t3 : Touch (fun b => b = D ∨ ∃ t, t < j + 1 ∧ hasBlock (vs t) b) w1 w2 := Touch.of_grown g2 fun b e => .inr ⟨j, by omega, by
     rw [HV.out]
     exact (hasBlock_iff _ _ _ _ _).2 (.inr e)⟩
    refine ⟨(((t0.trans t1).trans t2).trans t3).trans (Touch.of_set _ (.inl rfl) _), fun i hi => ?_, fun i => ?_⟩
    ·have s1 : ∀ (W : World) (o : Nat) (u : Value), o ≠ i → (W.setCell ⟨D, o, none⟩ u).cell? ⟨D, i, none⟩ = W.cell? ⟨D, i, none⟩ := fun W o u h => World.cell?_setCell_other _ _ _ _ fun e => h (by injection e)
     rw [s1 _ _ _ (by omega), d2, d1, s1 _ _ _ (by omega)]
     exact HT.out.cel i (by omega)
    ·rw [World.frozen?_setCell, f2, f1, World.frozen?_setCell]
     exact HT.out.fr i
   clear g2 G1 OO1 OO OR AP HV HT
   go_wp2
   go_roundw
   case rel => exact ⟨j + 1, by omega, by go_num, by rw [HN.out], HT2.out _⟩
   case measure => simp [intOf]; omega
  ·have hkl : j = n := by omega
   subst hkl
   have HT1 : Hid (Touch (fun b => D ≤ b ∧ b < hi) w wr) := HT.out.tch.mono (by
    rintro b (e | ⟨t, ht, h1⟩)
    ·subst e
     exact ⟨Nat.le_refl _, O.out.lt⟩
    ·exact ⟨by have := ((O.out.own t ht).lt h1).1; omega, O.out.bd t ht b h1⟩)
   clear HT
   go_wp2
   go_ret
   exact ⟨rfl, HT1.out⟩
theorem open_stateCells {H : Type} {enc : TypeId × Value → H} {w : World} {base fuel : Nat} {held : Bool} {c0 c1 c2 c3 : Value} {x : DataW H × List MemPlace}
  (hf' : DataW.trod enc Tryz.prog w base (fun _ => true) held fuel 116 [c0, c1, c2, c3] = some x) :
  ∃ q : St8, (c0 = .int .i64 q.p ∧ c1 = .slice q.ra q.rs.length q.rc ∧ c2 = .slice q.oa q.os.length q.oc ∧ c3 = .int .i64 q.c) ∧ (q.rs.length ≤ maxLen ∧ q.os.length ≤ maxLen) ∧ Sl w q.ra q.rs ∧ Sl w q.oa q.os := by
 obtain ⟨xs, m, -, -, -, hl, hx⟩ := DataW.trod_struct Tryz.underlying116 hf'
 have hl : xs.length = 4 := hl
 have q0 : DataW.trod enc Tryz.prog w base (fun _ => true) held m 3 [c0] = xs[0]? := by simpa [cellsInt] using hx 0 _ rfl
 have q1 : DataW.trod enc Tryz.prog w base (fun _ => true) held m 35 [c1] = xs[1]? := by simpa [cellsInts] using hx 1 _ rfl
 have q2 : DataW.trod enc Tryz.prog w base (fun _ => true) held m 35 [c2] = xs[2]? := by simpa [cellsInts] using hx 2 _ rfl
 have q3 : DataW.trod enc Tryz.prog w base (fun _ => true) held m 3 [c3] = xs[3]? := by simpa [cellsInt] using hx 3 _ rfl
 rw [List.getElem?_eq_getElem (by omega)] at q0 q1 q2 q3
 obtain ⟨z0, e0, -, -⟩ := DataW.trod_int Tryz.underlying3 q0
 obtain ⟨z3, e3, -, -⟩ := DataW.trod_int Tryz.underlying3 q3
 obtain ⟨ra, rc, rs, rfl, hr, h1⟩ := open_intRow q1
 obtain ⟨oa, oc, os, rfl, ho, h2⟩ := open_intRow q2
 simp only [List.cons.injEq, and_true] at e0 e3
 subst e0 e3
 exact ⟨⟨z0, ra, rc, rs, oa, oc, os, z3⟩, ⟨rfl, rfl, rfl, rfl⟩, ⟨hr, ho⟩, h1, h2⟩
theorem open_StateS {H : Type} {enc : TypeId × Value → H} {w : World} {held : Bool} {base : Nat} {a0 : Option Addr} {len cap : Nat} {d : DataW H} {p : List MemPlace}
  (h : DataW.Trod enc Tryz.prog w base (fun _ => true) held 23 (.slice a0 len cap) d p) :
  len ≤ maxLen ∧ ∃ q, AllState w a0 len q ∧ ∀ i, i < len → (q i).rs.length ≤ maxLen ∧ (q i).os.length ≤ maxLen := by
 obtain ⟨fuel, hf⟩ := h
 have inh : Inhabited St8 := ⟨⟨0, none, 0, [], none, 0, [], 0⟩⟩
 rcases Go.Deep.open_slice Tryz.underlying23 hf with ⟨hcs, _⟩ | ⟨a, len', cap', m, n, D, Pl, hcs, _, hl, hm, hmm, _, hx⟩
 ·simp [Value.cells] at hcs
  obtain ⟨_, rfl, _⟩ := hcs
  exact ⟨Nat.zero_le _, fun _ => default, ⟨.inl rfl, fun i hi => by omega⟩, fun i hi => by omega⟩
 ·simp [Value.cells] at hcs
  obtain ⟨rfl, rfl, rfl⟩ := hcs
  refine ⟨Nat.le_trans hl hm, ?_⟩
  have hle : len ≤ m := by rw [hmm]; split <;> omega
  rw [cellsLawState] at hx
  obtain ⟨b, off, spot⟩ := a
  have hcell : ∀ i, i < len → ∃ q : St8, (w.cell? (Addr.add (Addr.add ⟨b, off, spot⟩ (i * 4)) 0) = some (.int .i64 q.p) ∧ w.cell? (Addr.add (Addr.add ⟨b, off, spot⟩ (i * 4)) 1) = some (.slice q.ra q.rs.length q.rc) ∧ w.cell? (Addr.add (Addr.add ⟨b, off, spot⟩ (i * 4)) 2) = some (.slice q.oa q.os.length q.oc) ∧ w.cell? (Addr.add (Addr.add ⟨b, off, spot⟩ (i * 4)) 3) = some (.int .i64 q.c)) ∧ (q.rs.length ≤ maxLen ∧ q.os.length ≤ maxLen) ∧ Sl w q.ra q.rs ∧ Sl w q.oa q.os := by
   intro i hi
   obtain ⟨cs', h1, h2⟩ := hx i (by omega)
   obtain ⟨_, hlen, hc⟩ := World.cells?_some h1
   match cs', hlen with
   | [c0, c1, c2, c3], _ =>
    obtain ⟨q, ⟨rfl, rfl, rfl, rfl⟩, hb, hs⟩ := open_stateCells h2
    exact ⟨q, ⟨hc 0 (by omega), hc 1 (by omega), hc 2 (by omega), hc 3 (by omega)⟩, hb, hs⟩
  obtain ⟨g, hg⟩ := Go.Deep.choose_lt (α := St8) hcell
  refine ⟨g, ⟨?_, fun i hi => (hg i hi).2.2⟩, fun i hi => (hg i hi).2.1⟩
  by_cases h0 : len = 0
  ·exact .inl h0
  have hspot : spot = none := by
   have hx0 := (hg 0 (by omega)).1.1
   simpa [Addr.add] using World.cell?_spot hx0
  subst hspot
  have hI : ∀ i, i < len → w.cell? ⟨b, off + i * 4, none⟩ = some (.int .i64 (g i).p) ∧ w.cell? ⟨b, off + i * 4 + 1, none⟩ = some (.slice (g i).ra (g i).rs.length (g i).rc) ∧ w.cell? ⟨b, off + i * 4 + 2, none⟩ = some (.slice (g i).oa (g i).os.length (g i).oc) ∧ w.cell? ⟨b, off + i * 4 + 3, none⟩ = some (.int .i64 (g i).c) := by
   intro i hi
   obtain ⟨⟨q0, q1, q2, q3⟩, -⟩ := hg i hi
   rw [addr_addO, addr_addO] at q0 q1 q2 q3
   exact ⟨q0, q1, q2, q3⟩
  exact .inr ⟨b, off, rfl, cell_lt (hI 0 (by omega)).1, hI⟩
def numL (h : Nat → I2) : Nat → List Int
 | 0 => []
 | n + 1 => if (h n).m = true then numL h n else numL h n ++ [(h n).v]
theorem numL_le (h : Nat → I2) : ∀ n, (numL h n).length ≤ n
 | 0 => Nat.le_refl _
 | n + 1 => by
  unfold numL
  have := numL_le h n
  split
  ·omega
  ·simp; omega
theorem numL_hit {h : Nat → I2} {n : Nat} (hh : (h n).m = false) : numL h (n + 1) = numL h n ++ [(h n).v] := by
 rw [numL, if_neg (by rw [hh]; decide)]
theorem numL_not {h : Nat → I2} {n : Nat} (hh : (h n).m = true) : numL h (n + 1) = numL h n := by
 rw [numL, if_pos hh]
theorem ownsRow_slice {w : World} {B : Nat} {e : TypeId} {sz : Nat} {v : Value} {n : Nat} {xs : List Value} (h : w.ownsRow B e sz v n xs) : ∃ a c, v = .slice a n c := by
 rcases h.2 with ⟨rfl, rfl⟩ | ⟨g, cap, cur, rfl, _⟩
 ·exact ⟨none, 0, rfl⟩
 ·exact ⟨_, _, rfl⟩
theorem l4Ins_any (a0 : Option Addr) (n cap : Nat) (A : Nat → Option Addr) (L C : Nat → Nat) (H : Nat → Nat → I5) (w : World) (hn : n ≤ 1048576) (hL : ∀ i, i < n → L i ≤ 1048576) (hr : RowS w a0 n fun i => .slice (A i) (L i) (C i)) (hI : ∀ i, i < n → Src w (A i) (fI (H i) (L i))) :
  Calls Tryz.prog 81 #[.slice a0 n cap] w fun e w' => ∃ v u, e = .returned v ∧ LI true w' (fun k => w.heap.size ≤ k ∧ k < w'.heap.size) v n u L H ∧ Below w.heap.size w w' := by
 have hn' : (n : Int) ≤ 1048576 := by omega
 have HR : Hid (RowS w a0 n fun i => .slice (A i) (L i) (C i)) := hr
 have HI : Hid (∀ i, i < n → Src w (A i) (fI (H i) (L i))) := hI
 have HL : Hid (∀ i, i < n → L i ≤ 1048576) := hL
 clear hr hI hL
 go_enter Tryz.func81, Tryz.ntmps81
 go_wp2_with fail
 go_loopw [3, 4] (fun v i wr => ∃ k : Nat, k ≤ n ∧ i = .int .i64 k ∧ Hid ((∃ u, LI true wr (fun b => w.heap.size ≤ b ∧ b < wr.heap.size) v k u L H) ∧ Below w.heap.size w wr)) (fun _ i _ => n - (intOf i).toNat)
 case atStart => exact ⟨0, Nat.zero_le _, rfl, ⟨fun _ => .slice none 0 0, LL.new _ _ _ w _ (by simp) _ _ _⟩, below_allocL _ _⟩
 case round =>
  obtain ⟨k, hk, rfl, HZ⟩ := hrel
  by_cases hlt : k < n
  ·have hlt' : (k : Int) < (n : Int) := by omega
   obtain ⟨b, off, rfl, ck⟩ := (HR.out.below HZ.out.2).at hlt
   have hbl : b < wr.heap.size := World.block_lt_of_cell? wr _ ck
   have HS : Hid (Src wr (A k) (fI (H k) (L k))) := (HI.out k hlt).below HZ.out.2
   have HLk : Hid (L k ≤ 1048576) := HL.out k hlt
   have hk2 : Hid (k ≤ 2000000) := by show k ≤ 2000000; omega
   obtain ⟨⟨u, oz⟩, bz⟩ := HZ.out
   have OZ : Hid (LI true wr (fun b => w.heap.size ≤ b ∧ b < wr.heap.size) u3 k u L H) := oz
   have BZ : Hid (Below w.heap.size w wr) := bz
   clear oz bz HZ
   go_wp2_with (first
    | (at_builtin; refine step_append_srcN kndI wr rfl rfl _ _ rfl (A k) (L k) (C k) (fI (H k) (L k)) rfl rfl (fI_len _ _) HS.out (fI_one _ _) (Nat.le_trans HLk.out (by omega)) ?_; intro v4 w4 o4 b4 n4; obtain ⟨a4, c4, rfl⟩ := ownsRow_slice o4; have F4 : Hid (w4.ownsRow wr.heap.size 149 5 (.slice a4 (L k) c4) (L k) (fI (H k) (L k)) ∧ Below wr.heap.size wr w4 ∧ Value.slice a4 (L k) c4 ≠ .slice none 0 0) := ⟨o4, b4, n4⟩; clear o4 b4 n4)
    | (at_builtin; refine step_append_val kndII w4 rfl rfl _ _ rfl 0 u3 k _ rfl (OZ.out.below F4.out.2.1).row #[.slice a4 (L k) c4] rfl rfl (by intro u hu; simp at hu; subst hu; rfl) hk2.out (Nat.zero_le _) ?_; intro v5 w5 o5 g5 q5 n5; have F5 : Hid (LI true w5 (fun b => w.heap.size ≤ b ∧ b < w5.heap.size) v5 (k + 1) (fun j => if j = k then .slice a4 (L k) c4 else u j) L H ∧ Below w.heap.size w w5) := ⟨OZ.out.push F4.out.2.1 F4.out.1 (fun _ => F4.out.2.2) o5 g5 q5 (fun j hj _ => ⟨hj.1, Nat.lt_of_lt_of_le hj.2 (Nat.le_trans F4.out.2.1.size g5.size)⟩) (fun j hj hj' => ⟨Nat.le_trans BZ.out.size hj, hj'⟩), Below.grown (BZ.out.trans (F4.out.2.1.mono BZ.out.size)) g5 (Nat.le_trans BZ.out.size F4.out.2.1.size) (fun j hj => (OZ.out.rb j hj).1)⟩; clear o5 g5 q5 n5))
   go_roundw
   case rel => exact ⟨k + 1, by omega, by go_num, ⟨_, F5.out.1⟩, F5.out.2⟩
   case measure => simp [intOf]; omega
  ·have hkn : k = n := by omega
   subst hkn
   go_wp2
   go_ret
   obtain ⟨⟨u, oz⟩, bz⟩ := HZ.out
   exact ⟨_, u, rfl, oz, bz⟩
theorem l4Events_any (a0 : Option Addr) (n cap : Nat) (A : Nat → Option Addr) (L C : Nat → Nat) (H : Nat → Nat → E3) (w : World) (hn : n ≤ 1048576) (hL : ∀ i, i < n → L i ≤ 1048576) (hr : RowS w a0 n fun i => .slice (A i) (L i) (C i)) (hI : ∀ i, i < n → Src w (A i) (fE (H i) (L i))) :
  Calls Tryz.prog 82 #[.slice a0 n cap] w fun e w' => ∃ v u, e = .returned v ∧ LE true w' (fun k => w.heap.size ≤ k ∧ k < w'.heap.size) v n u L H ∧ Below w.heap.size w w' := by
 have hn' : (n : Int) ≤ 1048576 := by omega
 have HR : Hid (RowS w a0 n fun i => .slice (A i) (L i) (C i)) := hr
 have HI : Hid (∀ i, i < n → Src w (A i) (fE (H i) (L i))) := hI
 have HL : Hid (∀ i, i < n → L i ≤ 1048576) := hL
 clear hr hI hL
 go_enter Tryz.func82, Tryz.ntmps82
 go_wp2_with fail
 go_loopw [3, 4] (fun v i wr => ∃ k : Nat, k ≤ n ∧ i = .int .i64 k ∧ Hid ((∃ u, LE true wr (fun b => w.heap.size ≤ b ∧ b < wr.heap.size) v k u L H) ∧ Below w.heap.size w wr)) (fun _ i _ => n - (intOf i).toNat)
 case atStart => exact ⟨0, Nat.zero_le _, rfl, ⟨fun _ => .slice none 0 0, LL.new _ _ _ w _ (by simp) _ _ _⟩, below_allocL _ _⟩
 case round =>
  obtain ⟨k, hk, rfl, HZ⟩ := hrel
  by_cases hlt : k < n
  ·have hlt' : (k : Int) < (n : Int) := by omega
   obtain ⟨b, off, rfl, ck⟩ := (HR.out.below HZ.out.2).at hlt
   have hbl : b < wr.heap.size := World.block_lt_of_cell? wr _ ck
   have HS : Hid (Src wr (A k) (fE (H k) (L k))) := (HI.out k hlt).below HZ.out.2
   have HLk : Hid (L k ≤ 1048576) := HL.out k hlt
   have hk2 : Hid (k ≤ 2000000) := by show k ≤ 2000000; omega
   obtain ⟨⟨u, oz⟩, bz⟩ := HZ.out
   have OZ : Hid (LE true wr (fun b => w.heap.size ≤ b ∧ b < wr.heap.size) u3 k u L H) := oz
   have BZ : Hid (Below w.heap.size w wr) := bz
   clear oz bz HZ
   go_wp2_with (first
    | (at_builtin; refine step_append_srcN kndE wr rfl rfl _ _ rfl (A k) (L k) (C k) (fE (H k) (L k)) rfl rfl (fE_len _ _) HS.out (fE_one _ _) (Nat.le_trans HLk.out (by omega)) ?_; intro v4 w4 o4 b4 n4; obtain ⟨a4, c4, rfl⟩ := ownsRow_slice o4; have F4 : Hid (w4.ownsRow wr.heap.size 106 3 (.slice a4 (L k) c4) (L k) (fE (H k) (L k)) ∧ Below wr.heap.size wr w4 ∧ Value.slice a4 (L k) c4 ≠ .slice none 0 0) := ⟨o4, b4, n4⟩; clear o4 b4 n4)
    | (at_builtin; refine step_append_val kndEE w4 rfl rfl _ _ rfl 0 u3 k _ rfl (OZ.out.below F4.out.2.1).row #[.slice a4 (L k) c4] rfl rfl (by intro u hu; simp at hu; subst hu; rfl) hk2.out (Nat.zero_le _) ?_; intro v5 w5 o5 g5 q5 n5; have F5 : Hid (LE true w5 (fun b => w.heap.size ≤ b ∧ b < w5.heap.size) v5 (k + 1) (fun j => if j = k then .slice a4 (L k) c4 else u j) L H ∧ Below w.heap.size w w5) := ⟨OZ.out.push F4.out.2.1 F4.out.1 (fun _ => F4.out.2.2) o5 g5 q5 (fun j hj _ => ⟨hj.1, Nat.lt_of_lt_of_le hj.2 (Nat.le_trans F4.out.2.1.size g5.size)⟩) (fun j hj hj' => ⟨Nat.le_trans BZ.out.size hj, hj'⟩), Below.grown (BZ.out.trans (F4.out.2.1.mono BZ.out.size)) g5 (Nat.le_trans BZ.out.size F4.out.2.1.size) (fun j hj => (OZ.out.rb j hj).1)⟩; clear o5 g5 q5 n5))
   go_roundw
   case rel => exact ⟨k + 1, by omega, by go_num, ⟨_, F5.out.1⟩, F5.out.2⟩
   case measure => simp [intOf]; omega
  ·have hkn : k = n := by omega
   subst hkn
   go_wp2
   go_ret
   obtain ⟨⟨u, oz⟩, bz⟩ := HZ.out
   exact ⟨_, u, rfl, oz, bz⟩
theorem stepR_append_src {ops : Array Oper} {o : Oper} {a : Act} {K : Act → World → Prop} {Q : Exit → Act → World → Prop} {E : Prop} {t e : TypeId} {size bytes : Nat} (KK : Kind t e size bytes) (w : World) (hg : o.guard = none) (s x : Operand)
  (ho : o.op = .call { callee := .builtin .append, args := #[s, x], argTypes := #[t, t] })
  (B : Nat) (v : Value) (n : Nat) (xs : List Value) (hs : a.eval s = v) (hown : w.ownsRow B e size v n xs) (a0 : Option Addr) (m c : Nat) (news : List Value) (hx : a.eval x = .slice a0 m c) (hl : news.length = m * size) (hsrc : Src w a0 news) (h1 : ∀ u ∈ news, u.oneCell' = true) (hnm : n + m ≤ 4000000) (hB : B ≤ w.heap.size)
  (h : ∀ v' w', w'.ownsRow B e size v' (n + m) (xs ++ news) → w.grownBy w' v.ownBlock → (v'.ownBlock = v.ownBlock ∨ v'.ownBlock = some w.heap.size) → (v ≠ .slice none 0 0 ∨ 0 < m → v' ≠ .slice none 0 0) → K (a.put o.dst v') w') :
  if Region.wanted o (yielded ops a.tmps) = true then Oper.wp Tryz.prog o a w K Q else E := by
 obtain ⟨v', w', r1, r2, r3, r4, r5⟩ := run_append_src KK w o.type B v n xs hown a0 m c news hl hsrc h1 hnm hB
 have hw : Region.wanted o (yielded ops a.tmps) = true := by simp [Region.wanted, hg]
 rw [if_pos hw]
 unfold Oper.wp execOp
 simp only [ho, resolve, invoke, builtin, Sem.run_bind, Sem.run_pure, Result.andThen_ok, List.map_toArray, List.map_cons, List.map_nil, hs, hx, r1]
 exact h v' w' r2 r3 r4 r5
theorem stepR_append_srcN {ops : Array Oper} {o : Oper} {a : Act} {K : Act → World → Prop} {Q : Exit → Act → World → Prop} {E : Prop} {t e : TypeId} {size bytes : Nat} (KK : Kind t e size bytes) (w : World) {N : Nat} (hN : N = w.heap.size) (hg : o.guard = none) (s x : Operand)
  (ho : o.op = .call { callee := .builtin .append, args := #[s, x], argTypes := #[t, t] })
  (a0 : Option Addr) (m c : Nat) (news : List Value) (hs : a.eval s = .slice (some ⟨N, 0, none⟩) 0 0) (hx : a.eval x = .slice a0 m c) (hl : news.length = m * size) (hsrc : Src w a0 news) (h1 : ∀ u ∈ news, u.oneCell' = true) (hnm : m ≤ 4000000)
  (h : ∀ v' w', w'.ownsRow w.heap.size e size v' m news → Below w.heap.size w w' → v' ≠ .slice none 0 0 → K (a.put o.dst v') w') :
  if Region.wanted o (yielded ops a.tmps) = true then Oper.wp Tryz.prog o a (w.alloc (.cells #[] e)) K Q else E := by
 subst hN
 have hb : Below w.heap.size w (w.alloc (.cells #[] e)) := below_allocL _ _
 refine stepR_append_src KK _ hg s x ho w.heap.size (.slice (some ⟨w.heap.size, 0, none⟩) 0 0) 0 [] hs (World.ownsRow_made (base := w.heap.size) (e := e) (size := size) w #[] 0 (Nat.le_refl _) (by unfold maxLen; omega) (by simp)) a0 m c news hx hl (hsrc.below hb) h1 (by omega) (by simp) ?_
 intro v' w' o g _ hne
 rw [Nat.zero_add, List.nil_append] at o
 exact h v' w' o (hb.grown g (by simp) (fun k hk => by cases hk; exact Nat.le_refl _)) (hne (.inl (by simp)))
theorem stepR_append_val {ops : Array Oper} {o : Oper} {a : Act} {K : Act → World → Prop} {Q : Exit → Act → World → Prop} {E : Prop} {t e : TypeId} {size bytes : Nat} (KK : Kind t e size bytes) (w : World) {N : Nat} (hN : N = w.heap.size) (hg : o.guard = none) (s x : Operand)
  (ho : o.op = .call { callee := .builtin .append, args := #[s, x], argTypes := #[t, t] })
  (B : Nat) (v : Value) (n : Nat) (xs : List Value) (hs : a.eval s = v) (hown : w.ownsRow B e size v n xs) (cs : Array Value) (hx : a.eval x = .slice (some ⟨N, 0, none⟩) 1 1) (hl : cs.size = size) (h1 : ∀ u ∈ cs.toList, u.oneCell' = true) (hn : n ≤ 2000000) (hB : B ≤ w.heap.size)
  (h : ∀ v' w', w'.ownsRow B e size v' (n + 1) (xs ++ cs.toList) → w.grownBy w' v.ownBlock → (∀ j, v'.ownBlock = some j → v.ownBlock = some j ∨ w.heap.size ≤ j) → v' ≠ .slice none 0 0 → K (a.put o.dst v') w') :
  if Region.wanted o (yielded ops a.tmps) = true then Oper.wp Tryz.prog o a (w.alloc (.cells cs e)) K Q else E := by
 subst hN
 have hb : Below w.heap.size w (w.alloc (.cells cs e)) := below_allocL _ _
 refine stepR_append_src KK _ hg s x ho B v n xs hs (hown.alloc _) (some ⟨w.heap.size, 0, none⟩) 1 1 cs.toList hx (by simp [hl]) (.inr ⟨w.heap.size, 0, rfl, by simp, fun j u hj => ?_⟩) h1 (by omega) (by simp; omega) ?_
 ·rw [Nat.zero_add, new_cell _ _ _ j rfl]
  simpa using hj
 ·intro v' w' o g hbk hne
  refine h v' w' o ⟨g.os, g.tape, g.output, Nat.le_trans hb.size g.size, fun j hj hne => (g.block j (Nat.lt_of_lt_of_le hj hb.size) hne).trans (hb.block j hj)⟩ (fun j hj => ?_) (hne (.inr (by omega)))
  rcases hbk with a | a
  ·exact .inl (a.symm.trans hj)
  ·rw [hj] at a
   simp only [Option.some.injEq] at a
   right
   rw [a]
   simp
theorem stepR_call {ops : Array Oper} {o : Oper} {a : Act} {w : World} {K : Act → World → Prop} {Q : Exit → Act → World → Prop} {E : Prop} (hg : o.guard = none) (f : FuncId) (args : Array Operand) (ts : Array TypeId)
  (ho : o.op = .call { callee := .value (.func f), args := args, argTypes := ts }) (vals : Array Value) (hv : args.map a.eval = vals) (hen : ∀ vs wx, (callFunc f vs).run Tryz.prog wx = .ok (.enter f vs) wx) {post : Ending → World → Prop} (hc : Calls Tryz.prog f vals w post)
  (h : ∀ e w', post e w' → ∃ v, e = .returned v ∧ K (a.put o.dst v) w') :
  if Region.wanted o (yielded ops a.tmps) = true then Oper.wp Tryz.prog o a w K Q else E := by
 have hw : Region.wanted o (yielded ops a.tmps) = true := by simp [Region.wanted, hg]
 rw [if_pos hw]
 have hr : (execOp a.eval o).run Tryz.prog w = .ok (.enter f vals) w := by
  unfold execOp
  simp [ho, resolve, invoke, hv, hen, Act.eval, Deferred.ofValue]
 unfold Oper.wp
 rw [hr, Oper.upon_enter]
 refine hc.mono fun e w' hp => ?_
 obtain ⟨v, rfl, hk⟩ := h e w' hp
 exact hk
theorem Tryz.et : Tryz.prog.globalNamed "errors.errorType" = some 0 := by kernel_rfl
theorem Tryz.rt : (Tryz.prog.cutTypes.find? (·.1 == "internal/reflectlite.rtype")).map (·.2) = some 310 := by kernel_rfl
theorem Tryz.oneRow : ((List.range 353).filter fun t => Tryz.prog.rowNamed t [101, 114, 114, 111, 114]) = [250] := by kernel_rfl
theorem Tryz.tsize : Tryz.prog.types.size = 353 := by kernel_rfl
theorem handle_of_laid {W : World} (h : laidMetH Tryz.prog [("errors.errorType", Rows.laid_errors_errorType)] W) : W.cell? ⟨0, 0, none⟩ = some (.iface 310 (.agg #[.pointer (some ⟨1, 250, none⟩)])) := by
 have h' : laidMet Tryz.prog [] W ∧ handlesMet Tryz.prog [("errors.errorType", Rows.laid_errors_errorType)] W := h
 obtain ⟨name, u, ty, e1, e2, e3, e4, e5⟩ := h'.2 _ (List.mem_singleton.2 rfl)
 have en : name = [101, 114, 114, 111, 114] := (Option.some.inj e1).symm
 subst en
 obtain rfl := Option.some.inj (Tryz.rt.symm.trans e2)
 have hm : ty ∈ (List.range 353).filter fun t => Tryz.prog.rowNamed t [101, 114, 114, 111, 114] := List.mem_filter.2 ⟨List.mem_range.2 (by rw [← Tryz.tsize]; exact e3), e4⟩
 rw [Tryz.oneRow] at hm
 obtain rfl := List.mem_singleton.1 hm
 have hh : typeHandle Tryz.prog 250 = .pointer (some ⟨1, 250, none⟩) := by kernel_rfl
 rw [hh] at e5
 simpa using World.var?_cell Tryz.et e5 0
noncomputable def laidWorld (os : Os) : World :=
 let w0 := World.holding Tryz.prog os ⟨#[], #[], []⟩
 { w0 with heap := w0.heap.modify 0 fun
   | .cells _ t frozen => .cells #[.iface 310 (.agg #[.pointer (some ⟨1, 250, none⟩)])] t frozen
   | o => o }
theorem laidWorld_met (os : Os) (args : Array Value) : laidMetH Tryz.prog [("errors.errorType", Rows.laid_errors_errorType)] ((laidWorld os).forCall (fun _ _ => 0) ⟨#[], args, []⟩).memory :=
 laidMetH_of_parts (laidMet_nil _ _) (by kernel_rfl)
end Go.Proofs.YtfdanemmefckpaaGreatDoor
