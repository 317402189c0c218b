/- The numbers on a way: the walks of the model's Numbers and of the program's. -/
import Derived.Test.YtdmpcnmbnfdfmaaGreatDoorFc0
import Derived.Test.YtdmpcnmbnfdfmaaGreatDoorFc18
import Derived.Maps.AppendAt
import Derived.OneCell
import Derived.Test.YtdmpcnmbnfdfmaaGreatDoorFc14
import Derived.Test.YtdmpcnmbnfdfmaaGreatDoorFc20
import Derived.Test.YtdmpcnmbnfdfmaaGreatDoorFc26
namespace Go.Proofs.YtdmpcnmbnfdfmaaGreatDoor
set_option maxRecDepth 100000
set_option maxHeartbeats 1000000
open Go.ChangeShapes Go.WideShapes Go.ChangeAt Go.RowKit Go.Deep
def sumL (ls : Nat → Nat) : Nat → Nat
 | 0 => 0
 | n + 1 => sumL ls n + ls n
def RowS (w : World) (a0 : Option Addr) (n : Nat) (f : Nat → Value) : Prop :=
 n = 0 ∨ ∃ b off, a0 = some ⟨b, off, none⟩ ∧ b < w.heap.size ∧ ∀ i, i < n → w.cell? ⟨b, off + i, none⟩ = some (f i)
theorem RowS.below {w w' : World} {a0 : Option Addr} {n : Nat} {f : Nat → Value} (h : RowS w a0 n f) (hb : Below w.heap.size w w') : RowS w' a0 n f := by
 rcases h with h | ⟨b, off, e, hlt, hc⟩
 ·exact .inl h
 ·exact .inr ⟨b, off, e, Nat.lt_of_lt_of_le hlt hb.size, fun i hi => (hb.cell (p := ⟨b, off + i, none⟩) hlt).trans (hc i hi)⟩
theorem RowS.at {w : World} {a0 : Option Addr} {n : Nat} {f : Nat → Value} (h : RowS w a0 n f) {k : Nat} (hk : k < n) : ∃ b off, a0 = some ⟨b, off, none⟩ ∧ w.cell? ⟨b, off + k, none⟩ = some (f k) := by
 rcases h with rfl | ⟨b, off, e, -, hc⟩
 ·omega
 ·exact ⟨b, off, e, hc k hk⟩
structure Touch (P : Nat → Prop) (w w' : World) : Prop where
 os : w'.os = w.os
 tape : w'.tape = w.tape
 output : w'.output = w.output
 size : w.heap.size ≤ w'.heap.size
 block : ∀ k, k < w.heap.size → ¬ P k → w'.heap[k]? = w.heap[k]?
theorem Touch.refl (P : Nat → Prop) (w : World) : Touch P w w := ⟨rfl, rfl, rfl, Nat.le_refl _, fun _ _ _ => rfl⟩
theorem Touch.trans {P : Nat → Prop} {a b c : World} (h : Touch P a b) (k : Touch P b c) : Touch P a c :=
 ⟨k.os.trans h.os, k.tape.trans h.tape, k.output.trans h.output, Nat.le_trans h.size k.size, fun i hi hn => (k.block i (Nat.lt_of_lt_of_le hi h.size) hn).trans (h.block i hi hn)⟩
theorem Touch.of_below {P : Nat → Prop} {w w' : World} (h : Below w.heap.size w w') : Touch P w w' :=
 ⟨h.os, h.tape, h.output, h.size, fun k hk _ => h.block k hk⟩
theorem Touch.of_set {P : Nat → Prop} (w : World) {a : Addr} (ha : P a.block) (u : Value) : Touch P w (w.setCell a u) :=
 ⟨rfl, rfl, rfl, by simp [World.setCell], fun k _ hn => Below.heap_setCell _ _ _ _ fun e => hn (e ▸ ha)⟩
theorem Touch.below {P : Nat → Prop} {w w' : World} {B : Nat} (h : Touch P w w') (hB : B ≤ w.heap.size) (hp : ∀ k, P k → B ≤ k) : Below B w w' :=
 ⟨h.os, h.tape, h.output, h.size, fun k hk => h.block k (by omega) fun e => by have := hp k e; omega⟩
theorem Touch.cell {P : Nat → Prop} {w w' : World} (h : Touch P w w') {b : Nat} (hb : b < w.heap.size) (hp : ¬ P b) (j : Nat) : w'.cell? ⟨b, j, none⟩ = w.cell? ⟨b, j, none⟩ := World.cell?_of_block (h.block b hb hp)
theorem below_allocL (w : World) (o : Obj) : Below w.heap.size w (w.alloc o) := (Below.refl _ _).alloc (Nat.le_refl _) _
def Src (w : World) (a0 : Option Addr) (cs : List Value) : Prop := cs = [] ∨ ∃ b off, a0 = some ⟨b, off, none⟩ ∧ b < w.heap.size ∧ ∀ j u, cs[j]? = some u → w.cell? ⟨b, off + j, none⟩ = some u
theorem Src.below {w w' : World} {a0 : Option Addr} {cs : List Value} (h : Src w a0 cs) (hb : Below w.heap.size w w') : Src w' a0 cs := by
 rcases h with h | ⟨b, off, e, hlt, hc⟩
 ·exact .inl h
 ·exact .inr ⟨b, off, e, Nat.lt_of_lt_of_le hlt hb.size, fun j u hj => (hb.cell (p := ⟨b, off + j, none⟩) hlt).trans (hc j u hj)⟩
structure Kind (t e : TypeId) (size bytes : Nat) : Prop where
 und : Tryz.prog.underlying t = some (.slice e)
 inf : ∃ i z, Tryz.prog.info? e = some i ∧ i.zero = some z ∧ i.size = size ∧ i.bytes = bytes ∧ z.cells.size = size
 pos : 0 < size
 sml : bytes ≤ 64
theorem run_append_src {t e : TypeId} {size bytes : Nat} (K : Kind t e size bytes) (w : World) (ty : TypeId) (B : Nat) (v : Value) (n : Nat) (xs : List Value) (hown : w.ownsRow B e size v n xs) (a0 : Option Addr) (m c : Nat) (news : List Value) (hl : news.length = m * size) (hsrc : Src w a0 news) (h1 : ∀ u ∈ news, u.oneCell' = true) (hnm : n + m ≤ 4000000) (hB : B ≤ w.heap.size) :
  ∃ v' w', (Builtin.append_ #[t, t] ty #[v, .slice a0 m c]).run Tryz.prog w = .ok v' w' ∧ w'.ownsRow B e size v' (n + m) (xs ++ news) ∧ w.grownBy w' v.ownBlock ∧ (v'.ownBlock = v.ownBlock ∨ v'.ownBlock = some w.heap.size) ∧ (v ≠ .slice none 0 0 ∨ 0 < m → v' ≠ .slice none 0 0) := by
 obtain ⟨i, z, hi, hz, hs, hb, hzs⟩ := K.inf
 have hby : (n + m) * bytes ≤ 140737488355328 := Nat.le_trans (Nat.mul_le_mul hnm K.sml) (by omega)
 cases a0 with
 | none =>
  have hn0 : news = [] := by
   rcases hsrc with h | ⟨b, off, e, _⟩
   ·exact h
   ·cases e
  subst hn0
  have hm : m = 0 := by
   have := K.pos
   simp only [List.length_nil] at hl
   rcases Nat.eq_zero_or_pos m with h | h
   ·exact h
   ·have := Nat.mul_pos h K.pos
    omega
  subst hm
  refine ⟨v, w, ?_, by simpa using hown, World.grownBy.refl _ _, .inl rfl, fun h => h.elim id fun h => by omega⟩
  rcases hown.2 with ⟨rfl, _⟩ | ⟨g, cap, cur, rfl, _, _, hnc, _⟩
  ·simp [Builtin.append_, run_underlying K.und, sizeOf, typeInfo, hi, Builtin.lenOf, Builtin.firstCells]
  ·simp [Builtin.append_, run_underlying K.und, sizeOf, typeInfo, hi, Builtin.lenOf, Builtin.firstCells, hnc, storeCells]
 | some a =>
  have hnews : ∀ j u, news[j]? = some u → w.cell? (a.add j) = some u := by
   rcases hsrc with h0 | ⟨b, off, e, hlt, hc⟩
   ·subst h0
    intro j u hj
    simp at hj
   ·cases e
    intro j u hj
    have ha : Addr.add ⟨b, off, none⟩ j = ⟨b, off + j, none⟩ := by unfold Addr.add; split <;> simp_all
    rw [ha]
    exact hc j u hj
  obtain ⟨v', w', r1, r2, r3, r4, r5⟩ := run_append_own_at (P := Tryz.prog) w B t ty e i z size bytes K.und hi hz hs hb hzs K.pos v n xs hown a m c news hl hnews h1 (by unfold maxLen; omega) hby hB
  exact ⟨v', w', r1, r2, r3, r5, fun h e => h.elim (fun h => h (r4.1 e).1) fun h => by have := (r4.1 e).2; omega⟩
theorem step_append_src {ops : Array Oper} {rest : List Oper} {op : Oper} {act : Act} {Q : Exit → Act → World → Prop} {t e : TypeId} {size bytes : Nat} (K : Kind t e size bytes) (w : World) (hgd : op.guard = none) (s x : Operand)
  (ho : op.op = .call { callee := .builtin .append, args := #[s, x], argTypes := #[t, t] })
  (B : Nat) (v : Value) (n : Nat) (xs : List Value) (hs : act.eval s = v) (hown : w.ownsRow B e size v n xs) (a0 : Option Addr) (m c : Nat) (news : List Value) (hx : act.eval x = .slice a0 m c) (hl : news.length = m * size) (hsrc : Src w a0 news) (h1 : ∀ u ∈ news, u.oneCell' = true) (hnm : n + m ≤ 4000000) (hB : B ≤ w.heap.size)
  (h : ∀ v' w', w'.ownsRow B e size v' (n + m) (xs ++ news) → w.grownBy w' v.ownBlock → (v'.ownBlock = v.ownBlock ∨ v'.ownBlock = some w.heap.size) → (v ≠ .slice none 0 0 ∨ 0 < m → v' ≠ .slice none 0 0) → wpList Tryz.prog ops Q rest (act.put op.dst v') w') :
  wpList Tryz.prog ops Q (op :: rest) act w := by
 obtain ⟨v', w', r1, r2, r3, r4, r5⟩ := run_append_src K w op.type B v n xs hown a0 m c news hl hsrc h1 hnm hB
 refine wpList_plain hgd fun K hK => ?_
 unfold Oper.wp execOp
 simp only [ho, resolve, invoke, builtin, Sem.run_bind, Sem.run_pure, Result.andThen_ok, List.map_toArray, List.map_cons, List.map_nil, hs, hx, r1]
 exact hK _ _ (h v' w' r2 r3 r4 r5)
theorem step_append_srcN {ops : Array Oper} {rest : List Oper} {op : Oper} {act : Act} {Q : Exit → Act → World → Prop} {t e : TypeId} {size bytes : Nat} (K : Kind t e size bytes) (w : World) {N : Nat} (hN : N = w.heap.size) (hgd : op.guard = none) (s x : Operand)
  (ho : op.op = .call { callee := .builtin .append, args := #[s, x], argTypes := #[t, t] })
  (a0 : Option Addr) (m c : Nat) (news : List Value) (hs : act.eval s = .slice (some ⟨N, 0, none⟩) 0 0) (hx : act.eval x = .slice a0 m c) (hl : news.length = m * size) (hsrc : Src w a0 news) (h1 : ∀ u ∈ news, u.oneCell' = true) (hnm : m ≤ 4000000)
  (h : ∀ v' w', w'.ownsRow w.heap.size e size v' m news → Below w.heap.size w w' → v' ≠ .slice none 0 0 → wpList Tryz.prog ops Q rest (act.put op.dst v') w') :
  wpList Tryz.prog ops Q (op :: rest) act (w.alloc (.cells #[] e)) := by
 subst hN
 have hb : Below w.heap.size w (w.alloc (.cells #[] e)) := below_allocL _ _
 refine step_append_src K _ hgd s x ho w.heap.size (.slice (some ⟨w.heap.size, 0, none⟩) 0 0) 0 [] hs (World.ownsRow_made (base := w.heap.size) (e := e) (size := size) w #[] 0 (Nat.le_refl _) (by unfold maxLen; omega) (by simp)) a0 m c news hx hl (hsrc.below hb) h1 (by omega) (by simp) ?_
 intro v' w' o g _ hne
 rw [Nat.zero_add, List.nil_append] at o
 exact h v' w' o (hb.grown g (by simp) (fun k hk => by cases hk; exact Nat.le_refl _)) (hne (.inl (by simp)))
theorem step_append_val {ops : Array Oper} {rest : List Oper} {op : Oper} {act : Act} {Q : Exit → Act → World → Prop} {t e : TypeId} {size bytes : Nat} (K : Kind t e size bytes) (w : World) {N : Nat} (hN : N = w.heap.size) (hgd : op.guard = none) (s x : Operand)
  (ho : op.op = .call { callee := .builtin .append, args := #[s, x], argTypes := #[t, t] })
  (B : Nat) (v : Value) (n : Nat) (xs : List Value) (hs : act.eval s = v) (hown : w.ownsRow B e size v n xs) (cs : Array Value) (hx : act.eval x = .slice (some ⟨N, 0, none⟩) 1 1) (hl : cs.size = size) (h1 : ∀ u ∈ cs.toList, u.oneCell' = true) (hn : n ≤ 2000000) (hB : B ≤ w.heap.size)
  (h : ∀ v' w', w'.ownsRow B e size v' (n + 1) (xs ++ cs.toList) → w.grownBy w' v.ownBlock → (∀ j, v'.ownBlock = some j → v.ownBlock = some j ∨ w.heap.size ≤ j) → v' ≠ .slice none 0 0 → wpList Tryz.prog ops Q rest (act.put op.dst v') w') :
  wpList Tryz.prog ops Q (op :: rest) act (w.alloc (.cells cs e)) := by
 subst hN
 have hb : Below w.heap.size w (w.alloc (.cells cs e)) := below_allocL _ _
 refine step_append_src K _ hgd s x ho B v n xs hs (hown.alloc _) (some ⟨w.heap.size, 0, none⟩) 1 1 cs.toList hx (by simp [hl]) (.inr ⟨w.heap.size, 0, rfl, by simp, fun j u hj => ?_⟩) h1 (by omega) (by simp; omega) ?_
 ·rw [Nat.zero_add, new_cell _ _ _ j rfl]
  simpa using hj
 ·intro v' w' o g hbk hne
  refine h v' w' o ⟨g.os, g.tape, g.output, Nat.le_trans hb.size g.size, fun j hj hne => (g.block j (Nat.lt_of_lt_of_le hj hb.size) hne).trans (hb.block j hj)⟩ (fun j hj => ?_) (hne (.inr (by omega)))
  rcases hbk with a | a
  ·exact .inl (a.symm.trans hj)
  ·rw [hj] at a
   simp only [Option.some.injEq] at a
   right
   rw [a]
   simp
structure LL (e : TypeId) (sz : Nat) (E : TypeId) (w : World) (P : Nat → Prop) (v : Value) (n : Nat) (u : Nat → Value) (L : Nat → Nat) (c : Nat → List Value) : Prop where
 row : w.ownsRow 0 E 1 v n ((List.range n).map u)
 own : ∀ i, i < n → w.ownsRow 0 e sz (u i) (L i) (c i)
 rb : ∀ k, v.ownBlock = some k → P k
 ob : ∀ i, i < n → ∀ k, (u i).ownBlock = some k → P k
 ra : ∀ i, i < n → ∀ k, (u i).ownBlock = some k → v.ownBlock ≠ some k
 oa : ∀ i j, i < n → j < n → i ≠ j → ∀ k, (u i).ownBlock = some k → (u j).ownBlock ≠ some k
 nn : ∀ i, i < n → u i ≠ .slice none 0 0
theorem ownsRow_blkL {w w' : World} {B size n : Nat} {e : TypeId} {v : Value} {xs : List Value} (h : w.ownsRow B e size v n xs) (hb : ∀ k, v.ownBlock = some k → w'.heap[k]? = w.heap[k]?) : w'.ownsRow B e size v n xs := by
 refine ⟨h.1, ?_⟩
 rcases h.2 with hn | ⟨g, cap, cur, rfl, hB, hg, hr⟩
 ·exact .inl hn
 ·exact .inr ⟨g, cap, cur, rfl, hB, (hb g rfl).trans hg, hr⟩
theorem ownsRow_base0 {w : World} {B size n : Nat} {e : TypeId} {v : Value} {xs : List Value} (h : w.ownsRow B e size v n xs) : w.ownsRow 0 e size v n xs := h.mono (Nat.zero_le _)
section
variable {e : TypeId} {sz : Nat} {E : TypeId} {w : World} {P : Nat → Prop} {v : Value} {n : Nat} {u : Nat → Value} {L : Nat → Nat} {c : Nat → List Value}
theorem LL.keep (o : LL e sz E w P v n u L c) {w' : World} (hb : ∀ k, P k → k < w.heap.size → w'.heap[k]? = w.heap[k]?) : LL e sz E w' P v n u L c :=
 ⟨ownsRow_blkL o.row fun k hk => hb k (o.rb k hk) (o.row.lt k hk).2, fun i hi => ownsRow_blkL (o.own i hi) fun k hk => hb k (o.ob i hi k hk) ((o.own i hi).lt k hk).2, o.rb, o.ob, o.ra, o.oa, o.nn⟩
theorem LL.below (o : LL e sz E w P v n u L c) {w' : World} (hb : Below w.heap.size w w') : LL e sz E w' P v n u L c := o.keep fun k _ hk => hb.block k hk
theorem LL.mono (o : LL e sz E w P v n u L c) {P' : Nat → Prop} (h : ∀ k, P k → k < w.heap.size → P' k) : LL e sz E w P' v n u L c :=
 ⟨o.row, o.own, fun k hk => h k (o.rb k hk) (o.row.lt k hk).2, fun i hi k hk => h k (o.ob i hi k hk) ((o.own i hi).lt k hk).2, o.ra, o.oa, o.nn⟩
theorem LL.pushG (o : LL e sz E w P v n u L c) {w1 w2 : World} {u' v' : Value} (hsz : w.heap.size ≤ w1.heap.size) (hb : ∀ k, P k → k < w.heap.size → w1.heap[k]? = w.heap[k]?) (hu : w1.ownsRow w.heap.size e sz u' (L n) (c n)) (hne : u' ≠ .slice none 0 0) (hv : w2.ownsRow 0 E 1 v' (n + 1) ((List.range n).map u ++ [u'])) (g : w1.grownBy w2 v.ownBlock)
  (hv' : ∀ j, v'.ownBlock = some j → v.ownBlock = some j ∨ w1.heap.size ≤ j) {P' : Nat → Prop} (hP : ∀ k, P k → k < w.heap.size → P' k) (hP' : ∀ k, w.heap.size ≤ k → k < w2.heap.size → P' k) : LL e sz E w2 P' v' (n + 1) (fun j => if j = n then u' else u j) L c := by
 have hvlt : ∀ k, v.ownBlock = some k → k < w.heap.size := fun k hk => (o.row.lt k hk).2
 have hu2 : w2.ownsRow w.heap.size e sz u' (L n) (c n) := hu.kept g (by
  cases hk : u'.ownBlock with
  | none => exact .inl rfl
  | some k =>
   refine .inr fun e => ?_
   have q1 := (hu.lt k hk).1
   have q2 := hvlt k e.symm
   omega)
 have ho2 : ∀ i, i < n → w2.ownsRow 0 e sz (u i) (L i) (c i) := fun i hi => ownsRow_blkL (o.own i hi) fun k hk => (g.block k (Nat.lt_of_lt_of_le ((o.own i hi).lt k hk).2 hsz) fun e => o.ra i hi k hk e.symm).trans (hb k (o.ob i hi k hk) ((o.own i hi).lt k hk).2)
 have lts : ∀ i, i < n → ∀ k, (u i).ownBlock = some k → k < w.heap.size := fun i hi k hk => ((o.own i hi).lt k hk).2
 refine ⟨?_, fun i hi => ?_, fun k hk => ?_, fun i hi k hk => ?_, fun i hi k hk => ?_, fun i j hi hj hij k hk => ?_, fun i hi => ?_⟩
 ·have e : (List.range (n + 1)).map (fun j => if j = n then u' else u j) = (List.range n).map u ++ [u'] := by
   rw [List.range_succ, List.map_append]
   simp only [List.map_cons, List.map_nil, if_true]
   congr 1
   exact List.map_congr_left fun j hj => by
    rw [if_neg]
    have := List.mem_range.1 hj
    omega
  rw [e]
  exact hv
 ·by_cases ei : i = n
  ·subst ei
   rw [if_pos rfl]
   exact ownsRow_base0 hu2
  ·rw [if_neg ei]
   exact ho2 i (by omega)
 ·rcases hv' k hk with h | h
  ·exact hP k (o.rb k h) (hvlt k h)
  ·exact hP' k (Nat.le_trans hsz h) (hv.lt k hk).2
 ·by_cases ei : i = n
  ·simp only [if_pos ei] at hk
   exact hP' k (hu.lt k hk).1 (hu2.lt k hk).2
  ·simp only [if_neg ei] at hk
   exact hP k (o.ob i (by omega) k hk) (lts i (by omega) k hk)
 ·intro hvk
  by_cases ei : i = n
  ·simp only [if_pos ei] at hk
   rcases hv' k hvk with h | h
   ·have := hvlt k h
    have := (hu.lt k hk).1
    omega
   ·have := (hu.lt k hk).2
    omega
  ·simp only [if_neg ei] at hk
   rcases hv' k hvk with h | h
   ·exact o.ra i (by omega) k hk h
   ·have := lts i (by omega) k hk
    omega
 ·intro hjk
  by_cases ei : i = n
  ·have ej : j ≠ n := fun e => hij (by omega)
   simp only [if_pos ei] at hk
   simp only [if_neg ej] at hjk
   have := lts j (by omega) k hjk
   have := (hu.lt k hk).1
   omega
  ·simp only [if_neg ei] at hk
   by_cases ej : j = n
   ·simp only [if_pos ej] at hjk
    have := lts i (by omega) k hk
    have := (hu.lt k hjk).1
    omega
   ·simp only [if_neg ej] at hjk
    exact o.oa i j (by omega) (by omega) hij k hk hjk
 ·by_cases ei : i = n
  ·rw [if_pos ei]
   exact hne
  ·rw [if_neg ei]
   exact o.nn i (by omega)
theorem LL.push (o : LL e sz E w P v n u L c) {w1 w2 : World} {u' v' : Value} (b1 : Below w.heap.size w w1) (hu : w1.ownsRow w.heap.size e sz u' (L n) (c n)) (hne : u' ≠ .slice none 0 0) (hv : w2.ownsRow 0 E 1 v' (n + 1) ((List.range n).map u ++ [u'])) (g : w1.grownBy w2 v.ownBlock)
  (hv' : ∀ j, v'.ownBlock = some j → v.ownBlock = some j ∨ w1.heap.size ≤ j) {P' : Nat → Prop} (hP : ∀ k, P k → k < w.heap.size → P' k) (hP' : ∀ k, w.heap.size ≤ k → k < w2.heap.size → P' k) : LL e sz E w2 P' v' (n + 1) (fun j => if j = n then u' else u j) L c :=
 o.pushG b1.size (fun k _ hk => b1.block k hk) hu hne hv g hv' hP hP'
theorem LL.nil (e : TypeId) (sz : Nat) (E : TypeId) (w : World) (P : Nat → Prop) (u : Nat → Value) (L : Nat → Nat) (c : Nat → List Value) : LL e sz E w P (.slice none 0 0) 0 u L c :=
 ⟨World.ownsRow_nil _ _ _ _, fun i hi => (by omega), fun k hk => (by cases hk), fun i hi => (by omega), fun i hi => (by omega), fun i j hi => (by omega), fun i hi => by omega⟩
theorem LL.new (e : TypeId) (sz : Nat) (E : TypeId) (w : World) (P : Nat → Prop) (hP : P w.heap.size) (u : Nat → Value) (L : Nat → Nat) (c : Nat → List Value) : LL e sz E (w.alloc (.cells #[] E)) P (.slice (some ⟨w.heap.size, 0, none⟩) 0 0) 0 u L c :=
 ⟨World.ownsRow_made (base := 0) (e := E) (size := 1) w #[] 0 (Nat.zero_le _) (by unfold maxLen; omega) rfl, fun i hi => (by omega), fun k hk => (by cases hk; exact hP), fun i hi => (by omega), fun i hi => (by omega), fun i j hi => (by omega), fun i hi => by omega⟩
theorem LL.cell (o : LL e sz E w P v n u L c) {i : Nat} (hi : i < n) : ∃ g cap, v = .slice (some ⟨g, 0, none⟩) n cap ∧ P g ∧ g < w.heap.size ∧ w.cell? ⟨g, i, none⟩ = some (u i) ∧ ∀ j, w.frozen? ⟨g, j, none⟩ = false := by
 rcases o.row.2 with ⟨_, h0⟩ | ⟨g, cap, cur, rfl, hb, hg, hr⟩
 ·omega
 ·refine ⟨g, cap, rfl, o.rb g rfl, (o.row.lt g rfl).2, ?_, fun j => o.row.frozenAt j⟩
  rw [o.row.cellAt i (by omega)]
  simp [hi]
end
structure St8 where
 p : Int
 ra : Option Addr
 rc : Nat
 rs : List Int
 oa : Option Addr
 oc : Nat
 os : List Int
 c : Int
def St8.s (x : St8) : S4 := ⟨x.p, x.rs, x.os, x.c⟩
def lenS (S : Nat → S4) (i : Nat) : Nat := (S i).rs.length + (S i).os.length
structure AllState (W : World) (a0 : Option Addr) (n : Nat) (q : Nat → St8) : Prop where
 row : n = 0 ∨ ∃ b off, a0 = some ⟨b, off, none⟩ ∧ b < W.heap.size ∧ ∀ i, i < n → W.cell? ⟨b, off + i * 4, none⟩ = some (.int .i64 (q i).p) ∧ W.cell? ⟨b, off + i * 4 + 1, none⟩ = some (.slice (q i).ra (q i).rs.length (q i).rc) ∧ W.cell? ⟨b, off + i * 4 + 2, none⟩ = some (.slice (q i).oa (q i).os.length (q i).oc) ∧ W.cell? ⟨b, off + i * 4 + 3, none⟩ = some (.int .i64 (q i).c)
 lst : ∀ i, i < n → Sl W (q i).ra (q i).rs ∧ Sl W (q i).oa (q i).os
theorem AllState.below {w w' : World} {a0 : Option Addr} {n : Nat} {q : Nat → St8} (h : AllState w a0 n q) (hb : Below w.heap.size w w') : AllState w' a0 n q := by
 refine ⟨?_, fun i hi => ⟨(h.lst i hi).1.below hb, (h.lst i hi).2.below hb⟩⟩
 rcases h.row with h | ⟨b, off, e, hlt, hc⟩
 ·exact .inl h
 ·exact .inr ⟨b, off, e, Nat.lt_of_lt_of_le hlt hb.size, fun i hi => by
   obtain ⟨h0, h1, h2, h3⟩ := hc i hi
   exact ⟨(hb.cell hlt).trans h0, (hb.cell hlt).trans h1, (hb.cell hlt).trans h2, (hb.cell hlt).trans h3⟩⟩
theorem AllState.at {w : World} {a0 : Option Addr} {n : Nat} {q : Nat → St8} (h : AllState w a0 n q) {k : Nat} (hk : k < n) : ∃ b off, a0 = some ⟨b, off, none⟩ ∧ w.cell? ⟨b, off + k * 4, none⟩ = some (.int .i64 (q k).p) ∧ w.cell? ⟨b, off + k * 4 + 1, none⟩ = some (.slice (q k).ra (q k).rs.length (q k).rc) ∧ w.cell? ⟨b, off + k * 4 + 2, none⟩ = some (.slice (q k).oa (q k).os.length (q k).oc) ∧ w.cell? ⟨b, off + k * 4 + 3, none⟩ = some (.int .i64 (q k).c) := by
 rcases h.row with rfl | ⟨b, off, e, -, hc⟩
 ·omega
 ·exact ⟨b, off, e, hc k hk⟩
def cnt (eh : Nat → E3) (kd pr : Int) (n : Nat) : Nat := (plN eh kd pr n).length
theorem cnt_zero (eh : Nat → E3) (kd pr : Int) : cnt eh kd pr 0 = 0 := rfl
theorem cnt_hit {eh : Nat → E3} {kd pr : Int} {n : Nat} (h : hitB eh kd pr n = true) : cnt eh kd pr (n + 1) = cnt eh kd pr n + 1 := by
 unfold cnt
 rw [plN, if_pos h, List.length_append]
 rfl
theorem cnt_not {eh : Nat → E3} {kd pr : Int} {n : Nat} (h : hitB eh kd pr n = false) : cnt eh kd pr (n + 1) = cnt eh kd pr n := by
 unfold cnt
 rw [plN, if_neg (by rw [h]; decide)]
theorem cnt_le (eh : Nat → E3) (kd pr : Int) (n : Nat) : cnt eh kd pr n ≤ n := plN_le eh kd pr n
theorem cnt_mono (eh : Nat → E3) (kd pr : Int) {a b : Nat} (h : a ≤ b) : cnt eh kd pr a ≤ cnt eh kd pr b := by
 induction b with
 | zero =>
  have : a = 0 := by omega
  subst this
  exact Nat.le_refl _
 | succ b ih =>
  by_cases e : a = b + 1
  ·subst e
   exact Nat.le_refl _
  ·have := ih (by omega)
   rcases Bool.eq_false_or_eq_true (hitB eh kd pr b) with t | t
   ·rw [cnt_hit t]
    omega
   ·rw [cnt_not t]
    exact this
theorem hitB_iff {eh : Nat → E3} {kd pr : Int} {i : Nat} : hitB eh kd pr i = true ↔ (eh i).k = kd ∧ (eh i).q = pr := by
 simp [hitB]
structure Hs where
 n : Nat
 l : Nat → Nat
 e : Nat → Nat → E3
def Hs.Peers (x : Hs) : Prop := ∀ p, p < x.n → ∀ i, i < x.l p → 0 ≤ (x.e p i).q ∧ (x.e p i).q < (x.n : Int)
def Hs.Can (x : Hs) (d : Nat → Nat) (p : Nat) : Prop :=
 d p < x.l p ∧ ((x.e p (d p)).k = 3 → cnt (x.e p) 3 (x.e p (d p)).q (d p) < cnt (x.e (x.e p (d p)).q.toNat) 2 p (d (x.e p (d p)).q.toNat))
def up (d : Nat → Nat) (p : Nat) : Nat → Nat := fun i => if i = p then d i + 1 else d i
theorem up_same (d : Nat → Nat) (p : Nat) : up d p p = d p + 1 := by simp [up]
theorem up_other {d : Nat → Nat} {p i : Nat} (h : i ≠ p) : up d p i = d i := by simp [up, h]
inductive Hs.Put (x : Hs) : (Nat → Nat) → Prop
 | start : x.Put (fun _ => 0)
 | next {d : Nat → Nat} {p : Nat} : x.Put d → p < x.n → x.Can d p → x.Put (up d p)
def Hs.All (x : Hs) (d : Nat → Nat) : Prop := ∀ p, p < x.n → d p = x.l p
def Hs.Row (x : Hs) : Prop := ∃ d, x.Put d ∧ x.All d
theorem Hs.Put.le {x : Hs} {d : Nat → Nat} (h : x.Put d) : ∀ p, d p ≤ x.l p := by
 induction h with
 | start => exact fun _ => Nat.zero_le _
 | next _ _ hc ih =>
  rename_i d p _ _
  intro i
  by_cases e : i = p
  ·subst e
   rw [up_same]
   exact hc.1
  ·rw [up_other e]
   exact ih i
theorem Hs.Put.stuck {x : Hs} {d s : Nat → Nat} (h : x.Put d) (hp : x.Peers) (hs : ∀ p, p < x.n → ¬ x.Can s p) : ∀ p, p < x.n → d p ≤ s p := by
 induction h with
 | start => exact fun _ _ => Nat.zero_le _
 | next _ hpn hc ih =>
  rename_i d p _
  intro i hi
  by_cases e : i = p
  ·subst e
   rw [up_same]
   have h1 := ih i hi
   by_cases e : d i = s i
   ·exfalso
    refine hs i hi ⟨by rw [← e]; exact hc.1, fun hk => ?_⟩
    rw [← e] at hk ⊢
    have h2 := hc.2 hk
    have hq := hp i hi (d i) hc.1
    exact Nat.lt_of_lt_of_le h2 (cnt_mono _ _ _ (ih _ (by omega)))
   ·omega
  ·rw [up_other e]
   exact ih i hi
theorem Hs.row_iff {x : Hs} {s : Nat → Nat} (h : x.Put s) (hp : x.Peers) (hs : ∀ p, p < x.n → ¬ x.Can s p) : x.Row ↔ x.All s := by
 refine ⟨fun ⟨d, hd, ha⟩ p hpn => ?_, fun ha => ⟨s, h, ha⟩⟩
 have h1 := hd.stuck hp hs p hpn
 have h2 := h.le p
 have h3 := ha p hpn
 omega
def Hs.opn (x : Hs) (d : Nat → Nat) (a b : Nat) : Int := (cnt (x.e a) 2 b (d a) : Int) - (cnt (x.e b) 3 a (d b) : Int)
theorem Hs.opn_start (x : Hs) (a b : Nat) : x.opn (fun _ => 0) a b = 0 := by simp [Hs.opn, cnt_zero]
theorem Hs.can_iff {x : Hs} {d : Nat → Nat} {p : Nat} (hp : x.Peers) (hpn : p < x.n) : x.Can d p ↔ d p < x.l p ∧ ((x.e p (d p)).k = 3 → 0 < x.opn d (x.e p (d p)).q.toNat p) := by
 unfold Hs.Can Hs.opn
 refine and_congr_right fun hl => ?_
 have hq := hp p hpn _ hl
 rw [show (((x.e p (d p)).q.toNat : Nat) : Int) = (x.e p (d p)).q by omega]
 refine ⟨fun h hk => ?_, fun h hk => ?_⟩
 ·have := h hk
  omega
 ·have := h hk
  omega
theorem Hs.opn_up {x : Hs} {d : Nat → Nat} {p a b : Nat} : x.opn (up d p) a b = x.opn d a b + (if a = p ∧ (x.e p (d p)).k = 2 ∧ (x.e p (d p)).q = (b : Int) then 1 else 0) - (if b = p ∧ (x.e p (d p)).k = 3 ∧ (x.e p (d p)).q = (a : Int) then 1 else 0) := by
 have hA : (cnt (x.e a) 2 b (up d p a) : Int) = cnt (x.e a) 2 b (d a) + (if a = p ∧ (x.e p (d p)).k = 2 ∧ (x.e p (d p)).q = (b : Int) then 1 else 0) := by
  by_cases e : a = p
  ·subst e
   rw [up_same]
   rcases Bool.eq_false_or_eq_true (hitB (x.e a) 2 b (d a)) with t | t
   ·rw [cnt_hit t, if_pos ⟨rfl, hitB_iff.1 t⟩]
    omega
   ·rw [cnt_not t, if_neg (fun h => by rw [hitB_iff.2 h.2] at t; cases t)]
    omega
  ·rw [up_other e, if_neg (fun h => e h.1)]
   omega
 have hB : (cnt (x.e b) 3 a (up d p b) : Int) = cnt (x.e b) 3 a (d b) + (if b = p ∧ (x.e p (d p)).k = 3 ∧ (x.e p (d p)).q = (a : Int) then 1 else 0) := by
  by_cases e : b = p
  ·subst e
   rw [up_same]
   rcases Bool.eq_false_or_eq_true (hitB (x.e b) 3 a (d b)) with t | t
   ·rw [cnt_hit t, if_pos ⟨rfl, hitB_iff.1 t⟩]
    omega
   ·rw [cnt_not t, if_neg (fun h => by rw [hitB_iff.2 h.2] at t; cases t)]
    omega
  ·rw [up_other e, if_neg (fun h => e h.1)]
   omega
 unfold Hs.opn
 rw [hA, hB]
 omega
structure Tu (lo hi : Nat) (w w' : World) : Prop where
 os : w'.os = w.os
 tape : w'.tape = w.tape
 output : w'.output = w.output
 size : w.heap.size ≤ w'.heap.size
 block : ∀ k, k < w.heap.size → (k < lo ∨ hi ≤ k) → w'.heap[k]? = w.heap[k]?
theorem Tu.of_below {w w' : World} (h : Below w.heap.size w w') : Tu 0 0 w w' := ⟨h.os, h.tape, h.output, h.size, fun k hk _ => h.block k hk⟩
theorem OwnI.ofBlock {w w' : World} {B : Nat} {u : Value} {xs : List Int} (hu : OwnI w B u xs) (ha : ∀ k, u.ownBlock = some k → w'.heap[k]? = w.heap[k]?) : OwnI w' B u xs := by
 rcases hu.2 with ⟨rfl, h0⟩ | ⟨g, cap, cur, rfl, hb, hg, hr⟩
 ·exact ⟨hu.1, .inl ⟨rfl, h0⟩⟩
 ·refine ⟨hu.1, .inr ⟨g, cap, cur, rfl, hb, ?_, hr⟩⟩
  rw [ha g rfl]
  exact hg
theorem OwnI.slOf {w : World} {B n cap : Nat} {a0 : Option Addr} {xs : List Int} (h : OwnI w B (.slice a0 n cap) xs) : Sl w a0 xs := by
 obtain ⟨a1, c1, e, s⟩ := h.form
 simp only [Value.slice.injEq] at e
 obtain ⟨rfl, -, -⟩ := e
 exact s
structure Tl (w : World) (B C N : Nat) (p c : Int) (ra : Option Addr) (rn rc : Nat) (oa : Option Addr) (on oc : Nat) (rs os : List Int) : Prop where
 lo : B ≤ N
 hi : N < C
 sz : C ≤ w.heap.size
 box : BoxC w N (.int .i64 p) (.slice ra rn rc) (.slice oa on oc) (.int .i64 c)
 own : StOwn w B (stV p ra rn rc oa on oc c) p rs os c
 up : ∀ k, hasBlock (stV p ra rn rc oa on oc c) k → k < C
 ne : ¬ hasBlock (stV p ra rn rc oa on oc c) N
theorem Tl.tu {w w' : World} {B C N : Nat} {p c : Int} {ra : Option Addr} {rn rc : Nat} {oa : Option Addr} {on oc : Nat} {rs os : List Int} {lo hi : Nat} (h : Tl w B C N p c ra rn rc oa on oc rs os) (t : Tu lo hi w w') (hd : C ≤ lo ∨ hi ≤ B) : Tl w' B C N p c ra rn rc oa on oc rs os := by
 obtain ⟨h1, h2, h3, ⟨b0, b1, b2, b3⟩, h5, h6, h7⟩ := h
 have hb : ∀ k, B ≤ k → k < C → w'.heap[k]? = w.heap[k]? := fun k k1 k2 => t.block k (by omega) (by omega)
 have hN := hb N h1 h2
 refine ⟨h1, h2, Nat.le_trans h3 t.size, ⟨(World.cell?_of_block hN).trans b0, (World.cell?_of_block hN).trans b1, (World.cell?_of_block hN).trans b2, (World.cell?_of_block hN).trans b3⟩, ?_, h6, h7⟩
 obtain ⟨o1, o2, ha⟩ := h5.parts
 refine ⟨_, _, rfl, o1.ofBlock fun k hk => ?_, o2.ofBlock fun k hk => ?_, ha⟩
 ·exact hb k (o1.lt k hk).1 (h6 k ((hasBlock_iff _ _ _ _ _).2 (.inl hk)))
 ·exact hb k (o2.lt k hk).1 (h6 k ((hasBlock_iff _ _ _ _ _).2 (.inr hk)))
theorem Tl.below {w w' : World} {B C N : Nat} {p c : Int} {ra : Option Addr} {rn rc : Nat} {oa : Option Addr} {on oc : Nat} {rs os : List Int} (h : Tl w B C N p c ra rn rc oa on oc rs os) (hb : Below w.heap.size w w') : Tl w' B C N p c ra rn rc oa on oc rs os := h.tu (Tu.of_below hb) (.inr (Nat.zero_le _))
theorem Tl.sl {w : World} {B C N : Nat} {p c : Int} {ra : Option Addr} {rn rc : Nat} {oa : Option Addr} {on oc : Nat} {rs os : List Int} (h : Tl w B C N p c ra rn rc oa on oc rs os) : Sl w ra rs ∧ Sl w oa os := ⟨h.own.parts.1.slOf, h.own.parts.2.1.slOf⟩
theorem Tl.of_alloc {w : World} {B : Nat} {p c : Int} {ra oa : Option Addr} {rn rc on oc : Nat} {rs os : List Int} (h : StOwn w B (stV p ra rn rc oa on oc c) p rs os c) (hw : B ≤ w.heap.size) (t : TypeId) : Tl (w.alloc (.cells #[.int .i64 p, .slice ra rn rc, .slice oa on oc, .int .i64 c] t)) B (w.heap.size + 1) w.heap.size p c ra rn rc oa on oc rs os :=
 ⟨hw, Nat.lt_succ_self _, by simp, BoxC.new w _ _ _ _ _, h.below (below_alloc _ _), fun k hk => Nat.lt_succ_of_lt (h.lt hk).2, fun e => Nat.lt_irrefl _ (h.lt e).2⟩
def Told (w : World) (B N : Nat) (S : S4) : Prop := ∃ ra rc oa oc, BoxC w N (.int .i64 S.p) (.slice ra S.rs.length rc) (.slice oa S.os.length oc) (.int .i64 S.c) ∧ StOwn w B (stV S.p ra S.rs.length rc oa S.os.length oc S.c) S.p S.rs S.os S.c ∧ B ≤ N ∧ ¬ hasBlock (stV S.p ra S.rs.length rc oa S.os.length oc S.c) N
theorem Told.tl {w : World} {B N : Nat} {S : S4} (h : Told w B N S) : ∃ ra rc oa oc, Tl w B w.heap.size N S.p S.c ra S.rs.length rc oa S.os.length oc S.rs S.os := by
 obtain ⟨ra, rc, oa, oc, h1, h2, h3, h4⟩ := h
 exact ⟨ra, rc, oa, oc, h3, World.block_lt_of_cell? w _ h1.1, Nat.le_refl _, h1, h2, fun k hk => (h2.lt hk).2, h4⟩
theorem BoxC.set4 {w : World} {N : Nat} {z0 z1 z2 z3 : Value} (h : BoxC w N z0 z1 z2 z3) (a b c d : Value) : BoxC ((((w.setCell ⟨N, 0, none⟩ a).setCell ⟨N, 1, none⟩ b).setCell ⟨N, 2, none⟩ c).setCell ⟨N, 3, none⟩ d) N a b c d := by
 obtain ⟨h0, h1, h2, h3⟩ := h
 exact ⟨by go_cell, by go_cell, by go_cell, by go_cell⟩
theorem grown4 (w : World) (N : Nat) (a b c d : Value) : w.grownBy ((((w.setCell ⟨N, 0, none⟩ a).setCell ⟨N, 1, none⟩ b).setCell ⟨N, 2, none⟩ c).setCell ⟨N, 3, none⟩ d) (some N) := by
 repeat (refine grown_setCell ?_ (.inl rfl) _)
 exact World.grownBy.refl _ _
theorem Told.of_alloc {w : World} {B B' : Nat} {S : S4} {ra oa : Option Addr} {rc oc : Nat} (h : StOwn w B' (stV S.p ra S.rs.length rc oa S.os.length oc S.c) S.p S.rs S.os S.c) (hB : B ≤ B') (hw : B ≤ w.heap.size) (t : TypeId) : Told (w.alloc (.cells #[.int .i64 S.p, .slice ra S.rs.length rc, .slice oa S.os.length oc, .int .i64 S.c] t)) B w.heap.size S := by
 refine ⟨ra, rc, oa, oc, BoxC.new w _ _ _ _ _, ?_, hw, fun e => Nat.lt_irrefl _ (h.lt e).2⟩
 obtain ⟨vr, vo, e, o1, o2, ha⟩ := h
 exact ⟨vr, vo, e, (o1.below (below_alloc _ _)).mono hB, (o2.below (below_alloc _ _)).mono hB, ha⟩
theorem Told.of_put {w : World} {B B' N : Nat} {S : S4} {ra oa : Option Addr} {rc oc : Nat} {z0 z1 z2 z3 : Value} (h : StOwn w B' (stV S.p ra S.rs.length rc oa S.os.length oc S.c) S.p S.rs S.os S.c) (hB : B ≤ B') (hN : N < B') (hw : B ≤ N) (hZ : BoxC w N z0 z1 z2 z3) : Told ((((w.setCell ⟨N, 0, none⟩ (.int .i64 S.p)).setCell ⟨N, 1, none⟩ (.slice ra S.rs.length rc)).setCell ⟨N, 2, none⟩ (.slice oa S.os.length oc)).setCell ⟨N, 3, none⟩ (.int .i64 S.c)) B N S :=
 ⟨ra, rc, oa, oc, hZ.set4 _ _ _ _, h.put4 hN hB, hw, fun e => Nat.not_le_of_lt hN (h.lt e).1⟩
def Dx (w wr : World) (p code : Int) (ra : Option Addr) (rn rc : Nat) (oa : Option Addr) (on oc : Nat) (ek eq ev : Int) : Prop :=
 Below w.heap.size w wr ∧ BoxC wr w.heap.size (.int .i64 p) (.slice ra rn rc) (.slice oa on oc) (.int .i64 code) ∧ EvC3 wr (w.heap.size + 1) ek eq ev
def LstE (w : World) (B : Nat) (v : Value) (n : Nat) : Prop := ∃ xs, w.ownsRow B 79 3 v n xs ∧ xs.all isI = true ∧ v ≠ .slice none 0 0
theorem specStateNew_any (w : World) :
  Calls Tryz.prog 22 #[] w fun e w' => ∃ v, e = .returned v ∧ StOwn w' w.heap.size v 0 [0, 0, 0, 0] [] 0 ∧ Below w.heap.size w w' := by
 have hmk : ∀ w : World, (Instr.makeSlice 35 (.int .i64 4) (.int .i64 4)).run Tryz.prog w = .ok (.slice (some ⟨w.heap.size, 0, none⟩) 4 4) (w.alloc (.cells (madeCells #[.int .i64 0] 4) 3)) := fun w => run_make_int 4 (by omega) w
 have HM : Hid (∀ w : World, OwnI (w.alloc (.cells (madeCells #[.int .i64 0] 4) 3)) w.heap.size (.slice (some ⟨w.heap.size, 0, none⟩) 4 4) [0, 0, 0, 0]) := fun w => made_own w 4 (by omega)
 go_enter Tryz.func22, Tryz.ntmps22
 go_wp2
 have hB : w.heap.size ≤ w.heap.size + 1 := by omega
 have hM := HM.out (w.alloc (oQ2 0 (some ⟨w.heap.size + 1, 0, none⟩) 4 4 none 0 0 0))
 rw [World.size_alloc] at hM
 refine bodyPost_ret (v := stV 0 (some ⟨w.heap.size + 1, 0, none⟩) 4 4 none 0 0 0) (by simp [results, Tryz.results22, go_sem]) rfl ⟨_, rfl, ⟨_, _, rfl, hM.mono hB, World.ownsRow_nil _ _ _ _, fun k _ => by simp [Value.ownBlock]⟩, by go_grown⟩
theorem Tl.widen {w : World} {B C C' N : Nat} {p c : Int} {ra : Option Addr} {rn rc : Nat} {oa : Option Addr} {on oc : Nat} {rs os : List Int} (h : Tl w B C N p c ra rn rc oa on oc rs os) (h1 : C ≤ C') (h2 : C' ≤ w.heap.size) : Tl w B C' N p c ra rn rc oa on oc rs os :=
 ⟨h.lo, Nat.lt_of_lt_of_le h.hi h1, h2, h.box, h.own, fun k hk => Nat.lt_of_lt_of_le (h.up k hk) h1, h.ne⟩
structure Dr (w wr : World) (C W0 c len cap : Nat) (a0 : Option Addr) (Bs : Nat) (out : Value) (k : Nat) (p code : Int) (ra : Option Addr) (rc : Nat) (oa : Option Addr) (oc : Nat) (rs os : List Int) : Prop where
 ls : LstE wr w.heap.size out k
 cu : Cur wr W0 c a0 len cap
 gr : w.grownBy wr (some c)
 tl : Tl wr w.heap.size C Bs p code ra rs.length rc oa os.length oc rs os
 fz : ∀ j, wr.frozen? ⟨Bs, j, none⟩ = false
 oC : ∀ j, out.ownBlock = some j → j < C
 nB : out.ownBlock ≠ some Bs
 ap : ∀ j, hasBlock (stV p ra rs.length rc oa os.length oc code) j → out.ownBlock ≠ some j
 lr : rs.length ≤ 1048576
 lo : os.length ≤ 1048576
def EvB (w : World) (N : Nat) (k q v : Int) : Prop := EvC3 w N k q v ∧ ∀ j, w.frozen? ⟨N, j, none⟩ = false
def numL (h : Nat → I2) : Nat → List Int
 | 0 => []
 | n + 1 => if (h n).m = true then numL h n else numL h n ++ [(h n).v]
theorem numL_le (h : Nat → I2) : ∀ n, (numL h n).length ≤ n
 | 0 => Nat.le_refl _
 | n + 1 => by
  unfold numL
  have := numL_le h n
  split
  ·omega
  ·simp; omega
theorem numL_hit {h : Nat → I2} {n : Nat} (hh : (h n).m = false) : numL h (n + 1) = numL h n ++ [(h n).v] := by
 rw [numL, if_neg (by rw [hh]; decide)]
theorem numL_not {h : Nat → I2} {n : Nat} (hh : (h n).m = true) : numL h (n + 1) = numL h n := by
 rw [numL, if_pos hh]
end Go.Proofs.YtdmpcnmbnfdfmaaGreatDoor
