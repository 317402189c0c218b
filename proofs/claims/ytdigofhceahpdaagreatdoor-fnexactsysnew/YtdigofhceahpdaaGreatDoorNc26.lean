/- Steps of a region that draws. -/
import Derived.Test.YtdigofhceahpdaaGreatDoorNc0
import Derived.Test.YtdigofhceahpdaaGreatDoorNc17
import Derived.Maps.AppendAt
import Derived.OneCell
import Derived.Test.YtdigofhceahpdaaGreatDoorNc15
import Derived.Test.YtdigofhceahpdaaGreatDoorNc19
import Derived.Test.YtdigofhceahpdaaGreatDoorNc25
import Derived.Test.YtdigofhceahpdaaGreatDoorNc16
import Derived.Test.YtdigofhceahpdaaGreatDoorRows
import Derived.OrdersHeld
import Derived.Deep.RegionHeld3
namespace Go.Proofs.YtdigofhceahpdaaGreatDoor
set_option maxRecDepth 100000
set_option maxHeartbeats 1000000
open Go.ChangeShapes Go.WideShapes Go.ChangeAt Go.RowKit Go.Deep
theorem below_allocL (w : World) (o : Obj) : Below w.heap.size w (w.alloc o) := (Below.refl _ _).alloc (Nat.le_refl _) _
def Src (w : World) (a0 : Option Addr) (cs : List Value) : Prop := cs = [] ∨ ∃ b off, a0 = some ⟨b, off, none⟩ ∧ b < w.heap.size ∧ ∀ j u, cs[j]? = some u → w.cell? ⟨b, off + j, none⟩ = some u
theorem Src.below {w w' : World} {a0 : Option Addr} {cs : List Value} (h : Src w a0 cs) (hb : Below w.heap.size w w') : Src w' a0 cs := by
 rcases h with h | ⟨b, off, e, hlt, hc⟩
 ·exact .inl h
 ·exact .inr ⟨b, off, e, Nat.lt_of_lt_of_le hlt hb.size, fun j u hj => (hb.cell (p := ⟨b, off + j, none⟩) hlt).trans (hc j u hj)⟩
structure Kind (t e : TypeId) (size bytes : Nat) : Prop where
 und : Tryz.prog.underlying t = some (.slice e)
 inf : ∃ i z, Tryz.prog.info? e = some i ∧ i.zero = some z ∧ i.size = size ∧ i.bytes = bytes ∧ z.cells.size = size
 pos : 0 < size
 sml : bytes ≤ 64
theorem run_append_src {t e : TypeId} {size bytes : Nat} (K : Kind t e size bytes) (w : World) (ty : TypeId) (B : Nat) (v : Value) (n : Nat) (xs : List Value) (hown : w.ownsRow B e size v n xs) (a0 : Option Addr) (m c : Nat) (news : List Value) (hl : news.length = m * size) (hsrc : Src w a0 news) (h1 : ∀ u ∈ news, u.oneCell' = true) (hnm : n + m ≤ 4000000) (hB : B ≤ w.heap.size) :
  ∃ v' w', (Builtin.append_ #[t, t] ty #[v, .slice a0 m c]).run Tryz.prog w = .ok v' w' ∧ w'.ownsRow B e size v' (n + m) (xs ++ news) ∧ w.grownBy w' v.ownBlock ∧ (v'.ownBlock = v.ownBlock ∨ v'.ownBlock = some w.heap.size) ∧ (v ≠ .slice none 0 0 ∨ 0 < m → v' ≠ .slice none 0 0) := by
 obtain ⟨i, z, hi, hz, hs, hb, hzs⟩ := K.inf
 have hby : (n + m) * bytes ≤ 140737488355328 := Nat.le_trans (Nat.mul_le_mul hnm K.sml) (by omega)
 cases a0 with
 | none =>
  have hn0 : news = [] := by
   rcases hsrc with h | ⟨b, off, e, _⟩
   ·exact h
   ·cases e
  subst hn0
  have hm : m = 0 := by
   have := K.pos
   simp only [List.length_nil] at hl
   rcases Nat.eq_zero_or_pos m with h | h
   ·exact h
   ·have := Nat.mul_pos h K.pos
    omega
  subst hm
  refine ⟨v, w, ?_, by simpa using hown, World.grownBy.refl _ _, .inl rfl, fun h => h.elim id fun h => by omega⟩
  rcases hown.2 with ⟨rfl, _⟩ | ⟨g, cap, cur, rfl, _, _, hnc, _⟩
  ·simp [Builtin.append_, run_underlying K.und, sizeOf, typeInfo, hi, Builtin.lenOf, Builtin.firstCells]
  ·simp [Builtin.append_, run_underlying K.und, sizeOf, typeInfo, hi, Builtin.lenOf, Builtin.firstCells, hnc, storeCells]
 | some a =>
  have hnews : ∀ j u, news[j]? = some u → w.cell? (a.add j) = some u := by
   rcases hsrc with h0 | ⟨b, off, e, hlt, hc⟩
   ·subst h0
    intro j u hj
    simp at hj
   ·cases e
    intro j u hj
    have ha : Addr.add ⟨b, off, none⟩ j = ⟨b, off + j, none⟩ := by unfold Addr.add; split <;> simp_all
    rw [ha]
    exact hc j u hj
  obtain ⟨v', w', r1, r2, r3, r4, r5⟩ := run_append_own_at (P := Tryz.prog) w B t ty e i z size bytes K.und hi hz hs hb hzs K.pos v n xs hown a m c news hl hnews h1 (by unfold maxLen; omega) hby hB
  exact ⟨v', w', r1, r2, r3, r5, fun h e => h.elim (fun h => h (r4.1 e).1) fun h => by have := (r4.1 e).2; omega⟩
theorem step_append_src {ops : Array Oper} {rest : List Oper} {op : Oper} {act : Act} {Q : Exit → Act → World → Prop} {t e : TypeId} {size bytes : Nat} (K : Kind t e size bytes) (w : World) (hgd : op.guard = none) (s x : Operand)
  (ho : op.op = .call { callee := .builtin .append, args := #[s, x], argTypes := #[t, t] })
  (B : Nat) (v : Value) (n : Nat) (xs : List Value) (hs : act.eval s = v) (hown : w.ownsRow B e size v n xs) (a0 : Option Addr) (m c : Nat) (news : List Value) (hx : act.eval x = .slice a0 m c) (hl : news.length = m * size) (hsrc : Src w a0 news) (h1 : ∀ u ∈ news, u.oneCell' = true) (hnm : n + m ≤ 4000000) (hB : B ≤ w.heap.size)
  (h : ∀ v' w', w'.ownsRow B e size v' (n + m) (xs ++ news) → w.grownBy w' v.ownBlock → (v'.ownBlock = v.ownBlock ∨ v'.ownBlock = some w.heap.size) → (v ≠ .slice none 0 0 ∨ 0 < m → v' ≠ .slice none 0 0) → wpList Tryz.prog ops Q rest (act.put op.dst v') w') :
  wpList Tryz.prog ops Q (op :: rest) act w := by
 obtain ⟨v', w', r1, r2, r3, r4, r5⟩ := run_append_src K w op.type B v n xs hown a0 m c news hl hsrc h1 hnm hB
 refine wpList_plain hgd fun K hK => ?_
 unfold Oper.wp execOp
 simp only [ho, resolve, invoke, builtin, Sem.run_bind, Sem.run_pure, Result.andThen_ok, List.map_toArray, List.map_cons, List.map_nil, hs, hx, r1]
 exact hK _ _ (h v' w' r2 r3 r4 r5)
theorem step_append_srcN {ops : Array Oper} {rest : List Oper} {op : Oper} {act : Act} {Q : Exit → Act → World → Prop} {t e : TypeId} {size bytes : Nat} (K : Kind t e size bytes) (w : World) {N : Nat} (hN : N = w.heap.size) (hgd : op.guard = none) (s x : Operand)
  (ho : op.op = .call { callee := .builtin .append, args := #[s, x], argTypes := #[t, t] })
  (a0 : Option Addr) (m c : Nat) (news : List Value) (hs : act.eval s = .slice (some ⟨N, 0, none⟩) 0 0) (hx : act.eval x = .slice a0 m c) (hl : news.length = m * size) (hsrc : Src w a0 news) (h1 : ∀ u ∈ news, u.oneCell' = true) (hnm : m ≤ 4000000)
  (h : ∀ v' w', w'.ownsRow w.heap.size e size v' m news → Below w.heap.size w w' → v' ≠ .slice none 0 0 → wpList Tryz.prog ops Q rest (act.put op.dst v') w') :
  wpList Tryz.prog ops Q (op :: rest) act (w.alloc (.cells #[] e)) := by
 subst hN
 have hb : Below w.heap.size w (w.alloc (.cells #[] e)) := below_allocL _ _
 refine step_append_src K _ hgd s x ho w.heap.size (.slice (some ⟨w.heap.size, 0, none⟩) 0 0) 0 [] hs (World.ownsRow_made (base := w.heap.size) (e := e) (size := size) w #[] 0 (Nat.le_refl _) (by unfold maxLen; omega) (by simp)) a0 m c news hx hl (hsrc.below hb) h1 (by omega) (by simp) ?_
 intro v' w' o g _ hne
 rw [Nat.zero_add, List.nil_append] at o
 exact h v' w' o (hb.grown g (by simp) (fun k hk => by cases hk; exact Nat.le_refl _)) (hne (.inl (by simp)))
theorem step_append_val {ops : Array Oper} {rest : List Oper} {op : Oper} {act : Act} {Q : Exit → Act → World → Prop} {t e : TypeId} {size bytes : Nat} (K : Kind t e size bytes) (w : World) {N : Nat} (hN : N = w.heap.size) (hgd : op.guard = none) (s x : Operand)
  (ho : op.op = .call { callee := .builtin .append, args := #[s, x], argTypes := #[t, t] })
  (B : Nat) (v : Value) (n : Nat) (xs : List Value) (hs : act.eval s = v) (hown : w.ownsRow B e size v n xs) (cs : Array Value) (hx : act.eval x = .slice (some ⟨N, 0, none⟩) 1 1) (hl : cs.size = size) (h1 : ∀ u ∈ cs.toList, u.oneCell' = true) (hn : n ≤ 2000000) (hB : B ≤ w.heap.size)
  (h : ∀ v' w', w'.ownsRow B e size v' (n + 1) (xs ++ cs.toList) → w.grownBy w' v.ownBlock → (∀ j, v'.ownBlock = some j → v.ownBlock = some j ∨ w.heap.size ≤ j) → v' ≠ .slice none 0 0 → wpList Tryz.prog ops Q rest (act.put op.dst v') w') :
  wpList Tryz.prog ops Q (op :: rest) act (w.alloc (.cells cs e)) := by
 subst hN
 have hb : Below w.heap.size w (w.alloc (.cells cs e)) := below_allocL _ _
 refine step_append_src K _ hgd s x ho B v n xs hs (hown.alloc _) (some ⟨w.heap.size, 0, none⟩) 1 1 cs.toList hx (by simp [hl]) (.inr ⟨w.heap.size, 0, rfl, by simp, fun j u hj => ?_⟩) h1 (by omega) (by simp; omega) ?_
 ·rw [Nat.zero_add, new_cell _ _ _ j rfl]
  simpa using hj
 ·intro v' w' o g hbk hne
  refine h v' w' o ⟨g.os, g.tape, g.output, Nat.le_trans hb.size g.size, fun j hj hne => (g.block j (Nat.lt_of_lt_of_le hj hb.size) hne).trans (hb.block j hj)⟩ (fun j hj => ?_) (hne (.inr (by omega)))
  rcases hbk with a | a
  ·exact .inl (a.symm.trans hj)
  ·rw [hj] at a
   simp only [Option.some.injEq] at a
   right
   rw [a]
   simp
structure LL (e : TypeId) (sz : Nat) (E : TypeId) (w : World) (P : Nat → Prop) (v : Value) (n : Nat) (u : Nat → Value) (L : Nat → Nat) (c : Nat → List Value) : Prop where
 row : w.ownsRow 0 E 1 v n ((List.range n).map u)
 own : ∀ i, i < n → w.ownsRow 0 e sz (u i) (L i) (c i)
 rb : ∀ k, v.ownBlock = some k → P k
 ob : ∀ i, i < n → ∀ k, (u i).ownBlock = some k → P k
 ra : ∀ i, i < n → ∀ k, (u i).ownBlock = some k → v.ownBlock ≠ some k
 oa : ∀ i j, i < n → j < n → i ≠ j → ∀ k, (u i).ownBlock = some k → (u j).ownBlock ≠ some k
 nn : ∀ i, i < n → u i ≠ .slice none 0 0
theorem ownsRow_blkL {w w' : World} {B size n : Nat} {e : TypeId} {v : Value} {xs : List Value} (h : w.ownsRow B e size v n xs) (hb : ∀ k, v.ownBlock = some k → w'.heap[k]? = w.heap[k]?) : w'.ownsRow B e size v n xs := by
 refine ⟨h.1, ?_⟩
 rcases h.2 with hn | ⟨g, cap, cur, rfl, hB, hg, hr⟩
 ·exact .inl hn
 ·exact .inr ⟨g, cap, cur, rfl, hB, (hb g rfl).trans hg, hr⟩
theorem ownsRow_base0 {w : World} {B size n : Nat} {e : TypeId} {v : Value} {xs : List Value} (h : w.ownsRow B e size v n xs) : w.ownsRow 0 e size v n xs := h.mono (Nat.zero_le _)
section
variable {e : TypeId} {sz : Nat} {E : TypeId} {w : World} {P : Nat → Prop} {v : Value} {n : Nat} {u : Nat → Value} {L : Nat → Nat} {c : Nat → List Value}
theorem LL.keep (o : LL e sz E w P v n u L c) {w' : World} (hb : ∀ k, P k → k < w.heap.size → w'.heap[k]? = w.heap[k]?) : LL e sz E w' P v n u L c :=
 ⟨ownsRow_blkL o.row fun k hk => hb k (o.rb k hk) (o.row.lt k hk).2, fun i hi => ownsRow_blkL (o.own i hi) fun k hk => hb k (o.ob i hi k hk) ((o.own i hi).lt k hk).2, o.rb, o.ob, o.ra, o.oa, o.nn⟩
theorem LL.below (o : LL e sz E w P v n u L c) {w' : World} (hb : Below w.heap.size w w') : LL e sz E w' P v n u L c := o.keep fun k _ hk => hb.block k hk
theorem LL.mono (o : LL e sz E w P v n u L c) {P' : Nat → Prop} (h : ∀ k, P k → k < w.heap.size → P' k) : LL e sz E w P' v n u L c :=
 ⟨o.row, o.own, fun k hk => h k (o.rb k hk) (o.row.lt k hk).2, fun i hi k hk => h k (o.ob i hi k hk) ((o.own i hi).lt k hk).2, o.ra, o.oa, o.nn⟩
theorem LL.push (o : LL e sz E w P v n u L c) {w1 w2 : World} {u' v' : Value} (b1 : Below w.heap.size w w1) (hu : w1.ownsRow w.heap.size e sz u' (L n) (c n)) (hne : u' ≠ .slice none 0 0) (hv : w2.ownsRow 0 E 1 v' (n + 1) ((List.range n).map u ++ [u'])) (g : w1.grownBy w2 v.ownBlock)
  (hv' : ∀ j, v'.ownBlock = some j → v.ownBlock = some j ∨ w1.heap.size ≤ j) {P' : Nat → Prop} (hP : ∀ k, P k → k < w.heap.size → P' k) (hP' : ∀ k, w.heap.size ≤ k → k < w2.heap.size → P' k) : LL e sz E w2 P' v' (n + 1) (fun j => if j = n then u' else u j) L c := by
 have hvlt : ∀ k, v.ownBlock = some k → k < w.heap.size := fun k hk => (o.row.lt k hk).2
 have hu2 : w2.ownsRow w.heap.size e sz u' (L n) (c n) := hu.kept g (by
  cases hk : u'.ownBlock with
  | none => exact .inl rfl
  | some k =>
   refine .inr fun e => ?_
   have q1 := (hu.lt k hk).1
   have q2 := hvlt k e.symm
   omega)
 have ho2 : ∀ i, i < n → w2.ownsRow 0 e sz (u i) (L i) (c i) := fun i hi => ownsRow_blkL (o.own i hi) fun k hk => (g.block k (Nat.lt_of_lt_of_le ((o.own i hi).lt k hk).2 b1.size) fun e => o.ra i hi k hk e.symm).trans (b1.block k ((o.own i hi).lt k hk).2)
 have lts : ∀ i, i < n → ∀ k, (u i).ownBlock = some k → k < w.heap.size := fun i hi k hk => ((o.own i hi).lt k hk).2
 refine ⟨?_, fun i hi => ?_, fun k hk => ?_, fun i hi k hk => ?_, fun i hi k hk => ?_, fun i j hi hj hij k hk => ?_, fun i hi => ?_⟩
 ·have e : (List.range (n + 1)).map (fun j => if j = n then u' else u j) = (List.range n).map u ++ [u'] := by
   rw [List.range_succ, List.map_append]
   simp only [List.map_cons, List.map_nil, if_true]
   congr 1
   exact List.map_congr_left fun j hj => by
    rw [if_neg]
    have := List.mem_range.1 hj
    omega
  rw [e]
  exact hv
 ·by_cases ei : i = n
  ·subst ei
   rw [if_pos rfl]
   exact ownsRow_base0 hu2
  ·rw [if_neg ei]
   exact ho2 i (by omega)
 ·rcases hv' k hk with h | h
  ·exact hP k (o.rb k h) (hvlt k h)
  ·exact hP' k (Nat.le_trans b1.size h) (hv.lt k hk).2
 ·by_cases ei : i = n
  ·simp only [if_pos ei] at hk
   exact hP' k (hu.lt k hk).1 (hu2.lt k hk).2
  ·simp only [if_neg ei] at hk
   exact hP k (o.ob i (by omega) k hk) (lts i (by omega) k hk)
 ·intro hvk
  by_cases ei : i = n
  ·simp only [if_pos ei] at hk
   rcases hv' k hvk with h | h
   ·have := hvlt k h
    have := (hu.lt k hk).1
    omega
   ·have := (hu.lt k hk).2
    omega
  ·simp only [if_neg ei] at hk
   rcases hv' k hvk with h | h
   ·exact o.ra i (by omega) k hk h
   ·have := lts i (by omega) k hk
    have := b1.size
    omega
 ·intro hjk
  by_cases ei : i = n
  ·have ej : j ≠ n := fun e => hij (by omega)
   simp only [if_pos ei] at hk
   simp only [if_neg ej] at hjk
   have := lts j (by omega) k hjk
   have := (hu.lt k hk).1
   omega
  ·simp only [if_neg ei] at hk
   by_cases ej : j = n
   ·simp only [if_pos ej] at hjk
    have := lts i (by omega) k hk
    have := (hu.lt k hjk).1
    omega
   ·simp only [if_neg ej] at hjk
    exact o.oa i j (by omega) (by omega) hij k hk hjk
 ·by_cases ei : i = n
  ·rw [if_pos ei]
   exact hne
  ·rw [if_neg ei]
   exact o.nn i (by omega)
theorem LL.nil (e : TypeId) (sz : Nat) (E : TypeId) (w : World) (P : Nat → Prop) (u : Nat → Value) (L : Nat → Nat) (c : Nat → List Value) : LL e sz E w P (.slice none 0 0) 0 u L c :=
 ⟨World.ownsRow_nil _ _ _ _, fun i hi => (by omega), fun k hk => (by cases hk), fun i hi => (by omega), fun i hi => (by omega), fun i j hi => (by omega), fun i hi => by omega⟩
theorem LL.new (e : TypeId) (sz : Nat) (E : TypeId) (w : World) (P : Nat → Prop) (hP : P w.heap.size) (u : Nat → Value) (L : Nat → Nat) (c : Nat → List Value) : LL e sz E (w.alloc (.cells #[] E)) P (.slice (some ⟨w.heap.size, 0, none⟩) 0 0) 0 u L c :=
 ⟨World.ownsRow_made (base := 0) (e := E) (size := 1) w #[] 0 (Nat.zero_le _) (by unfold maxLen; omega) rfl, fun i hi => (by omega), fun k hk => (by cases hk; exact hP), fun i hi => (by omega), fun i hi => (by omega), fun i j hi => (by omega), fun i hi => by omega⟩
theorem LL.cell (o : LL e sz E w P v n u L c) {i : Nat} (hi : i < n) : ∃ g cap, v = .slice (some ⟨g, 0, none⟩) n cap ∧ P g ∧ g < w.heap.size ∧ w.cell? ⟨g, i, none⟩ = some (u i) ∧ ∀ j, w.frozen? ⟨g, j, none⟩ = false := by
 rcases o.row.2 with ⟨_, h0⟩ | ⟨g, cap, cur, rfl, hb, hg, hr⟩
 ·omega
 ·refine ⟨g, cap, rfl, o.rb g rfl, (o.row.lt g rfl).2, ?_, fun j => o.row.frozenAt j⟩
  rw [o.row.cellAt i (by omega)]
  simp [hi]
end
def flat (f : Nat → List Value) : Nat → List Value
 | 0 => []
 | n + 1 => flat f n ++ f n
theorem flat_len {f : Nat → List Value} {sz : Nat} : ∀ {n : Nat}, (∀ i, i < n → (f i).length = sz) → (flat f n).length = n * sz
 | 0, _ => by simp [flat]
 | n + 1, h => by
  rw [flat, List.length_append, flat_len (fun i hi => h i (by omega)), h n (by omega), Nat.add_mul, Nat.one_mul]
theorem flat_at {f : Nat → List Value} {sz : Nat} : ∀ {n : Nat}, (∀ i, i < n → (f i).length = sz) → ∀ {i j : Nat}, i < n → j < sz → (flat f n)[i * sz + j]? = (f i)[j]?
 | 0, _, i, j, hi, _ => by omega
 | n + 1, h, i, j, hi, hj => by
  have hl := flat_len (f := f) (sz := sz) (n := n) fun i hi => h i (by omega)
  by_cases e : i = n
  ·subst e
   rw [flat, List.getElem?_append_right (by omega), hl]
   congr 1
   omega
  ·have : i * sz + sz ≤ n * sz := by
    have := Nat.mul_le_mul_right sz (show i + 1 ≤ n by omega)
    rw [Nat.add_mul, Nat.one_mul] at this
    exact this
   rw [flat, List.getElem?_append_left (by omega)]
   exact flat_at (fun i hi => h i (by omega)) (by omega) hj
theorem flat_one {f : Nat → List Value} : ∀ {n : Nat}, (∀ i, i < n → ∀ u ∈ f i, u.oneCell' = true) → ∀ u ∈ flat f n, u.oneCell' = true
 | 0, _, u, hu => by simp [flat] at hu
 | n + 1, h, u, hu => by
  rw [flat, List.mem_append] at hu
  rcases hu with hu | hu
  ·exact flat_one (fun i hi => h i (by omega)) u hu
  ·exact h n (by omega) u hu
theorem flat_congr {f g : Nat → List Value} : ∀ {n : Nat}, (∀ i, i < n → f i = g i) → flat f n = flat g n
 | 0, _ => rfl
 | n + 1, h => by rw [flat, flat, flat_congr fun i hi => h i (by omega), h n (by omega)]
def cellsL : Value → List Value
 | .agg a => a.toList
 | _ => []
theorem StOwn.cellsL {w : World} {B : Nat} {v : Value} {p code : Int} {rs os : List Int} (h : StOwn w B v p rs os code) : (cellsL v).length = 4 ∧ ∀ u ∈ cellsL v, u.oneCell' = true := by
 obtain ⟨vr, vo, rfl, h1, h2, -⟩ := h
 obtain ⟨a1, c1, rfl, -⟩ := h1.form
 obtain ⟨a2, c2, rfl, -⟩ := h2.form
 refine ⟨rfl, fun u hu => ?_⟩
 simp [Go.Proofs.YtdigofhceahpdaaGreatDoor.cellsL] at hu
 rcases hu with rfl | rfl | rfl | rfl <;> rfl
structure LS (w : World) (P : Nat → Prop) (v : Value) (n : Nat) (vs : Nat → Value) (S : Nat → S4) : Prop where
 row : w.ownsRow 0 54 4 v n (flat (fun i => cellsL (vs i)) n)
 own : ∀ i, i < n → StOwn w 0 (vs i) (S i).p (S i).rs (S i).os (S i).c
 rb : ∀ k, v.ownBlock = some k → P k
 ob : ∀ i, i < n → ∀ k, hasBlock (vs i) k → P k
 ra : ∀ i, i < n → ∀ k, hasBlock (vs i) k → v.ownBlock ≠ some k
 oa : ∀ i j, i < n → j < n → i ≠ j → ∀ k, hasBlock (vs i) k → ¬ hasBlock (vs j) k
section
variable {w : World} {P : Nat → Prop} {v : Value} {n : Nat} {vs : Nat → Value} {S : Nat → S4}
theorem LS.keep (o : LS w P v n vs S) {w' : World} (hb : ∀ k, P k → k < w.heap.size → w'.heap[k]? = w.heap[k]?) : LS w' P v n vs S :=
 ⟨ownsRow_blkL o.row fun k hk => hb k (o.rb k hk) (o.row.lt k hk).2, fun i hi => (o.own i hi).blk fun k hk => hb k (o.ob i hi k hk) ((o.own i hi).lt hk).2, o.rb, o.ob, o.ra, o.oa⟩
theorem LS.below (o : LS w P v n vs S) {w' : World} (hb : Below w.heap.size w w') : LS w' P v n vs S := o.keep fun k _ hk => hb.block k hk
theorem LS.mono (o : LS w P v n vs S) {P' : Nat → Prop} (h : ∀ k, P k → k < w.heap.size → P' k) : LS w P' v n vs S :=
 ⟨o.row, o.own, fun k hk => h k (o.rb k hk) (o.row.lt k hk).2, fun i hi k hk => h k (o.ob i hi k hk) ((o.own i hi).lt hk).2, o.ra, o.oa⟩
theorem LS.nil (w : World) (P : Nat → Prop) (vs : Nat → Value) (S : Nat → S4) : LS w P (.slice none 0 0) 0 vs S :=
 ⟨World.ownsRow_nil _ _ _ _, fun i hi => (by omega), fun k hk => (by cases hk), fun i hi => (by omega), fun i hi => (by omega), fun i j hi => (by omega)⟩
theorem LS.push (o : LS w P v n vs S) {w1 w2 : World} {u' v' : Value} (b1 : Below w.heap.size w w1) (hu : StOwn w1 w.heap.size u' (S n).p (S n).rs (S n).os (S n).c) (hv : w2.ownsRow 0 54 4 v' (n + 1) (flat (fun i => cellsL (vs i)) n ++ cellsL u')) (g : w1.grownBy w2 v.ownBlock)
  (hv' : ∀ j, v'.ownBlock = some j → v.ownBlock = some j ∨ w1.heap.size ≤ j) {P' : Nat → Prop} (hP : ∀ k, P k → k < w.heap.size → P' k) (hP' : ∀ k, w.heap.size ≤ k → k < w2.heap.size → P' k) : LS w2 P' v' (n + 1) (fun j => if j = n then u' else vs j) S := by
 have hvlt : ∀ k, v.ownBlock = some k → k < w.heap.size := fun k hk => (o.row.lt k hk).2
 have lts : ∀ i, i < n → ∀ k, hasBlock (vs i) k → k < w.heap.size := fun i hi k hk => ((o.own i hi).lt hk).2
 have hu2 : StOwn w2 w.heap.size u' (S n).p (S n).rs (S n).os (S n).c := hu.blk fun k hk => g.block k (hu.lt hk).2 fun e => by
  have q1 := (hu.lt hk).1
  have q2 := hvlt k e.symm
  omega
 have ho2 : ∀ i, i < n → StOwn w2 0 (vs i) (S i).p (S i).rs (S i).os (S i).c := fun i hi => (o.own i hi).blk fun k hk => (g.block k (Nat.lt_of_lt_of_le (lts i hi k hk) b1.size) fun e => o.ra i hi k hk e.symm).trans (b1.block k (lts i hi k hk))
 refine ⟨?_, fun i hi => ?_, fun k hk => ?_, fun i hi k hk => ?_, fun i hi k hk => ?_, fun i j hi hj hij k hk => ?_⟩
 ·have e : flat (fun i => cellsL (if i = n then u' else vs i)) (n + 1) = flat (fun i => cellsL (vs i)) n ++ cellsL u' := by
   rw [flat, if_pos rfl]
   congr 1
   exact flat_congr fun i hi => by rw [if_neg (by omega)]
  rw [e]
  exact hv
 ·by_cases ei : i = n
  ·subst ei
   simp only [if_true]
   exact hu2.mono (Nat.zero_le _)
  ·simp only [if_neg ei]
   exact ho2 i (by omega)
 ·rcases hv' k hk with h | h
  ·exact hP k (o.rb k h) (hvlt k h)
  ·exact hP' k (Nat.le_trans b1.size h) (hv.lt k hk).2
 ·by_cases ei : i = n
  ·simp only [if_pos ei] at hk
   exact hP' k (hu.lt hk).1 (hu2.lt hk).2
  ·simp only [if_neg ei] at hk
   exact hP k (o.ob i (by omega) k hk) (lts i (by omega) k hk)
 ·intro hvk
  by_cases ei : i = n
  ·simp only [if_pos ei] at hk
   rcases hv' k hvk with h | h
   ·have := hvlt k h
    have := (hu.lt hk).1
    omega
   ·have := (hu.lt hk).2
    omega
  ·simp only [if_neg ei] at hk
   rcases hv' k hvk with h | h
   ·exact o.ra i (by omega) k hk h
   ·have := lts i (by omega) k hk
    have := b1.size
    omega
 ·intro hjk
  by_cases ei : i = n
  ·have ej : j ≠ n := fun e => hij (by omega)
   simp only [if_pos ei] at hk
   simp only [if_neg ej] at hjk
   have := lts j (by omega) k hjk
   have := (hu.lt hk).1
   omega
  ·simp only [if_neg ei] at hk
   by_cases ej : j = n
   ·simp only [if_pos ej] at hjk
    have := lts i (by omega) k hk
    have := (hu.lt hjk).1
    omega
   ·simp only [if_neg ej] at hjk
    exact o.oa i j (by omega) (by omega) hij k hk hjk
theorem LS.cell (o : LS w P v n vs S) {i : Nat} (hi : i < n) : ∃ g cap, v = .slice (some ⟨g, 0, none⟩) n cap ∧ P g ∧ g < w.heap.size ∧ Cel4 w g (i * 4) (S i) (vs i) ∧ ∀ j, w.frozen? ⟨g, j, none⟩ = false := by
 have hr := o.row
 rcases hr.2 with ⟨_, h0⟩ | ⟨g, cap, cur, rfl, hb, hg, hcap, _⟩
 ·omega
 ·refine ⟨g, cap, rfl, o.rb g rfl, (o.row.lt g rfl).2, ?_, fun j => o.row.frozenAt j⟩
  have hl : ∀ j, j < n → (cellsL (vs j)).length = 4 := fun j hj => (o.own j hj).cellsL.1
  have hc : ∀ j, j < 4 → w.cell? ⟨g, i * 4 + j, none⟩ = (cellsL (vs i))[j]? := fun j hj => by
   rw [o.row.cellAt (i * 4 + j) (by omega)]
   exact flat_at hl hi hj
  obtain ⟨vr, vo, e, h1, h2, -⟩ := o.own i hi
  obtain ⟨a1, c1, rfl, -⟩ := h1.form
  obtain ⟨a2, c2, rfl, -⟩ := h2.form
  rw [e] at hc
  exact ⟨a1, c1, a2, c2, e, hc 0 (by omega), hc 1 (by omega), hc 2 (by omega), hc 3 (by omega)⟩
end
def cI (h : I5) : List Value := [.int .i64 h.o, .int .i64 h.r, .int .i64 h.a, .int .i64 h.b, .int .i64 h.n]
def cT (h : I2) : List Value := [.bool h.m, .int .i64 h.v]
def cE (h : E3) : List Value := [.int .i64 h.k, .int .i64 h.q, .int .i64 h.v]
def fI (h : Nat → I5) (n : Nat) : List Value := flat (fun i => cI (h i)) n
def fT (h : Nat → I2) (n : Nat) : List Value := flat (fun i => cT (h i)) n
def fE (h : Nat → E3) (n : Nat) : List Value := flat (fun i => cE (h i)) n
theorem fI_len (h : Nat → I5) (n : Nat) : (fI h n).length = n * 5 := flat_len fun _ _ => rfl
theorem fI_one (h : Nat → I5) (n : Nat) : ∀ u ∈ fI h n, u.oneCell' = true := flat_one fun i _ u hu => by
 simp [cI] at hu
 rcases hu with rfl | rfl | rfl | rfl | rfl <;> rfl
theorem kndI : Kind 57 60 5 40 := by
 refine ⟨Tryz.underlying57, ?_, by omega, by omega⟩
 have hinfo : (Tryz.prog.info? 60).map (fun i => (i.zero, i.size, i.bytes)) = some (some (.agg #[.int .i64 0, .int .i64 0, .int .i64 0, .int .i64 0, .int .i64 0]), 5, 40) := by kernel_rfl
 cases hi : Tryz.prog.info? 60 with
 | none => rw [hi] at hinfo; cases hinfo
 | some i =>
  rw [hi] at hinfo
  simp only [Option.map_some, Option.some.injEq, Prod.mk.injEq] at hinfo
  exact ⟨i, _, rfl, hinfo.1, hinfo.2.1, hinfo.2.2, rfl⟩
theorem kndE : Kind 91 77 3 24 := by
 refine ⟨Tryz.underlying91, ?_, by omega, by omega⟩
 have hinfo : (Tryz.prog.info? 77).map (fun i => (i.zero, i.size, i.bytes)) = some (some (.agg #[.int .i64 0, .int .i64 0, .int .i64 0]), 3, 24) := by kernel_rfl
 cases hi : Tryz.prog.info? 77 with
 | none => rw [hi] at hinfo; cases hinfo
 | some i =>
  rw [hi] at hinfo
  simp only [Option.map_some, Option.some.injEq, Prod.mk.injEq] at hinfo
  exact ⟨i, _, rfl, hinfo.1, hinfo.2.1, hinfo.2.2, rfl⟩
theorem kndS : Kind 25 54 4 64 := by
 refine ⟨Tryz.underlying25, ?_, by omega, by omega⟩
 have hinfo := infoSta
 cases hi : Tryz.prog.info? 54 with
 | none => rw [hi] at hinfo; cases hinfo
 | some i =>
  rw [hi] at hinfo
  simp only [Option.map_some, Option.some.injEq, Prod.mk.injEq] at hinfo
  exact ⟨i, _, rfl, hinfo.1, hinfo.2.1, hinfo.2.2, rfl⟩
theorem kndII : Kind 24 57 1 24 := by
 refine ⟨Tryz.underlying24, ?_, by omega, by omega⟩
 have hinfo : (Tryz.prog.info? 57).map (fun i => (i.zero, i.size, i.bytes)) = some (some (.slice none 0 0), 1, 24) := by kernel_rfl
 cases hi : Tryz.prog.info? 57 with
 | none => rw [hi] at hinfo; cases hinfo
 | some i =>
  rw [hi] at hinfo
  simp only [Option.map_some, Option.some.injEq, Prod.mk.injEq] at hinfo
  exact ⟨i, _, rfl, hinfo.1, hinfo.2.1, hinfo.2.2, rfl⟩
theorem kndTT : Kind 26 95 1 24 := by
 refine ⟨Tryz.underlying26, ?_, by omega, by omega⟩
 have hinfo : (Tryz.prog.info? 95).map (fun i => (i.zero, i.size, i.bytes)) = some (some (.slice none 0 0), 1, 24) := by kernel_rfl
 cases hi : Tryz.prog.info? 95 with
 | none => rw [hi] at hinfo; cases hinfo
 | some i =>
  rw [hi] at hinfo
  simp only [Option.map_some, Option.some.injEq, Prod.mk.injEq] at hinfo
  exact ⟨i, _, rfl, hinfo.1, hinfo.2.1, hinfo.2.2, rfl⟩
theorem kndEE : Kind 27 91 1 24 := by
 refine ⟨Tryz.underlying27, ?_, by omega, by omega⟩
 have hinfo : (Tryz.prog.info? 91).map (fun i => (i.zero, i.size, i.bytes)) = some (some (.slice none 0 0), 1, 24) := by kernel_rfl
 cases hi : Tryz.prog.info? 91 with
 | none => rw [hi] at hinfo; cases hinfo
 | some i =>
  rw [hi] at hinfo
  simp only [Option.map_some, Option.some.injEq, Prod.mk.injEq] at hinfo
  exact ⟨i, _, rfl, hinfo.1, hinfo.2.1, hinfo.2.2, rfl⟩
theorem srcOf {w : World} {b off sz n : Nat} {f : Nat → List Value} (hb : b < w.heap.size) (hsz : 0 < sz) (hl : ∀ i, i < n → (f i).length = sz) (hc : ∀ i, i < n → ∀ j, j < sz → w.cell? ⟨b, off + (i * sz + j), none⟩ = (f i)[j]?) : Src w (some ⟨b, off, none⟩) (flat f n) := by
 refine .inr ⟨b, off, rfl, hb, fun q u hq => ?_⟩
 have hlen := flat_len hl
 have hq' : q < n * sz := by
  rcases Nat.lt_or_ge q (n * sz) with h | h
  ·exact h
  ·rw [List.getElem?_eq_none (by omega)] at hq
   cases hq
 have hk : q / sz < n := Nat.div_lt_of_lt_mul (by rw [Nat.mul_comm]; exact hq')
 have hr : q % sz < sz := Nat.mod_lt _ hsz
 have e : q / sz * sz + q % sz = q := by rw [Nat.mul_comm]; exact Nat.div_add_mod q sz
 have h1 := hc (q / sz) hk (q % sz) hr
 have h2 := flat_at hl hk hr
 rw [e] at h1 h2
 rw [h1, ← h2, hq]
theorem srcI {w : World} {b off len : Nat} {g : Nat → I5} (hb : b < w.heap.size) (h : InsAt w b off len g) : Src w (some ⟨b, off, none⟩) (fI g len) := srcOf (sz := 5) hb (by omega) (fun _ _ => rfl) fun i hi j hj => by
 obtain ⟨h0, h1, h2, h3, h4⟩ := h i hi
 match j, hj with
 | 0, _ => exact h0
 | 1, _ => exact h1
 | 2, _ => exact h2
 | 3, _ => exact h3
 | 4, _ => exact h4
theorem atI {w : World} {B : Nat} {u : Value} {n : Nat} {g : Nat → I5} (o : w.ownsRow B 60 5 u n (fI g n)) (hne : u ≠ .slice none 0 0) : ∃ b cap, u = .slice (some ⟨b, 0, none⟩) n cap ∧ b < w.heap.size ∧ InsAt w b 0 n g ∧ n ≤ cap := by
 rcases o.2 with ⟨e, _⟩ | ⟨b, cap, cur, rfl, hb, hg, hcap, _⟩
 ·exact absurd e hne
 ·refine ⟨b, cap, rfl, (o.lt b rfl).2, fun i hi => ?_, hcap⟩
  have hc : ∀ j, j < 5 → w.cell? ⟨b, 0 + (i * 5 + j), none⟩ = (cI (g i))[j]? := fun j hj => by
   rw [Nat.zero_add, o.cellAt _ (by omega)]
   exact flat_at (sz := 5) (fun _ _ => rfl) hi hj
  exact ⟨hc 0 (by omega), hc 1 (by omega), hc 2 (by omega), hc 3 (by omega), hc 4 (by omega)⟩
def Cl (B : Nat) (c : Nat → Nat) (i : Nat) : Nat → Prop := fun k => B ≤ k ∧ c k = i
abbrev LI (w : World) (P : Nat → Prop) (v : Value) (n : Nat) (u : Nat → Value) (L : Nat → Nat) (H : Nat → Nat → I5) : Prop := LL 60 5 57 w P v n u L fun i => fI (H i) (L i)
abbrev LT (w : World) (P : Nat → Prop) (v : Value) (n : Nat) (u : Nat → Value) (L : Nat → Nat) (H : Nat → Nat → I2) : Prop := LL 122 2 95 w P v n u L fun i => fT (H i) (L i)
abbrev LE (w : World) (P : Nat → Prop) (v : Value) (n : Nat) (u : Nat → Value) (L : Nat → Nat) (H : Nat → Nat → E3) : Prop := LL 77 3 91 w P v n u L fun i => fE (H i) (L i)
structure Tu (lo hi : Nat) (w w' : World) : Prop where
 os : w'.os = w.os
 tape : w'.tape = w.tape
 output : w'.output = w.output
 size : w.heap.size ≤ w'.heap.size
 block : ∀ k, k < w.heap.size → (k < lo ∨ hi ≤ k) → w'.heap[k]? = w.heap[k]?
theorem Tu.of_below {w w' : World} (h : Below w.heap.size w w') : Tu 0 0 w w' := ⟨h.os, h.tape, h.output, h.size, fun k hk _ => h.block k hk⟩
theorem OwnI.ofBlock {w w' : World} {B : Nat} {u : Value} {xs : List Int} (hu : OwnI w B u xs) (ha : ∀ k, u.ownBlock = some k → w'.heap[k]? = w.heap[k]?) : OwnI w' B u xs := by
 rcases hu.2 with ⟨rfl, h0⟩ | ⟨g, cap, cur, rfl, hb, hg, hr⟩
 ·exact ⟨hu.1, .inl ⟨rfl, h0⟩⟩
 ·refine ⟨hu.1, .inr ⟨g, cap, cur, rfl, hb, ?_, hr⟩⟩
  rw [ha g rfl]
  exact hg
theorem OwnI.slOf {w : World} {B n cap : Nat} {a0 : Option Addr} {xs : List Int} (h : OwnI w B (.slice a0 n cap) xs) : Sl w a0 xs := by
 obtain ⟨a1, c1, e, s⟩ := h.form
 simp only [Value.slice.injEq] at e
 obtain ⟨rfl, -, -⟩ := e
 exact s
structure Tl (w : World) (B C N : Nat) (p c : Int) (ra : Option Addr) (rn rc : Nat) (oa : Option Addr) (on oc : Nat) (rs os : List Int) : Prop where
 lo : B ≤ N
 hi : N < C
 sz : C ≤ w.heap.size
 box : BoxC w N (.int .i64 p) (.slice ra rn rc) (.slice oa on oc) (.int .i64 c)
 own : StOwn w B (stV p ra rn rc oa on oc c) p rs os c
 up : ∀ k, hasBlock (stV p ra rn rc oa on oc c) k → k < C
 ne : ¬ hasBlock (stV p ra rn rc oa on oc c) N
theorem Tl.tu {w w' : World} {B C N : Nat} {p c : Int} {ra : Option Addr} {rn rc : Nat} {oa : Option Addr} {on oc : Nat} {rs os : List Int} {lo hi : Nat} (h : Tl w B C N p c ra rn rc oa on oc rs os) (t : Tu lo hi w w') (hd : C ≤ lo ∨ hi ≤ B) : Tl w' B C N p c ra rn rc oa on oc rs os := by
 obtain ⟨h1, h2, h3, ⟨b0, b1, b2, b3⟩, h5, h6, h7⟩ := h
 have hb : ∀ k, B ≤ k → k < C → w'.heap[k]? = w.heap[k]? := fun k k1 k2 => t.block k (by omega) (by omega)
 have hN := hb N h1 h2
 refine ⟨h1, h2, Nat.le_trans h3 t.size, ⟨(World.cell?_of_block hN).trans b0, (World.cell?_of_block hN).trans b1, (World.cell?_of_block hN).trans b2, (World.cell?_of_block hN).trans b3⟩, ?_, h6, h7⟩
 obtain ⟨o1, o2, ha⟩ := h5.parts
 refine ⟨_, _, rfl, o1.ofBlock fun k hk => ?_, o2.ofBlock fun k hk => ?_, ha⟩
 ·exact hb k (o1.lt k hk).1 (h6 k ((hasBlock_iff _ _ _ _ _).2 (.inl hk)))
 ·exact hb k (o2.lt k hk).1 (h6 k ((hasBlock_iff _ _ _ _ _).2 (.inr hk)))
theorem Tl.below {w w' : World} {B C N : Nat} {p c : Int} {ra : Option Addr} {rn rc : Nat} {oa : Option Addr} {on oc : Nat} {rs os : List Int} (h : Tl w B C N p c ra rn rc oa on oc rs os) (hb : Below w.heap.size w w') : Tl w' B C N p c ra rn rc oa on oc rs os := h.tu (Tu.of_below hb) (.inr (Nat.zero_le _))
theorem Tl.sl {w : World} {B C N : Nat} {p c : Int} {ra : Option Addr} {rn rc : Nat} {oa : Option Addr} {on oc : Nat} {rs os : List Int} (h : Tl w B C N p c ra rn rc oa on oc rs os) : Sl w ra rs ∧ Sl w oa os := ⟨h.own.parts.1.slOf, h.own.parts.2.1.slOf⟩
theorem Tl.of_alloc {w : World} {B : Nat} {p c : Int} {ra oa : Option Addr} {rn rc on oc : Nat} {rs os : List Int} (h : StOwn w B (stV p ra rn rc oa on oc c) p rs os c) (hw : B ≤ w.heap.size) (t : TypeId) : Tl (w.alloc (.cells #[.int .i64 p, .slice ra rn rc, .slice oa on oc, .int .i64 c] t)) B (w.heap.size + 1) w.heap.size p c ra rn rc oa on oc rs os :=
 ⟨hw, Nat.lt_succ_self _, by simp, BoxC.new w _ _ _ _ _, h.below (below_alloc _ _), fun k hk => Nat.lt_succ_of_lt (h.lt hk).2, fun e => Nat.lt_irrefl _ (h.lt e).2⟩
def Told (w : World) (B N : Nat) (S : S4) : Prop := ∃ ra rc oa oc, BoxC w N (.int .i64 S.p) (.slice ra S.rs.length rc) (.slice oa S.os.length oc) (.int .i64 S.c) ∧ StOwn w B (stV S.p ra S.rs.length rc oa S.os.length oc S.c) S.p S.rs S.os S.c ∧ B ≤ N ∧ ¬ hasBlock (stV S.p ra S.rs.length rc oa S.os.length oc S.c) N
theorem Told.tl {w : World} {B N : Nat} {S : S4} (h : Told w B N S) : ∃ ra rc oa oc, Tl w B w.heap.size N S.p S.c ra S.rs.length rc oa S.os.length oc S.rs S.os := by
 obtain ⟨ra, rc, oa, oc, h1, h2, h3, h4⟩ := h
 exact ⟨ra, rc, oa, oc, h3, World.block_lt_of_cell? w _ h1.1, Nat.le_refl _, h1, h2, fun k hk => (h2.lt hk).2, h4⟩
theorem BoxC.set4 {w : World} {N : Nat} {z0 z1 z2 z3 : Value} (h : BoxC w N z0 z1 z2 z3) (a b c d : Value) : BoxC ((((w.setCell ⟨N, 0, none⟩ a).setCell ⟨N, 1, none⟩ b).setCell ⟨N, 2, none⟩ c).setCell ⟨N, 3, none⟩ d) N a b c d := by
 obtain ⟨h0, h1, h2, h3⟩ := h
 exact ⟨by go_cell, by go_cell, by go_cell, by go_cell⟩
theorem grown4 (w : World) (N : Nat) (a b c d : Value) : w.grownBy ((((w.setCell ⟨N, 0, none⟩ a).setCell ⟨N, 1, none⟩ b).setCell ⟨N, 2, none⟩ c).setCell ⟨N, 3, none⟩ d) (some N) := by
 repeat (refine grown_setCell ?_ (.inl rfl) _)
 exact World.grownBy.refl _ _
theorem Told.of_alloc {w : World} {B B' : Nat} {S : S4} {ra oa : Option Addr} {rc oc : Nat} (h : StOwn w B' (stV S.p ra S.rs.length rc oa S.os.length oc S.c) S.p S.rs S.os S.c) (hB : B ≤ B') (hw : B ≤ w.heap.size) (t : TypeId) : Told (w.alloc (.cells #[.int .i64 S.p, .slice ra S.rs.length rc, .slice oa S.os.length oc, .int .i64 S.c] t)) B w.heap.size S := by
 refine ⟨ra, rc, oa, oc, BoxC.new w _ _ _ _ _, ?_, hw, fun e => Nat.lt_irrefl _ (h.lt e).2⟩
 obtain ⟨vr, vo, e, o1, o2, ha⟩ := h
 exact ⟨vr, vo, e, (o1.below (below_alloc _ _)).mono hB, (o2.below (below_alloc _ _)).mono hB, ha⟩
theorem Told.of_put {w : World} {B B' N : Nat} {S : S4} {ra oa : Option Addr} {rc oc : Nat} {z0 z1 z2 z3 : Value} (h : StOwn w B' (stV S.p ra S.rs.length rc oa S.os.length oc S.c) S.p S.rs S.os S.c) (hB : B ≤ B') (hN : N < B') (hw : B ≤ N) (hZ : BoxC w N z0 z1 z2 z3) : Told ((((w.setCell ⟨N, 0, none⟩ (.int .i64 S.p)).setCell ⟨N, 1, none⟩ (.slice ra S.rs.length rc)).setCell ⟨N, 2, none⟩ (.slice oa S.os.length oc)).setCell ⟨N, 3, none⟩ (.int .i64 S.c)) B N S :=
 ⟨ra, rc, oa, oc, hZ.set4 _ _ _ _, h.put4 hN hB, hw, fun e => Nat.not_le_of_lt hN (h.lt e).1⟩
def Dx (w wr : World) (p code : Int) (ra : Option Addr) (rn rc : Nat) (oa : Option Addr) (on oc : Nat) (ek eq ev : Int) : Prop :=
 Below w.heap.size w wr ∧ BoxC wr w.heap.size (.int .i64 p) (.slice ra rn rc) (.slice oa on oc) (.int .i64 code) ∧ EvC3 wr (w.heap.size + 1) ek eq ev
def LstE (w : World) (B : Nat) (v : Value) (n : Nat) : Prop := ∃ xs, w.ownsRow B 77 3 v n xs ∧ xs.all isI = true ∧ v ≠ .slice none 0 0
theorem specStateNew_any (w : World) :
  Calls Tryz.prog 23 #[] w fun e w' => ∃ v, e = .returned v ∧ StOwn w' w.heap.size v 0 [0, 0, 0, 0] [] 0 ∧ Below w.heap.size w w' := by
 have hmk : ∀ w : World, (Instr.makeSlice 52 (.int .i64 4) (.int .i64 4)).run Tryz.prog w = .ok (.slice (some ⟨w.heap.size, 0, none⟩) 4 4) (w.alloc (.cells (madeCells #[.int .i64 0] 4) 3)) := fun w => run_make_int 4 (by omega) w
 have HM : Hid (∀ w : World, OwnI (w.alloc (.cells (madeCells #[.int .i64 0] 4) 3)) w.heap.size (.slice (some ⟨w.heap.size, 0, none⟩) 4 4) [0, 0, 0, 0]) := fun w => made_own w 4 (by omega)
 go_enter Tryz.func23, Tryz.ntmps23
 go_wp2
 have hB : w.heap.size ≤ w.heap.size + 1 := by omega
 have hM := HM.out (w.alloc (oQ2 0 (some ⟨w.heap.size + 1, 0, none⟩) 4 4 none 0 0 0))
 rw [World.size_alloc] at hM
 refine bodyPost_ret (v := stV 0 (some ⟨w.heap.size + 1, 0, none⟩) 4 4 none 0 0 0) (by simp [results, Tryz.results23, go_sem]) rfl ⟨_, rfl, ⟨_, _, rfl, hM.mono hB, World.ownsRow_nil _ _ _ _, fun k _ => by simp [Value.ownBlock]⟩, by go_grown⟩
theorem Tl.widen {w : World} {B C C' N : Nat} {p c : Int} {ra : Option Addr} {rn rc : Nat} {oa : Option Addr} {on oc : Nat} {rs os : List Int} (h : Tl w B C N p c ra rn rc oa on oc rs os) (h1 : C ≤ C') (h2 : C' ≤ w.heap.size) : Tl w B C' N p c ra rn rc oa on oc rs os :=
 ⟨h.lo, Nat.lt_of_lt_of_le h.hi h1, h2, h.box, h.own, fun k hk => Nat.lt_of_lt_of_le (h.up k hk) h1, h.ne⟩
structure Dr (w wr : World) (C W0 c len cap : Nat) (a0 : Option Addr) (Bs : Nat) (out : Value) (k : Nat) (p code : Int) (ra : Option Addr) (rc : Nat) (oa : Option Addr) (oc : Nat) (rs os : List Int) : Prop where
 ls : LstE wr w.heap.size out k
 cu : Cur wr W0 c a0 len cap
 gr : w.grownBy wr (some c)
 tl : Tl wr w.heap.size C Bs p code ra rs.length rc oa os.length oc rs os
 fz : ∀ j, wr.frozen? ⟨Bs, j, none⟩ = false
 oC : ∀ j, out.ownBlock = some j → j < C
 nB : out.ownBlock ≠ some Bs
 ap : ∀ j, hasBlock (stV p ra rs.length rc oa os.length oc code) j → out.ownBlock ≠ some j
 lr : rs.length ≤ 1048576
 lo : os.length ≤ 1048576
def EvB (w : World) (N : Nat) (k q v : Int) : Prop := EvC3 w N k q v ∧ ∀ j, w.frozen? ⟨N, j, none⟩ = false
def numL (h : Nat → I2) : Nat → List Int
 | 0 => []
 | n + 1 => if (h n).m = true then numL h n else numL h n ++ [(h n).v]
theorem numL_le (h : Nat → I2) : ∀ n, (numL h n).length ≤ n
 | 0 => Nat.le_refl _
 | n + 1 => by
  unfold numL
  have := numL_le h n
  split
  ·omega
  ·simp; omega
theorem numL_hit {h : Nat → I2} {n : Nat} (hh : (h n).m = false) : numL h (n + 1) = numL h n ++ [(h n).v] := by
 rw [numL, if_neg (by rw [hh]; decide)]
theorem numL_not {h : Nat → I2} {n : Nat} (hh : (h n).m = true) : numL h (n + 1) = numL h n := by
 rw [numL, if_pos hh]
theorem ownsRow_slice {w : World} {B : Nat} {e : TypeId} {sz : Nat} {v : Value} {n : Nat} {xs : List Value} (h : w.ownsRow B e sz v n xs) : ∃ a c, v = .slice a n c := by
 rcases h.2 with ⟨rfl, rfl⟩ | ⟨g, cap, cur, rfl, _⟩
 ·exact ⟨none, 0, rfl⟩
 ·exact ⟨_, _, rfl⟩
theorem l4Ins_any (a0 : Option Addr) (n cap : Nat) (A : Nat → Option Addr) (L C : Nat → Nat) (H : Nat → Nat → I5) (w : World) (hn : n ≤ 1048576) (hL : ∀ i, i < n → L i ≤ 1048576) (hr : RowS w a0 n fun i => .slice (A i) (L i) (C i)) (hI : ∀ i, i < n → Src w (A i) (fI (H i) (L i))) :
  Calls Tryz.prog 22 #[.slice a0 n cap] w fun e w' => ∃ v u, e = .returned v ∧ LI w' (fun k => w.heap.size ≤ k ∧ k < w'.heap.size) v n u L H ∧ Below w.heap.size w w' := by
 have hn' : (n : Int) ≤ 1048576 := by omega
 have HR : Hid (RowS w a0 n fun i => .slice (A i) (L i) (C i)) := hr
 have HI : Hid (∀ i, i < n → Src w (A i) (fI (H i) (L i))) := hI
 have HL : Hid (∀ i, i < n → L i ≤ 1048576) := hL
 clear hr hI hL
 go_enter Tryz.func22, Tryz.ntmps22
 go_wp2_with fail
 go_loopw [3, 4] (fun v i wr => ∃ k : Nat, k ≤ n ∧ i = .int .i64 k ∧ Hid ((∃ u, LI wr (fun b => w.heap.size ≤ b ∧ b < wr.heap.size) v k u L H) ∧ Below w.heap.size w wr)) (fun _ i _ => n - (intOf i).toNat)
 case atStart => exact ⟨0, Nat.zero_le _, rfl, ⟨fun _ => .slice none 0 0, LL.new _ _ _ w _ (by simp) _ _ _⟩, below_allocL _ _⟩
 case round =>
  obtain ⟨k, hk, rfl, HZ⟩ := hrel
  by_cases hlt : k < n
  ·have hlt' : (k : Int) < (n : Int) := by omega
   obtain ⟨b, off, rfl, ck⟩ := (HR.out.below HZ.out.2).at hlt
   have hbl : b < wr.heap.size := World.block_lt_of_cell? wr _ ck
   have HS : Hid (Src wr (A k) (fI (H k) (L k))) := (HI.out k hlt).below HZ.out.2
   have HLk : Hid (L k ≤ 1048576) := HL.out k hlt
   have hk2 : Hid (k ≤ 2000000) := by show k ≤ 2000000; omega
   obtain ⟨⟨u, oz⟩, bz⟩ := HZ.out
   have OZ : Hid (LI wr (fun b => w.heap.size ≤ b ∧ b < wr.heap.size) u3 k u L H) := oz
   have BZ : Hid (Below w.heap.size w wr) := bz
   clear oz bz HZ
   go_wp2_with (first
    | (at_builtin; refine step_append_srcN kndI wr rfl rfl _ _ rfl (A k) (L k) (C k) (fI (H k) (L k)) rfl rfl (fI_len _ _) HS.out (fI_one _ _) (Nat.le_trans HLk.out (by omega)) ?_; intro v4 w4 o4 b4 n4; obtain ⟨a4, c4, rfl⟩ := ownsRow_slice o4; have F4 : Hid (w4.ownsRow wr.heap.size 60 5 (.slice a4 (L k) c4) (L k) (fI (H k) (L k)) ∧ Below wr.heap.size wr w4 ∧ Value.slice a4 (L k) c4 ≠ .slice none 0 0) := ⟨o4, b4, n4⟩; clear o4 b4 n4)
    | (at_builtin; refine step_append_val kndII w4 rfl rfl _ _ rfl 0 u3 k _ rfl (OZ.out.below F4.out.2.1).row #[.slice a4 (L k) c4] rfl rfl (by intro u hu; simp at hu; subst hu; rfl) hk2.out (Nat.zero_le _) ?_; intro v5 w5 o5 g5 q5 n5; have F5 : Hid (LI w5 (fun b => w.heap.size ≤ b ∧ b < w5.heap.size) v5 (k + 1) (fun j => if j = k then .slice a4 (L k) c4 else u j) L H ∧ Below w.heap.size w w5) := ⟨OZ.out.push F4.out.2.1 F4.out.1 F4.out.2.2 o5 g5 q5 (fun j hj _ => ⟨hj.1, Nat.lt_of_lt_of_le hj.2 (Nat.le_trans F4.out.2.1.size g5.size)⟩) (fun j hj hj' => ⟨Nat.le_trans BZ.out.size hj, hj'⟩), Below.grown (BZ.out.trans (F4.out.2.1.mono BZ.out.size)) g5 (Nat.le_trans BZ.out.size F4.out.2.1.size) (fun j hj => (OZ.out.rb j hj).1)⟩; clear o5 g5 q5 n5))
   go_roundw
   case rel => exact ⟨k + 1, by omega, by go_num, ⟨_, F5.out.1⟩, F5.out.2⟩
   case measure => simp [intOf]; omega
  ·have hkn : k = n := by omega
   subst hkn
   go_wp2
   go_ret
   obtain ⟨⟨u, oz⟩, bz⟩ := HZ.out
   exact ⟨_, u, rfl, oz, bz⟩
open Go
section
variable {P : Program} {ops : Array Oper} {Q : Exit → Act → World → Prop} {md : Region.Mode} {S : World → Prop} {G : Nat → Bool}
def wpG (P : Program) (md : Region.Mode) (ops : Array Oper) (Q : Exit → Act → World → Prop) (S : World → Prop) (G : Nat → Bool) : Nat → Array Bool → Act → World → Prop
 | 0, listed, a, w => Region.ready md ops listed = [] ∧ Q .normal a w
 | fuel + 1, listed, a, w => (Region.ready md ops listed = [] → Q .normal a w) ∧ ∀ i ∈ Region.ready md ops listed, wpOp P ops Q i (fun a' w' => (S w → G i = false → S w') ∧ wpG P md ops Q S G fuel (listed.setIfInBounds i true) a' w') a w
theorem wpAny_of_G : ∀ (fuel : Nat) (listed : Array Bool) (a : Act) (w : World), wpG P md ops Q S G fuel listed a w → wpAny P md ops Q fuel listed a w
 | 0, _, _, _, h => h
 | fuel + 1, _, _, _, h => ⟨h.1, fun i hi => wpOp_mono (fun a' w' h' => wpAny_of_G fuel _ a' w' h'.2) (h.2 i hi)⟩
def waitG (md : Region.Mode) (ops : Array Oper) (G : Nat → Bool) (listed : Array Bool) (i : Nat) : Bool :=
 (List.range ops.size).all fun j => !G j || listed.getD j true || match ops[j]? with
  | some oj => oj.after.any fun e => Region.binds md e && e.on == i
  | none => true
theorem waitG_spec {listed : Array Bool} {i : Nat} (h : waitG md ops G listed i = true) {j : Nat} {oj : Oper} (hj : ops[j]? = some oj) (hg : G j = true) (hu : listed.getD j true = false) : ∃ e ∈ oj.after, Region.binds md e = true ∧ e.on = i := by
 simp only [waitG, List.all_eq_true, List.mem_range] at h
 have h1 := h j (Array.getElem?_eq_some_iff.1 hj).1
 simp only [hj, hg, hu, Bool.not_true, Bool.false_or] at h1
 obtain ⟨e, he, hb⟩ := Array.any_eq_true'.1 h1
 simp only [Bool.and_eq_true, beq_iff_eq] at hb
 exact ⟨e, he, hb.1, hb.2⟩
theorem wpG_first {i : Nat} {oi : Oper} {v : Value} (hi : ops[i]? = some oi) (hsel : ∀ (j : Nat) (o : Oper) cs b, ops[j]? = some o → o.op ≠ .select cs b)
  (hQ : ∀ c a w, Q (.panic c) (a.put oi.dst v) w → Q (.panic c) a w) :
  ∀ (fuel : Nat) (listed : Array Bool) (a : Act) (w : World),
   (∀ j oj, ops[j]? = some oj → j ≠ i → listed.getD j true = false → (∀ e ∈ oj.after, Region.binds md e = true → e.on ≠ i) → oi.apart ops oj = true) →
   (∀ j oj, ops[j]? = some oj → G j = true → listed.getD j true = false → ∃ e ∈ oj.after, Region.binds md e = true ∧ e.on = i) →
   i ∈ Region.ready md ops listed → YieldsIf P ops S oi v a → S w →
   wpG P md ops Q S G fuel (listed.setIfInBounds i true) (a.put oi.dst v) w → wpG P md ops Q S G (fuel + 1) listed a w := by
 intro fuel
 induction fuel with
 | zero =>
  intro listed a w _ _ hr hy hS H
  refine ⟨fun h => (by rw [h] at hr; cases hr), fun j hj => ?_⟩
  by_cases hji : j = i
  ·subst hji
   exact hy.wpOp hi hS ⟨fun _ _ => hS, H⟩
  ·have := ready_mono hj hji
   rw [H.1] at this
   cases this
 | succ fuel ih =>
  intro listed a w hfree hG hr hy hS H
  refine ⟨fun h => (by rw [h] at hr; cases hr), fun j hj => ?_⟩
  by_cases hji : j = i
  ·subst hji
   exact hy.wpOp hi hS ⟨fun _ _ => hS, H⟩
  ·obtain ⟨hjun, oj, hoj, hall⟩ := mem_ready.1 hj
   have hiun := (mem_ready.1 hr).1
   have hnot : ∀ e ∈ oj.after, Region.binds md e = true → e.on ≠ i := fun e he hb heq => by
    have h1 := hall e he hb
    rw [heq] at h1
    rcases Nat.lt_or_ge i listed.size with h' | h'
    ·simp [h'] at hiun h1
     rw [hiun] at h1
     cases h1
    ·simp [Array.getElem?_eq_none h'] at h1
   have hGj : G j = false := by
    cases hg : G j with
    | false => rfl
    | true =>
     obtain ⟨e, he, hb, heq⟩ := hG j oj hoj hg hjun
     exact absurd heq (hnot e he hb)
   have h2 := wpOp_putIf hoj (hfree j oj hoj hji hjun hnot) (fun cs b => hsel i oi cs b hi) (fun cs b => hsel j oj cs b hoj) hQ hy (H.2 j (ready_mono hj hji))
   have hun' : ∀ k, (listed.setIfInBounds j true).getD k true = false → listed.getD k true = false := fun k hk => by
    by_cases hjk : j = k
    ·subst hjk
     exact hjun
    ·rw [_root_.Go.getD_set_ne true hjk] at hk
     exact hk
   refine wpOp_mono (fun a' w' h3 => ⟨h3.2.1, ih (listed.setIfInBounds j true) a' w' (fun k ok hk hki hun hno => hfree k ok hk hki (hun' k hun) hno) (fun k ok hk hg hun => hG k ok hk hg (hun' k hun)) (ready_mono hr (Ne.symm hji)) h3.1 (h3.2.1 hS hGj) ?_⟩) h2
   rw [Array.setIfInBounds_comm _ _ hji]
   exact h3.2.2
theorem wpG_firstW {i : Nat} {oi : Oper} {v : Value} (hi : ops[i]? = some oi) (hsel : ∀ (j : Nat) (o : Oper) cs b, ops[j]? = some o → o.op ≠ .select cs b)
  (hQ : ∀ c a w, Q (.panic c) (a.put oi.dst v) w → Q (.panic c) a w) :
  ∀ (fuel : Nat) (listed : Array Bool) (a : Act) (w : World),
   (∀ j oj, ops[j]? = some oj → j ≠ i → listed.getD j true = false → (∀ e ∈ oj.after, Region.binds md e = true → e.on ≠ i) → oi.apart ops oj = true) →
   i ∈ Region.ready md ops listed → YieldsIf P ops (fun _ => True) oi v a →
   wpG P md ops Q S G fuel (listed.setIfInBounds i true) (a.put oi.dst v) w → wpG P md ops Q S G (fuel + 1) listed a w := by
 intro fuel
 induction fuel with
 | zero =>
  intro listed a w _ hr hy H
  refine ⟨fun h => (by rw [h] at hr; cases hr), fun j hj => ?_⟩
  by_cases hji : j = i
  ·subst hji
   exact hy.wpOp hi trivial ⟨fun h _ => h, H⟩
  ·have := ready_mono hj hji
   rw [H.1] at this
   cases this
 | succ fuel ih =>
  intro listed a w hfree hr hy H
  refine ⟨fun h => (by rw [h] at hr; cases hr), fun j hj => ?_⟩
  by_cases hji : j = i
  ·subst hji
   exact hy.wpOp hi trivial ⟨fun h _ => h, H⟩
  ·obtain ⟨hjun, oj, hoj, hall⟩ := mem_ready.1 hj
   have hiun := (mem_ready.1 hr).1
   have hnot : ∀ e ∈ oj.after, Region.binds md e = true → e.on ≠ i := fun e he hb heq => by
    have h1 := hall e he hb
    rw [heq] at h1
    rcases Nat.lt_or_ge i listed.size with h' | h'
    ·simp [h'] at hiun h1
     rw [hiun] at h1
     cases h1
    ·simp [Array.getElem?_eq_none h'] at h1
   have h2 := wpOp_putIf hoj (hfree j oj hoj hji hjun hnot) (fun cs b => hsel i oi cs b hi) (fun cs b => hsel j oj cs b hoj) hQ hy (H.2 j (ready_mono hj hji))
   have hun' : ∀ k, (listed.setIfInBounds j true).getD k true = false → listed.getD k true = false := fun k hk => by
    by_cases hjk : j = k
    ·subst hjk
     exact hjun
    ·rw [_root_.Go.getD_set_ne true hjk] at hk
     exact hk
   refine wpOp_mono (fun a' w' h3 => ⟨h3.2.1, ih (listed.setIfInBounds j true) a' w' (fun k ok hk hki hun hno => hfree k ok hk hki (hun' k hun) hno) (ready_mono hr (Ne.symm hji)) h3.1 ?_⟩) h2
   rw [Array.setIfInBounds_comm _ _ hji]
   exact h3.2.2
theorem wpG_takeW (i : Nat) {oi : Oper} {fuel : Nat} {listed : Array Bool} {a : Act} {w : World} (hi0 : ops.toList[i]? = some oi) (hs : Region.noSelect ops = true) (hf : Region.free md ops listed i = true) (hr : (Region.ready md ops listed).contains i = true)
  (hQ : ∀ v c a w, Q (.panic c) (a.put oi.dst v) w → Q (.panic c) a w) (hw : Region.wanted oi (yielded ops a.tmps) = true)
  (h : ∃ v, (∀ w, (execOp a.eval oi).run P w = .ok (.value v) w) ∧ wpG P md ops Q S G fuel (listed.setIfInBounds i true) (a.put oi.dst v) w) : wpG P md ops Q S G (fuel + 1) listed a w := by
 obtain ⟨v, hv, h⟩ := h
 have hi : ops[i]? = some oi := by rw [← Array.getElem?_toList]; exact hi0
 exact wpG_firstW hi (Region.noSelect_spec hs) (hQ v) fuel listed a w (Region.free_spec hi hf) (by simpa using hr) (.inl ⟨hw, fun w _ => hv w⟩) h
theorem wpG_take (i : Nat) {oi : Oper} {fuel : Nat} {listed : Array Bool} {a : Act} {w : World} (hi0 : ops.toList[i]? = some oi) (hS : S w)
  (h : ∃ v, (∀ w, S w → (execOp a.eval oi).run P w = .ok (.value v) w) ∧ wpG P md ops Q S G fuel (listed.setIfInBounds i true) (a.put oi.dst v) w) (hs : Region.noSelect ops = true := by kernel_rfl) (hf : Region.free md ops listed i = true := by kernel_rfl) (hr : (Region.ready md ops listed).contains i = true := by kernel_rfl) (hg : waitG md ops G listed i = true := by kernel_rfl)
  (hQ : ∀ v c a w, Q (.panic c) (a.put oi.dst v) w → Q (.panic c) a w := by exact fun _ _ _ _ h => h) (hw : Region.wanted oi (yielded ops a.tmps) = true := by rfl) : wpG P md ops Q S G (fuel + 1) listed a w := by
 obtain ⟨v, hv, h⟩ := h
 have hi : ops[i]? = some oi := by rw [← Array.getElem?_toList]; exact hi0
 exact wpG_first hi (Region.noSelect_spec hs) (hQ v) fuel listed a w (Region.free_spec hi hf) (fun j oj hj hgj hu => waitG_spec hg hj hgj hu) (by simpa using hr) (.inl ⟨hw, hv⟩) hS h
def wpGT (P : Program) (md : Region.Mode) (ops : Array Oper) (Q : Exit → Act → World → Prop) (S : World → Prop) (G : Nat → Bool) (_ : List Nat) (fuel : Nat) (listed : Array Bool) (a : Act) (w : World) : Prop := wpG P md ops Q S G fuel listed a w
theorem wpGT_of (is : List Nat) {fuel : Nat} {listed : Array Bool} {a : Act} {w : World} (h : wpGT P md ops Q S G is fuel listed a w) : wpG P md ops Q S G fuel listed a w := h
theorem wpGT_nil {fuel : Nat} {listed : Array Bool} {a : Act} {w : World} (h : wpG P md ops Q S G fuel listed a w) : wpGT P md ops Q S G [] fuel listed a w := h
theorem wpGT_take {i : Nat} {is : List Nat} {oi : Oper} {fuel : Nat} {listed : Array Bool} {a : Act} {w : World} (hi0 : ops.toList[i]? = some oi) (hS : S w)
  (h : ∃ v, (∀ w, S w → (execOp a.eval oi).run P w = .ok (.value v) w) ∧ wpGT P md ops Q S G is fuel (listed.setIfInBounds i true) (a.put oi.dst v) w) (hs : Region.noSelect ops = true := by kernel_rfl) (hf : Region.free md ops listed i = true := by kernel_rfl) (hr : (Region.ready md ops listed).contains i = true := by kernel_rfl) (hg : waitG md ops G listed i = true := by kernel_rfl)
  (hQ : ∀ v c a w, Q (.panic c) (a.put oi.dst v) w → Q (.panic c) a w := by exact fun _ _ _ _ h => h) (hw : Region.wanted oi (yielded ops a.tmps) = true := by rfl) : wpGT P md ops Q S G (i :: is) (fuel + 1) listed a w := wpG_take i hi0 hS h hs hf hr hg hQ hw
theorem wpG_one (i : Nat) {oi : Oper} {fuel : Nat} {listed : Array Bool} {a : Act} {w : World} (hi0 : ops.toList[i]? = some oi) (hr : Region.ready md ops listed = [i])
  (h : ∀ K' : Act → World → Prop, Shut (∀ a w, (G i = false → S w) → wpG P md ops Q S G fuel (listed.setIfInBounds i true) a w → K' a w) → if Region.wanted oi (yielded ops a.tmps) = true then Oper.wp P oi a w K' Q else K' (a.put oi.dst undef) w) : wpG P md ops Q S G (fuel + 1) listed a w :=
 ⟨fun h0 => (by rw [hr] at h0; cases h0), fun j hj => by
  rw [hr] at hj
  obtain rfl := List.mem_singleton.1 hj
  have hi : ops[j]? = some oi := by rw [← Array.getElem?_toList]; exact hi0
  exact wpOp_step hi fun K' hK => h K' fun a w h1 h2 => hK a w ⟨fun _ => h1, h2⟩⟩
theorem wpG_done {listed : Array Bool} {a : Act} {w : World} (hr : Region.ready md ops listed = []) (h : Q .normal a w) : ∀ fuel, wpG P md ops Q S G fuel listed a w
 | 0 => ⟨hr, h⟩
 | _ + 1 => ⟨fun _ => h, by rw [hr]; simp⟩
theorem wp_region_G {id : Nat} {a : Act} {w : World} (S : World → Prop) (G : Nat → Bool) (hm : P.follows .mixedOrders = true) (h : wpG P .any ops Q S G ops.size (Array.replicate ops.size false) a w.drew) : (Code.region id ops true).wp P Q a w :=
 wp_region_any hm (wpAny_of_G _ _ _ _ h)
end
theorem stepR_append_src {ops : Array Oper} {o : Oper} {a : Act} {K : Act → World → Prop} {Q : Exit → Act → World → Prop} {E : Prop} {t e : TypeId} {size bytes : Nat} (KK : Kind t e size bytes) (w : World) (hg : o.guard = none) (s x : Operand)
  (ho : o.op = .call { callee := .builtin .append, args := #[s, x], argTypes := #[t, t] })
  (B : Nat) (v : Value) (n : Nat) (xs : List Value) (hs : a.eval s = v) (hown : w.ownsRow B e size v n xs) (a0 : Option Addr) (m c : Nat) (news : List Value) (hx : a.eval x = .slice a0 m c) (hl : news.length = m * size) (hsrc : Src w a0 news) (h1 : ∀ u ∈ news, u.oneCell' = true) (hnm : n + m ≤ 4000000) (hB : B ≤ w.heap.size)
  (h : ∀ v' w', w'.ownsRow B e size v' (n + m) (xs ++ news) → w.grownBy w' v.ownBlock → (v'.ownBlock = v.ownBlock ∨ v'.ownBlock = some w.heap.size) → (v ≠ .slice none 0 0 ∨ 0 < m → v' ≠ .slice none 0 0) → K (a.put o.dst v') w') :
  if Region.wanted o (yielded ops a.tmps) = true then Oper.wp Tryz.prog o a w K Q else E := by
 obtain ⟨v', w', r1, r2, r3, r4, r5⟩ := run_append_src KK w o.type B v n xs hown a0 m c news hl hsrc h1 hnm hB
 have hw : Region.wanted o (yielded ops a.tmps) = true := by simp [Region.wanted, hg]
 rw [if_pos hw]
 unfold Oper.wp execOp
 simp only [ho, resolve, invoke, builtin, Sem.run_bind, Sem.run_pure, Result.andThen_ok, List.map_toArray, List.map_cons, List.map_nil, hs, hx, r1]
 exact h v' w' r2 r3 r4 r5
theorem stepR_append_val {ops : Array Oper} {o : Oper} {a : Act} {K : Act → World → Prop} {Q : Exit → Act → World → Prop} {E : Prop} {t e : TypeId} {size bytes : Nat} (KK : Kind t e size bytes) (w : World) {N : Nat} (hN : N = w.heap.size) (hg : o.guard = none) (s x : Operand)
  (ho : o.op = .call { callee := .builtin .append, args := #[s, x], argTypes := #[t, t] })
  (B : Nat) (v : Value) (n : Nat) (xs : List Value) (hs : a.eval s = v) (hown : w.ownsRow B e size v n xs) (cs : Array Value) (hx : a.eval x = .slice (some ⟨N, 0, none⟩) 1 1) (hl : cs.size = size) (h1 : ∀ u ∈ cs.toList, u.oneCell' = true) (hn : n ≤ 2000000) (hB : B ≤ w.heap.size)
  (h : ∀ v' w', w'.ownsRow B e size v' (n + 1) (xs ++ cs.toList) → w.grownBy w' v.ownBlock → (∀ j, v'.ownBlock = some j → v.ownBlock = some j ∨ w.heap.size ≤ j) → v' ≠ .slice none 0 0 → K (a.put o.dst v') w') :
  if Region.wanted o (yielded ops a.tmps) = true then Oper.wp Tryz.prog o a (w.alloc (.cells cs e)) K Q else E := by
 subst hN
 have hb : Below w.heap.size w (w.alloc (.cells cs e)) := below_allocL _ _
 refine stepR_append_src KK _ hg s x ho B v n xs hs (hown.alloc _) (some ⟨w.heap.size, 0, none⟩) 1 1 cs.toList hx (by simp [hl]) (.inr ⟨w.heap.size, 0, rfl, by simp, fun j u hj => ?_⟩) h1 (by omega) (by simp; omega) ?_
 ·rw [Nat.zero_add, new_cell _ _ _ j rfl]
  simpa using hj
 ·intro v' w' o g hbk hne
  refine h v' w' o ⟨g.os, g.tape, g.output, Nat.le_trans hb.size g.size, fun j hj hne => (g.block j (Nat.lt_of_lt_of_le hj hb.size) hne).trans (hb.block j hj)⟩ (fun j hj => ?_) (hne (.inr (by omega)))
  rcases hbk with a | a
  ·exact .inl (a.symm.trans hj)
  ·rw [hj] at a
   simp only [Option.some.injEq] at a
   right
   rw [a]
   simp
theorem stepR_call {ops : Array Oper} {o : Oper} {a : Act} {w : World} {K : Act → World → Prop} {Q : Exit → Act → World → Prop} {E : Prop} (hg : o.guard = none) (f : FuncId) (args : Array Operand) (ts : Array TypeId)
  (ho : o.op = .call { callee := .value (.func f), args := args, argTypes := ts }) (vals : Array Value) (hv : args.map a.eval = vals) (hen : ∀ vs wx, (callFunc f vs).run Tryz.prog wx = .ok (.enter f vs) wx) {post : Ending → World → Prop} (hc : Calls Tryz.prog f vals w post)
  (h : ∀ e w', post e w' → ∃ v, e = .returned v ∧ K (a.put o.dst v) w') :
  if Region.wanted o (yielded ops a.tmps) = true then Oper.wp Tryz.prog o a w K Q else E := by
 have hw : Region.wanted o (yielded ops a.tmps) = true := by simp [Region.wanted, hg]
 rw [if_pos hw]
 have hr : (execOp a.eval o).run Tryz.prog w = .ok (.enter f vals) w := by
  unfold execOp
  simp [ho, resolve, invoke, hv, hen, Act.eval, Deferred.ofValue]
 unfold Oper.wp
 rw [hr, Oper.upon_enter]
 refine hc.mono fun e w' hp => ?_
 obtain ⟨v, rfl, hk⟩ := h e w' hp
 exact hk
end Go.Proofs.YtdigofhceahpdaaGreatDoor
