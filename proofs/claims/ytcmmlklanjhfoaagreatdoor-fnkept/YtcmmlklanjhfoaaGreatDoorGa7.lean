/- The walks of the laws' marks over lists of ints and states, and of the helpers over events. -/
import Derived.Test.YtcmmlklanjhfoaaGreatDoorGa6
import Derived.Laws.IdiomCopy
namespace Go.Proofs.YtcmmlklanjhfoaaGreatDoor
open Go.RowKit

abbrev regV (a b c d : Int) : Value := .agg #[.int .i64 a, .int .i64 b, .int .i64 c, .int .i64 d]

/-- The operation copy, where its run is known. -/
theorem wpList_copy_known (w : World) {ops : Array Oper} {rest : List Oper} {o : Oper} {a : Act} {Q : Exit → Act → World → Prop} (hgd : o.guard = none) (d s : Operand) (t t' : TypeId)
    (ho : o.op = .call { callee := .builtin .copy, args := #[d, s], argTypes := #[t, t'] }) (v u : Value) (hd : a.eval d = v) (hs : a.eval s = u) {v' : Value} {w' : World}
    (hr : ∀ ty, (Builtin.copy_ #[t, t'] ty #[v, u]).run Tryz.prog w = .ok v' w') (h : wpList Tryz.prog ops Q rest (a.put o.dst v') w') : wpList Tryz.prog ops Q (o :: rest) a w := by
  refine wpList_plain hgd fun K hK => ?_
  unfold Oper.wp execOp
  simp only [ho, resolve, invoke, builtin, Sem.run_bind, Sem.run_pure, Result.andThen_ok, List.map_toArray, List.map_cons, List.map_nil, hd, hs, hr]
  exact hK _ _ h

theorem sizeInt : (Tryz.prog.info? 3).map (·.size) = some 1 := by kernel_rfl

def cmax (x : Int) : Int := if x < -1000000000 then -1000000000 else x
def cmin (x : Int) : Int := if 1000000000 < x then 1000000000 else x
def clamp (x : Int) : Int := cmin (cmax x)
theorem run_cmax (ts : Array TypeId) (t : TypeId) (x : Int) (w : World) : (Builtin.max_ ts t #[.int .i64 x, .int .i64 (-1000000000)]).run Tryz.prog w = .ok (.int .i64 (cmax x)) w := by
  rw [run_max_int2]; rfl
theorem run_cmin (ts : Array TypeId) (t : TypeId) (x : Int) (w : World) : (Builtin.min_ ts t #[.int .i64 x, .int .i64 1000000000]).run Tryz.prog w = .ok (.int .i64 (cmin x)) w := by
  rw [run_min_int2]; rfl
theorem run_index0 (a b c d : Int) (w : World) : (Instr.index 99 (regV a b c d) (.int .i64 0)).run Tryz.prog w = .ok (.int .i64 a) w := by kernel_rfl
theorem run_index1 (a b c d : Int) (w : World) : (Instr.index 99 (regV a b c d) (.int .i64 1)).run Tryz.prog w = .ok (.int .i64 b) w := by kernel_rfl
theorem run_index2 (a b c d : Int) (w : World) : (Instr.index 99 (regV a b c d) (.int .i64 2)).run Tryz.prog w = .ok (.int .i64 c) w := by kernel_rfl
theorem run_index3 (a b c d : Int) (w : World) : (Instr.index 99 (regV a b c d) (.int .i64 3)).run Tryz.prog w = .ok (.int .i64 d) w := by kernel_rfl

section
attribute [local go_sem] run_index0 run_index1 run_index2 run_index3

set_option maxRecDepth 100000 in
set_option maxHeartbeats 1000000 in
theorem held_any (a b c d : Int) (w : World) :
    Calls Tryz.prog 97 #[regV a b c d] w fun e w' => e = .returned (regV (clamp a) (clamp b) (clamp c) (clamp d)) ∧ Below w.heap.size w w' := by
  have hmx := run_cmax
  have hmn := run_cmin
  go_enter Tryz.func97, Tryz.ntmps97
  go_wp2_with fail
  go_rounds 5
  refine bodyPost_ret (v := regV (clamp a) (clamp b) (clamp c) (clamp d)) (by simp [results, Tryz.results97, go_sem, clamp]) rfl ⟨rfl, ?_⟩
  go_grown

end

set_option maxHeartbeats 400000 in
theorem isCode_any (x : Int) (w : World) :
    Calls Tryz.prog 112 #[.int .i64 x] w fun e w' => e = .returned (.bool (inB x 0 2)) ∧ w' = w := by
  by_cases h0 : x = 0
  · subst h0
    go_enter Tryz.func112, Tryz.ntmps112
    go_wp2
    go_ret
    exact ⟨rfl, rfl⟩
  · have h0' : (x == 0) = false := by simp [h0]
    by_cases h1 : x = 1
    · subst h1
      go_enter Tryz.func112, Tryz.ntmps112
      go_wp2
      go_ret
      exact ⟨rfl, rfl⟩
    · have h1' : (x == 1) = false := by simp [h1]
      have hv : inB x 0 2 = (x == 2) := by
        rw [Bool.eq_iff_iff]; simp [inB]; omega
      have HV : Hid (inB x 0 2 = (x == 2)) := hv
      clear h0 h1 hv
      go_enter Tryz.func112, Tryz.ntmps112
      go_wp2
      go_ret
      exact ⟨by rw [HV.out]; rfl, rfl⟩

theorem setRow_alloc (w : World) (z cs : Array Value) (t : TypeId) : (w.alloc (.cells z t)).setRow w.heap.size cs = w.alloc (.cells cs t) := by
  have h : ((w.alloc (.cells z t)).setRow w.heap.size cs).heap = (w.alloc (.cells cs t)).heap := by
    apply Array.ext_getElem?
    intro k
    by_cases hk : k = w.heap.size
    · subst hk
      rw [setRow_heap _ _ z cs t (0, 0) (heap_alloc_new w _)]
      exact (heap_alloc_new w _).symm
    · rw [setRow_other _ _ _ _ hk]
      show (w.heap.push _)[k]? = (w.heap.push _)[k]?
      rw [Array.getElem?_push, Array.getElem?_push, if_neg hk, if_neg hk]
  show World.mk _ _ _ _ _ = World.mk _ _ _ _ _
  congr 1

/-- What copy does into a new array of four. -/
theorem run_copy4 (w : World) (a : Addr) (sLen cap : Nat) (cs : List Value) (z : Array Value) (hz : z.size = 4) (hn : cs.length = Nat.min sLen 4) (hsrc : ∀ j v, cs[j]? = some v → (w.alloc (.cells z 99)).cell? (a.add j) = some v) (h1 : ∀ v ∈ cs, v.oneCell' = true) :
    (Builtin.copy_ #[30, 30] 3 #[.slice (some ⟨w.heap.size, 0, none⟩) 4 4, .slice (some a) sLen cap]).run Tryz.prog (w.alloc (.cells z 99)) = .ok (goInt cs.length) (w.alloc (.cells (cs ++ z.toList.drop cs.length).toArray 99)) := by
  have h := run_copy_row (P := Tryz.prog) (w.alloc (.cells z 99)) 30 30 3 3 w.heap.size 0 4 4 a sLen cap z 99 cs Tryz.underlying30 sizeInt (heap_alloc_new w _) hn hsrc (by rw [hz, hn, Nat.zero_add]; exact Nat.min_le_right _ _) h1
  rw [h, setRow_alloc]
  simp only [List.take_zero, List.nil_append, Nat.zero_add]

theorem addr_add (b off j : Nat) : Addr.add ⟨b, off, none⟩ j = ⟨b, off + j, none⟩ := by
  unfold Addr.add
  by_cases h : j = 0
  · rw [if_pos h, h, Nat.add_zero]
  · rw [if_neg h]

theorem src_of_sl {w w' : World} {b off : Nat} {xs : List Int} (h : Sl w (some ⟨b, off, none⟩) xs) (hb : Below w.heap.size w w') : ∀ j v, (xs.map (Value.int .i64))[j]? = some v → w'.cell? (Addr.add ⟨b, off, none⟩ j) = some v := by
  intro j v hj
  have hl : j < xs.length := by
    apply Classical.byContradiction
    intro hn
    rw [List.getElem?_eq_none (by simp; omega)] at hj
    cases hj
  rw [getD_map_int xs j hl] at hj
  rw [addr_add, ← hj]
  obtain ⟨b', off', e, hlt, hc⟩ := (h.below hb).at hl
  simp only [Option.some.injEq, Addr.mk.injEq, and_true] at e
  obtain ⟨rfl, rfl⟩ := e
  exact hc
theorem one_ints (xs : List Int) : ∀ v ∈ xs.map (Value.int .i64), v.oneCell' = true := by
  intro v hv
  obtain ⟨x, _, rfl⟩ := List.mem_map.1 hv
  rfl

abbrev zero4 : Obj := .cells #[.int .i64 0, .int .i64 0, .int .i64 0, .int .i64 0] 99

set_option maxRecDepth 100000 in
set_option maxHeartbeats 1000000 in
theorem registersOf_core (a0 : Option Addr) (n cap q : Nat) (r0 r1 r2 r3 : Int) (w : World)
    (hrun : (Builtin.copy_ #[30, 30] 3 #[.slice (some ⟨w.heap.size + 1, 0, none⟩) 4 4, .slice a0 n cap]).run Tryz.prog ((w.alloc zero4).alloc zero4) = .ok (goInt q) ((w.alloc zero4).alloc (.cells #[.int .i64 r0, .int .i64 r1, .int .i64 r2, .int .i64 r3] 99))) :
    Calls Tryz.prog 83 #[.slice a0 n cap] w fun e w' => e = .returned (.tuple #[regV r0 r1 r2 r3, .bool ((n : Int) == 4)]) ∧ Below w.heap.size w w' := by
  go_enter Tryz.func83, Tryz.ntmps83
  go_wp2
  refine bodyPost_ret (v := .tuple #[regV r0 r1 r2 r3, .bool ((n : Int) == 4)]) (by simp [results, Tryz.results83, go_sem]) rfl ⟨rfl, ?_⟩
  go_grown

/-- From a list whose first four are these, however many more. -/
theorem registersOf_some (b off n cap : Nat) (cs : List Int) (r0 r1 r2 r3 : Int) (w : World) (hn : cs.length = Nat.min n 4) (h : Sl w (some ⟨b, off, none⟩) cs)
    (hr : (cs.map (Value.int .i64) ++ [Value.int .i64 0, .int .i64 0, .int .i64 0, .int .i64 0].drop cs.length).toArray = #[.int .i64 r0, .int .i64 r1, .int .i64 r2, .int .i64 r3]) :
    Calls Tryz.prog 83 #[.slice (some ⟨b, off, none⟩) n cap] w fun e w' => e = .returned (.tuple #[regV r0 r1 r2 r3, .bool ((n : Int) == 4)]) ∧ Below w.heap.size w w' := by
  have hb : Below w.heap.size w ((w.alloc zero4).alloc zero4) := by go_grown
  have hrun := run_copy4 (w.alloc zero4) ⟨b, off, none⟩ n cap (cs.map (Value.int .i64)) #[.int .i64 0, .int .i64 0, .int .i64 0, .int .i64 0] rfl (by rw [List.length_map]; exact hn) (src_of_sl h hb) (one_ints cs)
  rw [List.length_map, hr] at hrun
  rw [World.size_alloc] at hrun
  exact registersOf_core _ n cap _ r0 r1 r2 r3 w hrun

theorem registersOf_none (a0 : Option Addr) (cap : Nat) (w : World) :
    Calls Tryz.prog 83 #[.slice a0 0 cap] w fun e w' => e = .returned (.tuple #[regV 0 0 0 0, .bool ((0 : Int) == 4)]) ∧ Below w.heap.size w w' :=
  registersOf_core a0 0 cap 0 0 0 0 0 w (run_copy_none _ _ _ _ 3 _ _ _ _ _ _ Tryz.underlying30 sizeInt rfl)

theorem Sl.sub {w : World} {b off : Nat} {xs ys : List Int} (h : Sl w (some ⟨b, off, none⟩) xs) (hp : ∃ t, xs = ys ++ t) : Sl w (some ⟨b, off, none⟩) ys := by
  obtain ⟨t, rfl⟩ := hp
  by_cases h0 : ys = []
  · exact .inl h0
  · rcases h with h | ⟨b', off', e, hlt, hc⟩
    · simp at h; exact .inl h.1
    · refine .inr ⟨b', off', e, hlt, fun i hi => ?_⟩
      have := hc i (by simp; omega)
      unfold zi at this ⊢
      rwa [List.getD_eq_getElem?_getD, List.getElem?_append_left hi, ← List.getD_eq_getElem?_getD] at this

/-- Four registers, where there are four; false of more and of fewer. -/
theorem registersOf_any (a0 : Option Addr) (cap : Nat) (xs : List Int) (w : World) (h : Sl w a0 xs) :
    Calls Tryz.prog 83 #[.slice a0 xs.length cap] w fun e w' => (∃ r0 r1 r2 r3, e = .returned (.tuple #[regV r0 r1 r2 r3, .bool ((xs.length : Int) == 4)]) ∧ (xs.length = 4 → xs = [r0, r1, r2, r3])) ∧ Below w.heap.size w w' := by
  match xs, h with
  | [], _ => exact (registersOf_none a0 cap w).mono fun e w' ⟨he, hb⟩ => ⟨⟨0, 0, 0, 0, he, fun h => by cases h⟩, hb⟩
  | [a], h =>
    obtain ⟨b, off, rfl, _⟩ := h.at (k := 0) (by simp)
    exact (registersOf_some b off 1 cap [a] a 0 0 0 w rfl h rfl).mono fun e w' ⟨he, hb⟩ => ⟨⟨_, _, _, _, he, fun h => by cases h⟩, hb⟩
  | [a, c], h =>
    obtain ⟨b, off, rfl, _⟩ := h.at (k := 0) (by simp)
    exact (registersOf_some b off 2 cap [a, c] a c 0 0 w rfl h rfl).mono fun e w' ⟨he, hb⟩ => ⟨⟨_, _, _, _, he, fun h => by cases h⟩, hb⟩
  | [a, c, d], h =>
    obtain ⟨b, off, rfl, _⟩ := h.at (k := 0) (by simp)
    exact (registersOf_some b off 3 cap [a, c, d] a c d 0 w rfl h rfl).mono fun e w' ⟨he, hb⟩ => ⟨⟨_, _, _, _, he, fun h => by cases h⟩, hb⟩
  | [a, c, d, f], h =>
    obtain ⟨b, off, rfl, _⟩ := h.at (k := 0) (by simp)
    exact (registersOf_some b off 4 cap [a, c, d, f] a c d f w rfl h rfl).mono fun e w' ⟨he, hb⟩ => ⟨⟨_, _, _, _, he, fun _ => rfl⟩, hb⟩
  | a :: c :: d :: f :: g :: t, h =>
    obtain ⟨b, off, rfl, _⟩ := h.at (k := 0) (by simp)
    exact (registersOf_some b off (a :: c :: d :: f :: g :: t).length cap [a, c, d, f] a c d f w (by simp) (h.sub ⟨g :: t, rfl⟩) rfl).mono fun e w' ⟨he, hb⟩ => ⟨⟨_, _, _, _, he, fun h => by simp at h⟩, hb⟩

end Go.Proofs.YtcmmlklanjhfoaaGreatDoor

namespace Go.Proofs.YtcmmlklanjhfoaaGreatDoor
open Go.RowKit

theorem ret_int {k : IntKind} {a b : Int} (h : a = b) : Ending.returned (.int k a) = .returned (.int k b) := by rw [h]

def marks (k : Int) (n : Nat) : List Int := (List.range n).map (fun i : Nat => k + (i : Int))
theorem marks_length (k : Int) (n : Nat) : (marks k n).length = n := by simp [marks]
theorem marks_at (k : Int) (n j : Nat) (h : j < n) : zi (marks k n) j = k + j := by
  unfold zi marks
  rw [List.getD_eq_getElem?_getD, List.getElem?_map, List.getElem?_range h]; rfl

theorem own_some {w : World} {B n cap : Nat} {a0 : Option Addr} {ys : List Int} (h : OwnI w B (.slice a0 n cap) ys) (hn : 0 < ys.length) : ∃ g, a0 = some ⟨g, 0, none⟩ ∧ n = ys.length ∧ B ≤ g ∧ g < w.heap.size := by
  obtain ⟨g, c, hv, hb, hl⟩ := h.block hn
  simp only [Value.slice.injEq] at hv
  exact ⟨g, hv.1, hv.2.1, hb, hl⟩

/-- A state whose lists are marked from k on. -/
theorem own_apart {w w' : World} {B : Nat} {v u : Value} {xs : List Int} (h : OwnI w B v xs) (hg : w.grownBy w' u.ownBlock) (ha : ∀ k, u.ownBlock = some k → v.ownBlock ≠ some k) : OwnI w' B v xs := by
  refine h.kept hg ?_
  cases hu : u.ownBlock with
  | none => 
    cases hv : v.ownBlock with
    | none => exact .inl rfl
    | some k => exact .inr (by simp)
  | some k => exact .inr (ha k hu)

theorem gcell {W w1 : World} {row : Option Nat} (hg : W.grownBy w1 row) {b : Nat} (hb : b < W.heap.size) (hne : some b ≠ row) : (∀ o, w1.cell? ⟨b, o, none⟩ = W.cell? ⟨b, o, none⟩) ∧ (∀ o, w1.frozen? ⟨b, o, none⟩ = W.frozen? ⟨b, o, none⟩) :=
  ⟨fun _ => World.cell?_of_block (hg.block b hb hne), fun _ => World.frozen?_of_block (hg.block b hb hne)⟩
/-- Block k is that of one of the lists of the state v. -/
def hasBlock (v : Value) (k : Nat) : Prop := ∃ p vr vo code, v = .agg #[p, vr, vo, code] ∧ (vr.ownBlock = some k ∨ vo.ownBlock = some k)
theorem hasBlock_iff (p vr vo code : Value) (k : Nat) : hasBlock (.agg #[p, vr, vo, code]) k ↔ vr.ownBlock = some k ∨ vo.ownBlock = some k := by
  constructor
  · rintro ⟨p', vr', vo', code', e, h⟩
    simp only [Value.agg.injEq, Array.mk.injEq, List.cons.injEq, and_true] at e
    obtain ⟨_, rfl, rfl, _⟩ := e
    exact h
  · exact fun h => ⟨p, vr, vo, code, rfl, h⟩
theorem StOwn.lt {w : World} {B : Nat} {v : Value} {p code : Int} {rs os : List Int} (h : StOwn w B v p rs os code) {k : Nat} (hk : hasBlock v k) : B ≤ k ∧ k < w.heap.size := by
  obtain ⟨vr, vo, rfl, h1, h2, _⟩ := h
  rcases (hasBlock_iff _ _ _ _ _).1 hk with h | h
  · exact h1.lt k h
  · exact h2.lt k h

/-- Nothing has turned but what lies in the lists of the state v. -/
structure Marked (v : Value) (w w' : World) : Prop where
  os : w'.os = w.os
  tape : w'.tape = w.tape
  output : w'.output = w.output
  size : w.heap.size ≤ w'.heap.size
  block : ∀ k, k < w.heap.size → ¬ hasBlock v k → w'.heap[k]? = w.heap[k]?

theorem Marked.below {v : Value} {w w' : World} {B : Nat} (h : Marked v w w') (hB : B ≤ w.heap.size) (hv : ∀ k, hasBlock v k → B ≤ k) : Below B w w' :=
  ⟨h.os, h.tape, h.output, h.size, fun k hk => h.block k (by omega) (fun hh => by have := hv k hh; omega)⟩
theorem Marked.own {v : Value} {w w' : World} {B : Nat} {u : Value} {xs : List Int} (h : Marked v w w') (hu : OwnI w B u xs) (ha : ∀ k, u.ownBlock = some k → ¬ hasBlock v k) : OwnI w' B u xs := by
  rcases hu.2 with ⟨rfl, h0⟩ | ⟨g, cap, cur, rfl, hb, hg, hr⟩
  · exact ⟨hu.1, .inl ⟨rfl, h0⟩⟩
  · refine ⟨hu.1, .inr ⟨g, cap, cur, rfl, hb, ?_, hr⟩⟩
    rw [h.block g (hu.lt g rfl).2 (ha g rfl)]
    exact hg
theorem Marked.st {v : Value} {w w' : World} {B : Nat} {u : Value} {p code : Int} {rs os : List Int} (h : Marked v w w') (hu : StOwn w B u p rs os code) (ha : ∀ k, hasBlock u k → ¬ hasBlock v k) : StOwn w' B u p rs os code := by
  obtain ⟨vr, vo, rfl, h1, h2, h3⟩ := hu
  exact ⟨vr, vo, rfl, h.own h1 fun k hk => ha k ((hasBlock_iff _ _ _ _ _).2 (.inl hk)), h.own h2 fun k hk => ha k ((hasBlock_iff _ _ _ _ _).2 (.inr hk)), h3⟩
theorem Marked.cell {v : Value} {w w' : World} (h : Marked v w w') {b : Nat} (hb : b < w.heap.size) (hv : ¬ hasBlock v b) (j : Nat) : w'.cell? ⟨b, j, none⟩ = w.cell? ⟨b, j, none⟩ := World.cell?_of_block (h.block b hb hv)
theorem Marked.frozen {v : Value} {w w' : World} (h : Marked v w w') {b : Nat} (hb : b < w.heap.size) (hv : ¬ hasBlock v b) (j : Nat) : w'.frozen? ⟨b, j, none⟩ = w.frozen? ⟨b, j, none⟩ := World.frozen?_of_block (h.block b hb hv)

/-- The four cells of a state in a block. -/
def BoxC (w : World) (N : Nat) (p vr vo code : Value) : Prop := w.cell? ⟨N, 0, none⟩ = some p ∧ w.cell? ⟨N, 1, none⟩ = some vr ∧ w.cell? ⟨N, 2, none⟩ = some vo ∧ w.cell? ⟨N, 3, none⟩ = some code
theorem BoxC.below {w w' : World} {N : Nat} {p vr vo code : Value} (h : BoxC w N p vr vo code) (hb : Below w.heap.size w w') : BoxC w' N p vr vo code := by
  obtain ⟨h0, h1, h2, h3⟩ := h
  have hN : N < w.heap.size := World.block_lt_of_cell? w _ h0
  exact ⟨(hb.cell (p := ⟨N, 0, none⟩) hN).trans h0, (hb.cell (p := ⟨N, 1, none⟩) hN).trans h1, (hb.cell (p := ⟨N, 2, none⟩) hN).trans h2, (hb.cell (p := ⟨N, 3, none⟩) hN).trans h3⟩
theorem BoxC.new (w : World) (p vr vo code : Value) (t : TypeId) : BoxC (w.alloc (.cells #[p, vr, vo, code] t)) w.heap.size p vr vo code := by
  unfold BoxC
  simp

theorem BoxC.marked {v : Value} {w w' : World} {N : Nat} {p vr vo code : Value} (h : BoxC w N p vr vo code) (hm : Marked v w w') (hv : ¬ hasBlock v N) : BoxC w' N p vr vo code := by
  obtain ⟨h0, h1, h2, h3⟩ := h
  have hN : N < w.heap.size := World.block_lt_of_cell? w _ h0
  exact ⟨(hm.cell hN hv _).trans h0, (hm.cell hN hv _).trans h1, (hm.cell hN hv _).trans h2, (hm.cell hN hv _).trans h3⟩

end Go.Proofs.YtcmmlklanjhfoaaGreatDoor
