/- The walks of the program's registersOf, held, isCode, outOk, for every argument. -/
import Derived.Test.YtmbmhpginegggaaStB
import Derived.Laws.IdiomCopy
namespace Go.Proofs.Ytmbmhpginegggaa
open Go.RowKit

abbrev regV (a b c d : Int) : Value := .agg #[.int .i64 a, .int .i64 b, .int .i64 c, .int .i64 d]

/-- The operation copy, where its run is known. -/
theorem wpList_copy_known (w : World) {ops : Array Oper} {rest : List Oper} {o : Oper} {a : Act} {Q : Exit → Act → World → Prop} (hgd : o.guard = none) (d s : Operand) (t t' : TypeId)
    (ho : o.op = .call { callee := .builtin .copy, args := #[d, s], argTypes := #[t, t'] }) (v u : Value) (hd : a.eval d = v) (hs : a.eval s = u) {v' : Value} {w' : World}
    (hr : ∀ ty, (Builtin.copy_ #[t, t'] ty #[v, u]).run Try.prog w = .ok v' w') (h : wpList Try.prog ops Q rest (a.put o.dst v') w') : wpList Try.prog ops Q (o :: rest) a w := by
  refine wpList_plain hgd fun K hK => ?_
  unfold Oper.wp execOp
  simp only [ho, resolve, invoke, builtin, Sem.run_bind, Sem.run_pure, Result.andThen_ok, List.map_toArray, List.map_cons, List.map_nil, hd, hs, hr]
  exact hK _ _ h

theorem sizeInt : (Try.prog.info? 3).map (·.size) = some 1 := by kernel_rfl

def cmax (x : Int) : Int := if x < -1000000000 then -1000000000 else x
def cmin (x : Int) : Int := if 1000000000 < x then 1000000000 else x
def clamp (x : Int) : Int := cmin (cmax x)
theorem run_cmax (ts : Array TypeId) (t : TypeId) (x : Int) (w : World) : (Builtin.max_ ts t #[.int .i64 x, .int .i64 (-1000000000)]).run Try.prog w = .ok (.int .i64 (cmax x)) w := by
  rw [run_max_int2]; rfl
theorem run_cmin (ts : Array TypeId) (t : TypeId) (x : Int) (w : World) : (Builtin.min_ ts t #[.int .i64 x, .int .i64 1000000000]).run Try.prog w = .ok (.int .i64 (cmin x)) w := by
  rw [run_min_int2]; rfl
theorem run_index0 (a b c d : Int) (w : World) : (Instr.index 67 (regV a b c d) (.int .i64 0)).run Try.prog w = .ok (.int .i64 a) w := by kernel_rfl
theorem run_index1 (a b c d : Int) (w : World) : (Instr.index 67 (regV a b c d) (.int .i64 1)).run Try.prog w = .ok (.int .i64 b) w := by kernel_rfl
theorem run_index2 (a b c d : Int) (w : World) : (Instr.index 67 (regV a b c d) (.int .i64 2)).run Try.prog w = .ok (.int .i64 c) w := by kernel_rfl
theorem run_index3 (a b c d : Int) (w : World) : (Instr.index 67 (regV a b c d) (.int .i64 3)).run Try.prog w = .ok (.int .i64 d) w := by kernel_rfl

section
attribute [local go_sem] run_index0 run_index1 run_index2 run_index3

set_option maxRecDepth 100000 in
set_option maxHeartbeats 1000000 in
theorem held_any (a b c d : Int) (w : World) :
    Calls Try.prog 47 #[regV a b c d] w fun e w' => e = .returned (regV (clamp a) (clamp b) (clamp c) (clamp d)) ∧ Below w.heap.size w w' := by
  have hmx := run_cmax
  have hmn := run_cmin
  go_enter Try.func47, Try.ntmps47
  go_wp2_with fail
  go_rounds 5
  refine bodyPost_ret (v := regV (clamp a) (clamp b) (clamp c) (clamp d)) (by simp [results, Try.results47, go_sem, clamp]) rfl ⟨rfl, ?_⟩
  go_grown

end

set_option maxHeartbeats 400000 in
theorem isCode_any (x : Int) (w : World) :
    Calls Try.prog 48 #[.int .i64 x] w fun e w' => e = .returned (.bool (inB x 0 2)) ∧ w' = w := by
  by_cases h0 : x = 0
  · subst h0
    go_enter Try.func48, Try.ntmps48
    go_wp2
    go_ret
    exact ⟨rfl, rfl⟩
  · have h0' : (x == 0) = false := by simp [h0]
    by_cases h1 : x = 1
    · subst h1
      go_enter Try.func48, Try.ntmps48
      go_wp2
      go_ret
      exact ⟨rfl, rfl⟩
    · have h1' : (x == 1) = false := by simp [h1]
      have hv : inB x 0 2 = (x == 2) := by
        rw [Bool.eq_iff_iff]; simp [inB]; omega
      have HV : Hid (inB x 0 2 = (x == 2)) := hv
      clear h0 h1 hv
      go_enter Try.func48, Try.ntmps48
      go_wp2
      go_ret
      exact ⟨by rw [HV.out]; rfl, rfl⟩

theorem setRow_alloc (w : World) (z cs : Array Value) (t : TypeId) : (w.alloc (.cells z t)).setRow w.heap.size cs = w.alloc (.cells cs t) := by
  have h : ((w.alloc (.cells z t)).setRow w.heap.size cs).heap = (w.alloc (.cells cs t)).heap := by
    apply Array.ext_getElem?
    intro k
    by_cases hk : k = w.heap.size
    · subst hk
      rw [setRow_heap _ _ z cs t (0, 0) (heap_alloc_new w _)]
      exact (heap_alloc_new w _).symm
    · rw [setRow_other _ _ _ _ hk]
      show (w.heap.push _)[k]? = (w.heap.push _)[k]?
      rw [Array.getElem?_push, Array.getElem?_push, if_neg hk, if_neg hk]
  show World.mk _ _ _ _ _ = World.mk _ _ _ _ _
  congr 1

/-- What copy does into a new array of four. -/
theorem run_copy4 (w : World) (a : Addr) (sLen cap : Nat) (cs : List Value) (z : Array Value) (hz : z.size = 4) (hn : cs.length = Nat.min sLen 4) (hsrc : ∀ j v, cs[j]? = some v → (w.alloc (.cells z 67)).cell? (a.add j) = some v) (h1 : ∀ v ∈ cs, v.oneCell' = true) :
    (Builtin.copy_ #[25, 25] 3 #[.slice (some ⟨w.heap.size, 0, none⟩) 4 4, .slice (some a) sLen cap]).run Try.prog (w.alloc (.cells z 67)) = .ok (goInt cs.length) (w.alloc (.cells (cs ++ z.toList.drop cs.length).toArray 67)) := by
  have h := run_copy_row (P := Try.prog) (w.alloc (.cells z 67)) 25 25 3 3 w.heap.size 0 4 4 a sLen cap z 67 cs Try.underlying25 sizeInt (heap_alloc_new w _) hn hsrc (by rw [hz, hn, Nat.zero_add]; exact Nat.min_le_right _ _) h1
  rw [h, setRow_alloc]
  simp only [List.take_zero, List.nil_append, Nat.zero_add]

theorem addr_add (b off j : Nat) : Addr.add ⟨b, off, none⟩ j = ⟨b, off + j, none⟩ := by
  unfold Addr.add
  by_cases h : j = 0
  · rw [if_pos h, h, Nat.add_zero]
  · rw [if_neg h]

theorem src_of_sl {w w' : World} {b off : Nat} {xs : List Int} (h : Sl w (some ⟨b, off, none⟩) xs) (hb : Below w.heap.size w w') : ∀ j v, (xs.map (Value.int .i64))[j]? = some v → w'.cell? (Addr.add ⟨b, off, none⟩ j) = some v := by
  intro j v hj
  have hl : j < xs.length := by
    apply Classical.byContradiction
    intro hn
    rw [List.getElem?_eq_none (by simp; omega)] at hj
    cases hj
  rw [getD_map_int xs j hl] at hj
  rw [addr_add, ← hj]
  obtain ⟨b', off', e, hlt, hc⟩ := (h.below hb).at hl
  simp only [Option.some.injEq, Addr.mk.injEq, and_true] at e
  obtain ⟨rfl, rfl⟩ := e
  exact hc
theorem one_ints (xs : List Int) : ∀ v ∈ xs.map (Value.int .i64), v.oneCell' = true := by
  intro v hv
  obtain ⟨x, _, rfl⟩ := List.mem_map.1 hv
  rfl

abbrev zero4 : Obj := .cells #[.int .i64 0, .int .i64 0, .int .i64 0, .int .i64 0] 67

set_option maxRecDepth 100000 in
set_option maxHeartbeats 1000000 in
theorem registersOf_core (a0 : Option Addr) (n cap q : Nat) (r0 r1 r2 r3 : Int) (w : World)
    (hrun : (Builtin.copy_ #[25, 25] 3 #[.slice (some ⟨w.heap.size + 1, 0, none⟩) 4 4, .slice a0 n cap]).run Try.prog ((w.alloc zero4).alloc zero4) = .ok (goInt q) ((w.alloc zero4).alloc (.cells #[.int .i64 r0, .int .i64 r1, .int .i64 r2, .int .i64 r3] 67))) :
    Calls Try.prog 46 #[.slice a0 n cap] w fun e w' => e = .returned (.tuple #[regV r0 r1 r2 r3, .bool ((n : Int) == 4)]) ∧ Below w.heap.size w w' := by
  go_enter Try.func46, Try.ntmps46
  go_wp2
  refine bodyPost_ret (v := .tuple #[regV r0 r1 r2 r3, .bool ((n : Int) == 4)]) (by simp [results, Try.results46, go_sem]) rfl ⟨rfl, ?_⟩
  go_grown

/-- From a list whose first four are these, however many more. -/
theorem registersOf_some (b off n cap : Nat) (cs : List Int) (r0 r1 r2 r3 : Int) (w : World) (hn : cs.length = Nat.min n 4) (h : Sl w (some ⟨b, off, none⟩) cs)
    (hr : (cs.map (Value.int .i64) ++ [Value.int .i64 0, .int .i64 0, .int .i64 0, .int .i64 0].drop cs.length).toArray = #[.int .i64 r0, .int .i64 r1, .int .i64 r2, .int .i64 r3]) :
    Calls Try.prog 46 #[.slice (some ⟨b, off, none⟩) n cap] w fun e w' => e = .returned (.tuple #[regV r0 r1 r2 r3, .bool ((n : Int) == 4)]) ∧ Below w.heap.size w w' := by
  have hb : Below w.heap.size w ((w.alloc zero4).alloc zero4) := by go_grown
  have hrun := run_copy4 (w.alloc zero4) ⟨b, off, none⟩ n cap (cs.map (Value.int .i64)) #[.int .i64 0, .int .i64 0, .int .i64 0, .int .i64 0] rfl (by rw [List.length_map]; exact hn) (src_of_sl h hb) (one_ints cs)
  rw [List.length_map, hr] at hrun
  rw [World.size_alloc] at hrun
  exact registersOf_core _ n cap _ r0 r1 r2 r3 w hrun

theorem registersOf_none (a0 : Option Addr) (cap : Nat) (w : World) :
    Calls Try.prog 46 #[.slice a0 0 cap] w fun e w' => e = .returned (.tuple #[regV 0 0 0 0, .bool ((0 : Int) == 4)]) ∧ Below w.heap.size w w' :=
  registersOf_core a0 0 cap 0 0 0 0 0 w (run_copy_none _ _ _ _ 3 _ _ _ _ _ _ Try.underlying25 sizeInt rfl)

theorem Sl.sub {w : World} {b off : Nat} {xs ys : List Int} (h : Sl w (some ⟨b, off, none⟩) xs) (hp : ∃ t, xs = ys ++ t) : Sl w (some ⟨b, off, none⟩) ys := by
  obtain ⟨t, rfl⟩ := hp
  by_cases h0 : ys = []
  · exact .inl h0
  · rcases h with h | ⟨b', off', e, hlt, hc⟩
    · simp at h; exact .inl h.1
    · refine .inr ⟨b', off', e, hlt, fun i hi => ?_⟩
      have := hc i (by simp; omega)
      unfold zi at this ⊢
      rwa [List.getD_eq_getElem?_getD, List.getElem?_append_left hi, ← List.getD_eq_getElem?_getD] at this

/-- Four registers, where there are four; false of more and of fewer. -/
theorem registersOf_any (a0 : Option Addr) (cap : Nat) (xs : List Int) (w : World) (h : Sl w a0 xs) :
    Calls Try.prog 46 #[.slice a0 xs.length cap] w fun e w' => (∃ r0 r1 r2 r3, e = .returned (.tuple #[regV r0 r1 r2 r3, .bool ((xs.length : Int) == 4)]) ∧ (xs.length = 4 → xs = [r0, r1, r2, r3])) ∧ Below w.heap.size w w' := by
  match xs, h with
  | [], _ => exact (registersOf_none a0 cap w).mono fun e w' ⟨he, hb⟩ => ⟨⟨0, 0, 0, 0, he, fun h => by cases h⟩, hb⟩
  | [a], h =>
    obtain ⟨b, off, rfl, _⟩ := h.at (k := 0) (by simp)
    exact (registersOf_some b off 1 cap [a] a 0 0 0 w rfl h rfl).mono fun e w' ⟨he, hb⟩ => ⟨⟨_, _, _, _, he, fun h => by cases h⟩, hb⟩
  | [a, c], h =>
    obtain ⟨b, off, rfl, _⟩ := h.at (k := 0) (by simp)
    exact (registersOf_some b off 2 cap [a, c] a c 0 0 w rfl h rfl).mono fun e w' ⟨he, hb⟩ => ⟨⟨_, _, _, _, he, fun h => by cases h⟩, hb⟩
  | [a, c, d], h =>
    obtain ⟨b, off, rfl, _⟩ := h.at (k := 0) (by simp)
    exact (registersOf_some b off 3 cap [a, c, d] a c d 0 w rfl h rfl).mono fun e w' ⟨he, hb⟩ => ⟨⟨_, _, _, _, he, fun h => by cases h⟩, hb⟩
  | [a, c, d, f], h =>
    obtain ⟨b, off, rfl, _⟩ := h.at (k := 0) (by simp)
    exact (registersOf_some b off 4 cap [a, c, d, f] a c d f w rfl h rfl).mono fun e w' ⟨he, hb⟩ => ⟨⟨_, _, _, _, he, fun _ => rfl⟩, hb⟩
  | a :: c :: d :: f :: g :: t, h =>
    obtain ⟨b, off, rfl, _⟩ := h.at (k := 0) (by simp)
    exact (registersOf_some b off (a :: c :: d :: f :: g :: t).length cap [a, c, d, f] a c d f w (by simp) (h.sub ⟨g :: t, rfl⟩) rfl).mono fun e w' ⟨he, hb⟩ => ⟨⟨_, _, _, _, he, fun h => by simp at h⟩, hb⟩

end Go.Proofs.Ytmbmhpginegggaa
