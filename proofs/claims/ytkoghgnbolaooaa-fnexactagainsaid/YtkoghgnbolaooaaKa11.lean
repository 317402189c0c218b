/- The walks of StateOk, the program's and the model's: both answer what stOkB says. -/
import Derived.Test.YtkoghgnbolaooaaKa3
import Derived.Laws.IdiomCopy
import Derived.Lib.QuietBelow
import Derived.ChangeKeysEq
namespace Go.Proofs.Ytkoghgnbolaooaa
open Go.RowKit

abbrev regV (a b c d : Int) : Value := .agg #[.int .i64 a, .int .i64 b, .int .i64 c, .int .i64 d]

/-- The operation copy, where its run is known. -/
theorem wpList_copy_known (w : World) {ops : Array Oper} {rest : List Oper} {o : Oper} {a : Act} {Q : Exit → Act → World → Prop} (hgd : o.guard = none) (d s : Operand) (t t' : TypeId)
    (ho : o.op = .call { callee := .builtin .copy, args := #[d, s], argTypes := #[t, t'] }) (v u : Value) (hd : a.eval d = v) (hs : a.eval s = u) {v' : Value} {w' : World}
    (hr : ∀ ty, (Builtin.copy_ #[t, t'] ty #[v, u]).run Try.prog w = .ok v' w') (h : wpList Try.prog ops Q rest (a.put o.dst v') w') : wpList Try.prog ops Q (o :: rest) a w := by
  refine wpList_plain hgd fun K hK => ?_
  unfold Oper.wp execOp
  simp only [ho, resolve, invoke, builtin, Sem.run_bind, Sem.run_pure, Result.andThen_ok, List.map_toArray, List.map_cons, List.map_nil, hd, hs, hr]
  exact hK _ _ h

theorem sizeInt : (Try.prog.info? 3).map (·.size) = some 1 := by kernel_rfl

def cmax (x : Int) : Int := if x < -1000000000 then -1000000000 else x
def cmin (x : Int) : Int := if 1000000000 < x then 1000000000 else x
def clamp (x : Int) : Int := cmin (cmax x)
theorem run_cmax (ts : Array TypeId) (t : TypeId) (x : Int) (w : World) : (Builtin.max_ ts t #[.int .i64 x, .int .i64 (-1000000000)]).run Try.prog w = .ok (.int .i64 (cmax x)) w := by
  rw [run_max_int2]; rfl
theorem run_cmin (ts : Array TypeId) (t : TypeId) (x : Int) (w : World) : (Builtin.min_ ts t #[.int .i64 x, .int .i64 1000000000]).run Try.prog w = .ok (.int .i64 (cmin x)) w := by
  rw [run_min_int2]; rfl
theorem run_index0 (a b c d : Int) (w : World) : (Instr.index 98 (regV a b c d) (.int .i64 0)).run Try.prog w = .ok (.int .i64 a) w := by kernel_rfl
theorem run_index1 (a b c d : Int) (w : World) : (Instr.index 98 (regV a b c d) (.int .i64 1)).run Try.prog w = .ok (.int .i64 b) w := by kernel_rfl
theorem run_index2 (a b c d : Int) (w : World) : (Instr.index 98 (regV a b c d) (.int .i64 2)).run Try.prog w = .ok (.int .i64 c) w := by kernel_rfl
theorem run_index3 (a b c d : Int) (w : World) : (Instr.index 98 (regV a b c d) (.int .i64 3)).run Try.prog w = .ok (.int .i64 d) w := by kernel_rfl

section
attribute [local go_sem] run_index0 run_index1 run_index2 run_index3

set_option maxRecDepth 100000 in
set_option maxHeartbeats 1000000 in
theorem held_any (a b c d : Int) (w : World) :
    Calls Try.prog 84 #[regV a b c d] w fun e w' => e = .returned (regV (clamp a) (clamp b) (clamp c) (clamp d)) ∧ Below w.heap.size w w' := by
  have hmx := run_cmax
  have hmn := run_cmin
  go_enter Try.func84, Try.ntmps84
  go_wp2_with fail
  go_rounds 5
  refine bodyPost_ret (v := regV (clamp a) (clamp b) (clamp c) (clamp d)) (by simp [results, Try.results84, go_sem, clamp]) rfl ⟨rfl, ?_⟩
  go_grown

end

set_option maxHeartbeats 400000 in
theorem isCode_any (x : Int) (w : World) :
    Calls Try.prog 86 #[.int .i64 x] w fun e w' => e = .returned (.bool (inB x 0 2)) ∧ w' = w := by
  by_cases h0 : x = 0
  · subst h0
    go_enter Try.func86, Try.ntmps86
    go_wp2
    go_ret
    exact ⟨rfl, rfl⟩
  · have h0' : (x == 0) = false := by simp [h0]
    by_cases h1 : x = 1
    · subst h1
      go_enter Try.func86, Try.ntmps86
      go_wp2
      go_ret
      exact ⟨rfl, rfl⟩
    · have h1' : (x == 1) = false := by simp [h1]
      have hv : inB x 0 2 = (x == 2) := by
        rw [Bool.eq_iff_iff]; simp [inB]; omega
      have HV : Hid (inB x 0 2 = (x == 2)) := hv
      clear h0 h1 hv
      go_enter Try.func86, Try.ntmps86
      go_wp2
      go_ret
      exact ⟨by rw [HV.out]; rfl, rfl⟩

theorem setRow_alloc (w : World) (z cs : Array Value) (t : TypeId) : (w.alloc (.cells z t)).setRow w.heap.size cs = w.alloc (.cells cs t) := by
  have h : ((w.alloc (.cells z t)).setRow w.heap.size cs).heap = (w.alloc (.cells cs t)).heap := by
    apply Array.ext_getElem?
    intro k
    by_cases hk : k = w.heap.size
    · subst hk
      rw [setRow_heap _ _ z cs t (0, 0) (heap_alloc_new w _)]
      exact (heap_alloc_new w _).symm
    · rw [setRow_other _ _ _ _ hk]
      show (w.heap.push _)[k]? = (w.heap.push _)[k]?
      rw [Array.getElem?_push, Array.getElem?_push, if_neg hk, if_neg hk]
  show World.mk _ _ _ _ _ = World.mk _ _ _ _ _
  congr 1

/-- What copy does into a new array of four. -/
theorem run_copy4 (w : World) (a : Addr) (sLen cap : Nat) (cs : List Value) (z : Array Value) (hz : z.size = 4) (hn : cs.length = Nat.min sLen 4) (hsrc : ∀ j v, cs[j]? = some v → (w.alloc (.cells z 98)).cell? (a.add j) = some v) (h1 : ∀ v ∈ cs, v.oneCell' = true) :
    (Builtin.copy_ #[42, 42] 3 #[.slice (some ⟨w.heap.size, 0, none⟩) 4 4, .slice (some a) sLen cap]).run Try.prog (w.alloc (.cells z 98)) = .ok (goInt cs.length) (w.alloc (.cells (cs ++ z.toList.drop cs.length).toArray 98)) := by
  have h := run_copy_row (P := Try.prog) (w.alloc (.cells z 98)) 42 42 3 3 w.heap.size 0 4 4 a sLen cap z 98 cs Try.underlying42 sizeInt (heap_alloc_new w _) hn hsrc (by rw [hz, hn, Nat.zero_add]; exact Nat.min_le_right _ _) h1
  rw [h, setRow_alloc]
  simp only [List.take_zero, List.nil_append, Nat.zero_add]

theorem addr_add (b off j : Nat) : Addr.add ⟨b, off, none⟩ j = ⟨b, off + j, none⟩ := by
  unfold Addr.add
  by_cases h : j = 0
  · rw [if_pos h, h, Nat.add_zero]
  · rw [if_neg h]

theorem src_of_sl {w w' : World} {b off : Nat} {xs : List Int} (h : Sl w (some ⟨b, off, none⟩) xs) (hb : Below w.heap.size w w') : ∀ j v, (xs.map (Value.int .i64))[j]? = some v → w'.cell? (Addr.add ⟨b, off, none⟩ j) = some v := by
  intro j v hj
  have hl : j < xs.length := by
    apply Classical.byContradiction
    intro hn
    rw [List.getElem?_eq_none (by simp; omega)] at hj
    cases hj
  rw [getD_map_int xs j hl] at hj
  rw [addr_add, ← hj]
  obtain ⟨b', off', e, hlt, hc⟩ := (h.below hb).at hl
  simp only [Option.some.injEq, Addr.mk.injEq, and_true] at e
  obtain ⟨rfl, rfl⟩ := e
  exact hc
theorem one_ints (xs : List Int) : ∀ v ∈ xs.map (Value.int .i64), v.oneCell' = true := by
  intro v hv
  obtain ⟨x, _, rfl⟩ := List.mem_map.1 hv
  rfl

abbrev zero4 : Obj := .cells #[.int .i64 0, .int .i64 0, .int .i64 0, .int .i64 0] 98

set_option maxRecDepth 100000 in
set_option maxHeartbeats 1000000 in
theorem registersOf_core (a0 : Option Addr) (n cap q : Nat) (r0 r1 r2 r3 : Int) (w : World)
    (hrun : (Builtin.copy_ #[42, 42] 3 #[.slice (some ⟨w.heap.size + 1, 0, none⟩) 4 4, .slice a0 n cap]).run Try.prog ((w.alloc zero4).alloc zero4) = .ok (goInt q) ((w.alloc zero4).alloc (.cells #[.int .i64 r0, .int .i64 r1, .int .i64 r2, .int .i64 r3] 98))) :
    Calls Try.prog 70 #[.slice a0 n cap] w fun e w' => e = .returned (.tuple #[regV r0 r1 r2 r3, .bool ((n : Int) == 4)]) ∧ Below w.heap.size w w' := by
  go_enter Try.func70, Try.ntmps70
  go_wp2
  refine bodyPost_ret (v := .tuple #[regV r0 r1 r2 r3, .bool ((n : Int) == 4)]) (by simp [results, Try.results70, go_sem]) rfl ⟨rfl, ?_⟩
  go_grown

/-- From a list whose first four are these, however many more. -/
theorem registersOf_some (b off n cap : Nat) (cs : List Int) (r0 r1 r2 r3 : Int) (w : World) (hn : cs.length = Nat.min n 4) (h : Sl w (some ⟨b, off, none⟩) cs)
    (hr : (cs.map (Value.int .i64) ++ [Value.int .i64 0, .int .i64 0, .int .i64 0, .int .i64 0].drop cs.length).toArray = #[.int .i64 r0, .int .i64 r1, .int .i64 r2, .int .i64 r3]) :
    Calls Try.prog 70 #[.slice (some ⟨b, off, none⟩) n cap] w fun e w' => e = .returned (.tuple #[regV r0 r1 r2 r3, .bool ((n : Int) == 4)]) ∧ Below w.heap.size w w' := by
  have hb : Below w.heap.size w ((w.alloc zero4).alloc zero4) := by go_grown
  have hrun := run_copy4 (w.alloc zero4) ⟨b, off, none⟩ n cap (cs.map (Value.int .i64)) #[.int .i64 0, .int .i64 0, .int .i64 0, .int .i64 0] rfl (by rw [List.length_map]; exact hn) (src_of_sl h hb) (one_ints cs)
  rw [List.length_map, hr] at hrun
  rw [World.size_alloc] at hrun
  exact registersOf_core _ n cap _ r0 r1 r2 r3 w hrun

theorem registersOf_none (a0 : Option Addr) (cap : Nat) (w : World) :
    Calls Try.prog 70 #[.slice a0 0 cap] w fun e w' => e = .returned (.tuple #[regV 0 0 0 0, .bool ((0 : Int) == 4)]) ∧ Below w.heap.size w w' :=
  registersOf_core a0 0 cap 0 0 0 0 0 w (run_copy_none _ _ _ _ 3 _ _ _ _ _ _ Try.underlying42 sizeInt rfl)

theorem Sl.sub {w : World} {b off : Nat} {xs ys : List Int} (h : Sl w (some ⟨b, off, none⟩) xs) (hp : ∃ t, xs = ys ++ t) : Sl w (some ⟨b, off, none⟩) ys := by
  obtain ⟨t, rfl⟩ := hp
  by_cases h0 : ys = []
  · exact .inl h0
  · rcases h with h | ⟨b', off', e, hlt, hc⟩
    · simp at h; exact .inl h.1
    · refine .inr ⟨b', off', e, hlt, fun i hi => ?_⟩
      have := hc i (by simp; omega)
      unfold zi at this ⊢
      rwa [List.getD_eq_getElem?_getD, List.getElem?_append_left hi, ← List.getD_eq_getElem?_getD] at this

/-- Four registers, where there are four; false of more and of fewer. -/
theorem registersOf_any (a0 : Option Addr) (cap : Nat) (xs : List Int) (w : World) (h : Sl w a0 xs) :
    Calls Try.prog 70 #[.slice a0 xs.length cap] w fun e w' => (∃ r0 r1 r2 r3, e = .returned (.tuple #[regV r0 r1 r2 r3, .bool ((xs.length : Int) == 4)]) ∧ (xs.length = 4 → xs = [r0, r1, r2, r3])) ∧ Below w.heap.size w w' := by
  match xs, h with
  | [], _ => exact (registersOf_none a0 cap w).mono fun e w' ⟨he, hb⟩ => ⟨⟨0, 0, 0, 0, he, fun h => by cases h⟩, hb⟩
  | [a], h =>
    obtain ⟨b, off, rfl, _⟩ := h.at (k := 0) (by simp)
    exact (registersOf_some b off 1 cap [a] a 0 0 0 w rfl h rfl).mono fun e w' ⟨he, hb⟩ => ⟨⟨_, _, _, _, he, fun h => by cases h⟩, hb⟩
  | [a, c], h =>
    obtain ⟨b, off, rfl, _⟩ := h.at (k := 0) (by simp)
    exact (registersOf_some b off 2 cap [a, c] a c 0 0 w rfl h rfl).mono fun e w' ⟨he, hb⟩ => ⟨⟨_, _, _, _, he, fun h => by cases h⟩, hb⟩
  | [a, c, d], h =>
    obtain ⟨b, off, rfl, _⟩ := h.at (k := 0) (by simp)
    exact (registersOf_some b off 3 cap [a, c, d] a c d 0 w rfl h rfl).mono fun e w' ⟨he, hb⟩ => ⟨⟨_, _, _, _, he, fun h => by cases h⟩, hb⟩
  | [a, c, d, f], h =>
    obtain ⟨b, off, rfl, _⟩ := h.at (k := 0) (by simp)
    exact (registersOf_some b off 4 cap [a, c, d, f] a c d f w rfl h rfl).mono fun e w' ⟨he, hb⟩ => ⟨⟨_, _, _, _, he, fun _ => rfl⟩, hb⟩
  | a :: c :: d :: f :: g :: t, h =>
    obtain ⟨b, off, rfl, _⟩ := h.at (k := 0) (by simp)
    exact (registersOf_some b off (a :: c :: d :: f :: g :: t).length cap [a, c, d, f] a c d f w (by simp) (h.sub ⟨g :: t, rfl⟩) rfl).mono fun e w' ⟨he, hb⟩ => ⟨⟨_, _, _, _, he, fun h => by simp at h⟩, hb⟩

end Go.Proofs.Ytkoghgnbolaooaa

namespace Go.Proofs.Ytkoghgnbolaooaa
open Go.RowKit Go.Sort

def numB (x : Int) : Bool := inB x (-1000000000) 1000000000
def allN (xs : List Int) : Bool := xs.all numB
theorem zi_mem {xs : List Int} {k : Nat} (hk : k < xs.length) : zi xs k ∈ xs := by
  unfold zi
  rw [List.getD_eq_getElem?_getD, List.getElem?_eq_getElem hk]
  exact List.getElem_mem hk
theorem allN_false {xs : List Int} {k : Nat} (hk : k < xs.length) (h : numB (zi xs k) = false) : allN xs = false := by
  rw [allN, List.all_eq_false]
  exact ⟨_, zi_mem hk, by simp [h]⟩
theorem mem_zi {xs : List Int} {x : Int} (h : x ∈ xs) : ∃ k, k < xs.length ∧ zi xs k = x := by
  obtain ⟨k, hk, e⟩ := List.getElem_of_mem h
  refine ⟨k, hk, ?_⟩
  unfold zi
  rw [List.getD_eq_getElem?_getD, List.getElem?_eq_getElem hk]
  exact e
theorem allN_true {xs : List Int} (h : ∀ k, k < xs.length → numB (zi xs k) = true) : allN xs = true := by
  rw [allN, List.all_eq_true]
  intro x hx
  obtain ⟨k, hk, rfl⟩ := mem_zi hx
  exact h k hk

def outB (xs : List Int) : Bool := decide ((xs.length : Int) ≤ 60) && allN xs
def regsB (xs : List Int) : Bool := ((xs.length : Int) == 4) && allN xs
/-- Right for a list of n places. -/
def stOkB (n : Nat) (p : Int) (rs os : List Int) (code : Int) : Bool := regsB rs && inB code 0 2 && belB p n && outB os

set_option maxRecDepth 100000 in
set_option maxHeartbeats 1000000 in
theorem outOk_any (a0 : Option Addr) (cap : Nat) (xs : List Int) (w : World) (hlen : xs.length ≤ 1048576) (h : Sl w a0 xs) :
    Calls Try.prog 87 #[.slice a0 xs.length cap] w fun e w' => e = .returned (.bool (outB xs)) ∧ w' = w := by
  have hl' : (xs.length : Int) ≤ 1048576 := by omega
  by_cases h60 : (xs.length : Int) ≤ 60
  case neg =>
    have hg : 60 < (xs.length : Int) := by omega
    have HV : Hid (outB xs = false) := by simp [Hid, outB, h60]
    clear h60
    go_enter Try.func87, Try.ntmps87
    go_wp2
    go_ret
    exact ⟨by rw [HV.out]; rfl, rfl⟩
  case pos =>
    have HV : Hid (outB xs = allN xs) := by simp [Hid, outB, h60]
    have hg : ¬ 60 < (xs.length : Int) := by omega
    have HS : Hid (Sl w a0 xs) := h
    clear h h60
    go_enter Try.func87, Try.ntmps87
    go_wp2_with fail
    go_loop [10] (fun i => ∃ k : Nat, k ≤ xs.length ∧ i = .int .i64 k ∧ Hid (∀ t, t < k → numB (zi xs t) = true)) (fun i => xs.length - (intOf i).toNat)
    case atStart => exact ⟨0, Nat.zero_le _, rfl, fun t ht => by omega⟩
    case round =>
      obtain ⟨k, hk, rfl, HK⟩ := hrel
      by_cases hlt : k < xs.length
      · have hlt' : (k : Int) < (xs.length : Int) := by omega
        obtain ⟨b, off, rfl, hbl, ck⟩ := HS.out.at hlt
        rcases Bool.eq_false_or_eq_true (numB (zi xs k)) with t0 | t0
        · have T0 : Hid (numB (zi xs k) = true) := t0
          have t1 : inB (zi xs k) (-1000000000) 1000000000 = true := t0
          clear t0
          go_wp2_with (go_at_call 67; refine (isNum_any _ _).mono ?_; rintro e w' ⟨rfl, rfl⟩)
          go_round
          case rel =>
            refine ⟨k + 1, by omega, by go_num, fun t ht => ?_⟩
            by_cases htk : t = k
            · subst htk; exact T0.out
            · exact HK.out t (by omega)
          case measure => simp [intOf]; omega
        · have T0 : Hid (allN xs = false) := allN_false hlt t0
          have t1 : inB (zi xs k) (-1000000000) 1000000000 = false := t0
          clear t0
          go_wp2_with (go_at_call 67; refine (isNum_any _ _).mono ?_; rintro e w' ⟨rfl, rfl⟩)
          go_ret
          exact ⟨by rw [HV.out, T0.out]; rfl, rfl⟩
      · have hlt' : ¬ (k : Int) < (xs.length : Int) := by omega
        have T0 : Hid (allN xs = true) := allN_true fun t ht => HK.out t (by omega)
        clear HK
        go_wp2
        go_ret
        exact ⟨by rw [HV.out, T0.out]; rfl, rfl⟩

theorem clamp_eq {x : Int} : clamp x = x ↔ numB x = true := by
  unfold clamp cmin cmax numB inB
  simp only [decide_eq_true_eq]
  by_cases h1 : x < -1000000000
  · rw [if_pos h1, if_neg (by omega)]; omega
  · rw [if_neg h1]
    by_cases h2 : 1000000000 < x
    · rw [if_pos h2]; omega
    · rw [if_neg h2]; simp; omega

def regEqB (a b c d a' b' c' d' : Int) : Bool := a == a' && (b == b' && (c == c' && d == d'))

theorem eql_regs (a b c d a' b' c' d' : Int) (w : World) : (binOp .eql 98 (regV a b c d) (regV a' b' c' d')).run Try.prog w = .ok (.bool (regEqB a b c d a' b' c' d')) w := by
  have hinfo := infoInt
  cases hi : Try.prog.info? 3 with
  | none => rw [hi] at hinfo; cases hinfo
  | some i =>
    rw [run_eql_struct, show (10000 : Nat) = 9998 + 1 + 1 from rfl, run_equalIn_array w (9998 + 1) _ _ Try.underlying98 hi, show Try.prog.cellsOf 3 = 1 by kernel_rfl, show List.range 4 = [0, 1, 2, 3] from rfl]
    have hp : ∀ (vs : Array Value) (j : Nat) (v : Value) (w : World), vs[j]? = some v → (part 3 vs j).run Try.prog w = .ok v w := by
      intro vs j v w hv
      simp [part, go_sem, hv]
    have p0 := hp #[.int .i64 a, .int .i64 b, .int .i64 c, .int .i64 d] 0 (.int .i64 a) w rfl
    have p1 := hp #[.int .i64 a, .int .i64 b, .int .i64 c, .int .i64 d] 1 (.int .i64 b) w rfl
    have p2 := hp #[.int .i64 a, .int .i64 b, .int .i64 c, .int .i64 d] 2 (.int .i64 c) w rfl
    have p3 := hp #[.int .i64 a, .int .i64 b, .int .i64 c, .int .i64 d] 3 (.int .i64 d) w rfl
    have q0 := hp #[.int .i64 a', .int .i64 b', .int .i64 c', .int .i64 d'] 0 (.int .i64 a') w rfl
    have q1 := hp #[.int .i64 a', .int .i64 b', .int .i64 c', .int .i64 d'] 1 (.int .i64 b') w rfl
    have q2 := hp #[.int .i64 a', .int .i64 b', .int .i64 c', .int .i64 d'] 2 (.int .i64 c') w rfl
    have q3 := hp #[.int .i64 a', .int .i64 b', .int .i64 c', .int .i64 d'] 3 (.int .i64 d') w rfl
    have hq : ∀ x y, (Op.equalIn 9999 3 (.int .i64 x) (.int .i64 y)).run Try.prog w = .ok (x == y) w := fun x y => run_equalIn_int (P := Try.prog) w 9998 3 .i64 .i64 x y Try.underlying3
    clear hp hinfo hi
    simp only [regEqB]
    cases h1 : (a == a') <;> cases h2 : (b == b') <;> cases h3 : (c == c') <;> cases h4 : (d == d') <;> simp only [Op.eqItems, Sem.run_bind, Sem.run_pure, Sem.run_ite, Result.andThen_ok, Bool.not_true, Bool.not_false, if_true, if_false, Bool.false_eq_true, Nat.mul_one, Bool.and_true, Bool.and_false, p0, p1, p2, p3, q0, q1, q2, q3, hq, h1, h2, h3, h4]

theorem regEqB_clamp (a b c d : Int) : regEqB a b c d (clamp a) (clamp b) (clamp c) (clamp d) = regsB [a, b, c, d] := by
  have h : ∀ x, (x == clamp x) = numB x := fun x => by
    rw [Bool.eq_iff_iff, ← clamp_eq, beq_iff_eq]; exact eq_comm
  unfold regEqB regsB allN
  rw [h, h, h, h]
  simp

theorem old_cell {w : World} {b : Nat} (o : Obj) (j : Nat) (h : b < w.heap.size) : (w.alloc o).cell? ⟨b, j, none⟩ = w.cell? ⟨b, j, none⟩ := World.cell?_of_block (Below.heap_alloc w o b h)

theorem Calls.regrown_same {P : Program} {f : FuncId} {args : Array Value} {w : World} {d : Nat} {os : Array Obj} {v : Value}
    (h : Calls P f args (grow (redrawn w d) os) fun e w' => e = .returned v ∧ w' = grow (redrawn w d) os) : Calls P f args (grow (redrawn w d) os) fun e w'' => e = .returned v ∧ ∃ p : Regrown, w'' = grow (redrawn w p.d) p.os :=
  h.mono fun _ _ ⟨he, hw⟩ => ⟨he, ⟨d, os⟩, hw⟩

set_option maxRecDepth 100000 in
set_option maxHeartbeats 1000000 in
theorem implStateOk_four (la : Option Addr) (n lc : Nat) (p code : Int) (ra oa : Option Addr) (rc oc : Nat) (a b c d : Int) (os : List Int) (w : World) (ho : os.length ≤ 1048576) (h1 : Sl w ra [a, b, c, d]) (h2 : Sl w oa os) :
    Calls Try.prog 69 #[.slice la n lc, stV p ra 4 rc oa os.length oc code] w fun e w' => e = .returned (.bool (stOkB n p [a, b, c, d] os code)) ∧ Below w.heap.size w w' := by
  have H1 : Hid (Sl w ra [a, b, c, d]) := h1
  have H2 : Hid (Sl w oa os) := h2
  clear h1 h2
  go_enter Try.func69, Try.ntmps69
  go_wp2_with fail
  refine (registersOf_any ra rc [a, b, c, d] _ (H1.out.below (by go_grown))).mono ?_
  rintro e w1 ⟨⟨r0, r1, r2, r3, rfl, hr⟩, b1⟩
  have B1 : Hid (Below w.heap.size w w1) := below_up (by go_grown) b1 (by simp)
  have y0 : w.heap.size < w1.heap.size := by have := b1.size; simp at this; omega
  have hr' := hr rfl
  simp only [List.cons.injEq, and_true] at hr'
  obtain ⟨rfl, rfl, rfl, rfl⟩ := hr'
  obtain ⟨hc1, hf1⟩ := bcell b1
  clear b1 hr
  go_wp2_with fail
  have B2 : Hid (Below w.heap.size w (w1.alloc (.cells #[.int .i64 a, .int .i64 b, .int .i64 c, .int .i64 d] 98))) := B1.out.alloc (by omega) _
  generalize hW : (w1.alloc (.cells #[.int .i64 a, .int .i64 b, .int .i64 c, .int .i64 d] 98)) = W at *
  have k0 : W.cell? ⟨w1.heap.size, 0, none⟩ = some (.int .i64 a) := by rw [← hW]; simp
  have k1 : W.cell? ⟨w1.heap.size, 1, none⟩ = some (.int .i64 b) := by rw [← hW]; simp
  have k2 : W.cell? ⟨w1.heap.size, 2, none⟩ = some (.int .i64 c) := by rw [← hW]; simp
  have k3 : W.cell? ⟨w1.heap.size, 3, none⟩ = some (.int .i64 d) := by rw [← hW]; simp
  have s0 : W.cell? ⟨w.heap.size, 0, none⟩ = some (.int .i64 p) := by rw [← hW, old_cell _ _ y0, hc1 _ _ (by simp)]; simp
  have s2 : W.cell? ⟨w.heap.size, 2, none⟩ = some (.slice oa os.length oc) := by rw [← hW, old_cell _ _ y0, hc1 _ _ (by simp)]; simp
  have s3 : W.cell? ⟨w.heap.size, 3, none⟩ = some (.int .i64 code) := by rw [← hW, old_cell _ _ y0, hc1 _ _ (by simp)]; simp
  clear hc1 hf1 hW B1 y0
  have k0' := cell_regrown k0
  have k1' := cell_regrown k1
  have k2' := cell_regrown k2
  have k3' := cell_regrown k3
  have s0' := cell_regrown s0
  have s2' := cell_regrown s2
  have s3' := cell_regrown s3
  have HO : Hid (∀ d os', Sl (grow (redrawn W d) os') oa os) := fun d os' => (H2.out.below B2.out).below (below_regrown W d os')
  rcases Bool.eq_false_or_eq_true (regsB [a, b, c, d]) with t1 | t1
  case inr =>
    have HV : Hid (stOkB n p [a, b, c, d] os code = false) := by simp [Hid, stOkB, t1]
    have he : ∀ wx, (binOp .eql 98 (regV a b c d) (regV (clamp a) (clamp b) (clamp c) (clamp d))).run Try.prog wx = .ok (.bool false) wx := fun wx => by rw [eql_regs, regEqB_clamp, t1]
    clear t1
    refine wp_region_quiet_below (by kernel_rfl) (by kernel_rfl) ?_
    repeat (quiet_step (first | (go_at_call 84; exact Calls.regrown_of (held_any _ _ _ _ _)) | (go_at_call 86; exact Calls.regrown_same (isCode_any _ _)) | (go_at_call 68; exact Calls.regrown_same (isBelow_any _ _ _)) | (go_at_call 87; exact Calls.regrown_same (outOk_any _ _ _ _ ho (HO.out _ _)))))
    refine wpQuiet_nil ?_
    intro _ hw'
    obtain ⟨⟨dq, osq⟩, hw''⟩ := hw'
    subst hw''
    have B3 : Hid (Below w.heap.size w (grow (redrawn W dq) osq)) := B2.out.trans ((below_regrown W dq osq).mono B2.out.size)
    generalize grow (redrawn W dq) osq = w3 at *
    clear k0' k1' k2' k3' s0' s2' s3' HO he
    go_wp2
    go_ret
    exact ⟨by rw [HV.out]; rfl, B3.out⟩
  have he : ∀ wx, (binOp .eql 98 (regV a b c d) (regV (clamp a) (clamp b) (clamp c) (clamp d))).run Try.prog wx = .ok (.bool true) wx := fun wx => by rw [eql_regs, regEqB_clamp, t1]
  rcases Bool.eq_false_or_eq_true (inB code 0 2) with t2 | t2
  case inr =>
    have HV : Hid (stOkB n p [a, b, c, d] os code = false) := by simp [Hid, stOkB, t2]
    clear t1
    refine wp_region_quiet_below (by kernel_rfl) (by kernel_rfl) ?_
    repeat (quiet_step (first | (go_at_call 84; exact Calls.regrown_of (held_any _ _ _ _ _)) | (go_at_call 86; exact Calls.regrown_same (isCode_any _ _)) | (go_at_call 68; exact Calls.regrown_same (isBelow_any _ _ _)) | (go_at_call 87; exact Calls.regrown_same (outOk_any _ _ _ _ ho (HO.out _ _)))))
    refine wpQuiet_nil ?_
    intro _ hw'
    obtain ⟨⟨dq, osq⟩, hw''⟩ := hw'
    subst hw''
    have B3 : Hid (Below w.heap.size w (grow (redrawn W dq) osq)) := B2.out.trans ((below_regrown W dq osq).mono B2.out.size)
    generalize grow (redrawn W dq) osq = w3 at *
    clear k0' k1' k2' k3' s0' s2' s3' HO he
    go_wp2
    go_ret
    exact ⟨by rw [HV.out]; rfl, B3.out⟩
  rcases Bool.eq_false_or_eq_true (belB p n) with t3 | t3
  case inr =>
    have HV : Hid (stOkB n p [a, b, c, d] os code = false) := by simp [Hid, stOkB, t3]
    clear t1
    refine wp_region_quiet_below (by kernel_rfl) (by kernel_rfl) ?_
    repeat (quiet_step (first | (go_at_call 84; exact Calls.regrown_of (held_any _ _ _ _ _)) | (go_at_call 86; exact Calls.regrown_same (isCode_any _ _)) | (go_at_call 68; exact Calls.regrown_same (isBelow_any _ _ _)) | (go_at_call 87; exact Calls.regrown_same (outOk_any _ _ _ _ ho (HO.out _ _)))))
    refine wpQuiet_nil ?_
    intro _ hw'
    obtain ⟨⟨dq, osq⟩, hw''⟩ := hw'
    subst hw''
    have B3 : Hid (Below w.heap.size w (grow (redrawn W dq) osq)) := B2.out.trans ((below_regrown W dq osq).mono B2.out.size)
    generalize grow (redrawn W dq) osq = w3 at *
    clear k0' k1' k2' k3' s0' s2' s3' HO he
    go_wp2
    go_ret
    exact ⟨by rw [HV.out]; rfl, B3.out⟩
  case inl =>
    have HV : Hid (stOkB n p [a, b, c, d] os code = outB os) := by simp [Hid, stOkB, t1, t2, t3]
    clear t1
    refine wp_region_quiet_below (by kernel_rfl) (by kernel_rfl) ?_
    repeat (quiet_step (first | (go_at_call 84; exact Calls.regrown_of (held_any _ _ _ _ _)) | (go_at_call 86; exact Calls.regrown_same (isCode_any _ _)) | (go_at_call 68; exact Calls.regrown_same (isBelow_any _ _ _)) | (go_at_call 87; exact Calls.regrown_same (outOk_any _ _ _ _ ho (HO.out _ _)))))
    refine wpQuiet_nil ?_
    intro _ hw'
    obtain ⟨⟨dq, osq⟩, hw''⟩ := hw'
    subst hw''
    have B3 : Hid (Below w.heap.size w (grow (redrawn W dq) osq)) := B2.out.trans ((below_regrown W dq osq).mono B2.out.size)
    generalize grow (redrawn W dq) osq = w3 at *
    clear k0' k1' k2' k3' s0' s2' s3' HO he
    go_wp2
    go_ret
    exact ⟨by rw [HV.out]; rfl, B3.out⟩

set_option maxRecDepth 100000 in
set_option maxHeartbeats 1000000 in
theorem implStateOk_not (la : Option Addr) (n lc : Nat) (p code : Int) (ra oa : Option Addr) (rc on oc : Nat) (rs : List Int) (w : World) (h4 : rs.length ≠ 4) (h1 : Sl w ra rs) :
    Calls Try.prog 69 #[.slice la n lc, stV p ra rs.length rc oa on oc code] w fun e w' => e = .returned (.bool false) ∧ Below w.heap.size w w' := by
  have H1 : Hid (Sl w ra rs) := h1
  have h4' : ((rs.length : Int) == 4) = false := by simp; omega
  clear h1 h4
  go_enter Try.func69, Try.ntmps69
  go_wp2_with fail
  refine (registersOf_any ra rc rs _ (H1.out.below (by go_grown))).mono ?_
  rintro e w1 ⟨⟨a, b, c, d, rfl, hr⟩, b1⟩
  have B1 : Hid (Below w.heap.size w w1) := below_up (by go_grown) b1 (by simp)
  have y0 : w.heap.size < w1.heap.size := by have := b1.size; simp at this; omega
  clear b1 hr
  go_wp2_with fail
  have B2 : Hid (Below w.heap.size w (w1.alloc (.cells #[.int .i64 a, .int .i64 b, .int .i64 c, .int .i64 d] 98))) := B1.out.alloc (by omega) _
  generalize (w1.alloc (.cells #[.int .i64 a, .int .i64 b, .int .i64 c, .int .i64 d] 98)) = W at *
  go_quiet (fail)
  go_wp2
  go_ret
  exact ⟨rfl, below_drewN B2.out _⟩

/-- The program's StateOk, for every state in memory. -/
theorem implStateOk_any (la : Option Addr) (n lc : Nat) (p code : Int) (ra oa : Option Addr) (rc oc : Nat) (rs os : List Int) (w : World) (ho : os.length ≤ 1048576) (h1 : Sl w ra rs) (h2 : Sl w oa os) :
    Calls Try.prog 69 #[.slice la n lc, stV p ra rs.length rc oa os.length oc code] w fun e w' => e = .returned (.bool (stOkB n p rs os code)) ∧ Below w.heap.size w w' := by
  by_cases h4 : rs.length = 4
  · match rs, h4, h1 with
    | [a, b, c, d], _, h1 => exact implStateOk_four la n lc p code ra oa rc oc a b c d os w ho h1 h2
  · have hv : stOkB n p rs os code = false := by
      have : ((rs.length : Int) == 4) = false := by simp; omega
      simp [stOkB, regsB, this]
    rw [hv]
    exact implStateOk_not la n lc p code ra oa rc os.length oc rs w h4 h1

end Go.Proofs.Ytkoghgnbolaooaa
