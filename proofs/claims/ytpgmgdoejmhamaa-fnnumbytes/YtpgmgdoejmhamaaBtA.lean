/- Bytes in memory: what is read, what is owned, made, appended, compared and marked. -/
import Derived.Test.YtpgmgdoejmhamaaRpB0
import Derived.Laws.BitsLemmas
namespace Go.Proofs.Ytpgmgdoejmhamaa
open Go.RowKit Go.Deep

/-- The ints xs lie where a0 points. -/
def SlB (w : World) (a0 : Option Addr) (xs : List Int) : Prop :=
  xs = [] ∨ ∃ b off, a0 = some ⟨b, off, none⟩ ∧ b < w.heap.size ∧ ∀ i, i < xs.length → w.cell? ⟨b, off + i, none⟩ = some (.int .u8 (zi xs i))

theorem SlB.below {w w' : World} {a0 : Option Addr} {xs : List Int} (h : SlB w a0 xs) (hb : Below w.heap.size w w') : SlB w' a0 xs := by
  rcases h with h | ⟨b, off, e, hlt, hc⟩
  · exact .inl h
  · exact .inr ⟨b, off, e, Nat.lt_of_lt_of_le hlt hb.size, fun i hi => (hb.cell (p := ⟨b, off + i, none⟩) hlt).trans (hc i hi)⟩

/-- Where there is an int there is a place. -/
theorem SlB.at {w : World} {a0 : Option Addr} {xs : List Int} (h : SlB w a0 xs) {k : Nat} (hk : k < xs.length) : ∃ b off, a0 = some ⟨b, off, none⟩ ∧ b < w.heap.size ∧ w.cell? ⟨b, off + k, none⟩ = some (.int .u8 (zi xs k)) := by
  rcases h with rfl | ⟨b, off, e, hlt, hc⟩
  · simp at hk
  · exact ⟨b, off, e, hlt, hc k hk⟩

/-- The slice v is the ints xs, in a block of its own from B on. -/
def OwnB (w : World) (B : Nat) (v : Value) (xs : List Int) : Prop := w.ownsRow B 5 1 v xs.length (xs.map (Value.int .u8))

theorem OwnB.mono {w : World} {B B' : Nat} {v : Value} {xs : List Int} (h : OwnB w B v xs) (hb : B' ≤ B) : OwnB w B' v xs := World.ownsRow.mono h hb

theorem OwnB.kept {w w' : World} {B : Nat} {v : Value} {xs : List Int} {row : Option Nat} (h : OwnB w B v xs) (hg : w.grownBy w' row) (hne : v.ownBlock = none ∨ v.ownBlock ≠ row) : OwnB w' B v xs := World.ownsRow.kept h hg hne

theorem OwnB.lt {w : World} {B : Nat} {v : Value} {xs : List Int} (h : OwnB w B v xs) : ∀ k, v.ownBlock = some k → B ≤ k ∧ k < w.heap.size := World.ownsRow.lt h

theorem OwnB.below {w w' : World} {B : Nat} {v : Value} {xs : List Int} (h : OwnB w B v xs) (hb : Below w.heap.size w w') : OwnB w' B v xs := by
  refine h.kept (grown_of_below hb) ?_
  cases hv : v.ownBlock with
  | none => exact .inl rfl
  | some k => exact .inr (by simp)

theorem getD_map_byte (xs : List Int) (j : Nat) (hj : j < xs.length) : (xs.map (Value.int .u8))[j]? = some (.int .u8 (zi xs j)) := by
  unfold zi
  rw [List.getElem?_map, List.getElem?_eq_getElem hj, List.getD_eq_getElem?_getD, List.getElem?_eq_getElem hj]; rfl

/-- What is owned is a slice of that length, and can be read. -/
theorem OwnB.form {w : World} {B : Nat} {v : Value} {xs : List Int} (h : OwnB w B v xs) : ∃ a0 cap, v = .slice a0 xs.length cap ∧ SlB w a0 xs := by
  rcases h.2 with ⟨rfl, h0⟩ | ⟨g, cap, cur, rfl, hb, _⟩
  · exact ⟨none, 0, by rw [h0], .inl (List.eq_nil_of_length_eq_zero h0)⟩
  · refine ⟨_, cap, rfl, .inr ⟨g, 0, rfl, (h.lt g rfl).2, fun i hi => ?_⟩⟩
    rw [Nat.zero_add, World.ownsRow.cellAt h i (by omega)]
    exact getD_map_byte xs i hi

/-- Where there is an int it lies in a block of its own. -/
theorem OwnB.block {w : World} {B : Nat} {v : Value} {xs : List Int} (h : OwnB w B v xs) (hn : 0 < xs.length) : ∃ g cap, v = .slice (some ⟨g, 0, none⟩) xs.length cap ∧ B ≤ g ∧ g < w.heap.size := by
  rcases h.2 with ⟨_, h0⟩ | ⟨g, cap, cur, rfl, hb, _⟩
  · omega
  · exact ⟨g, cap, rfl, hb, (h.lt g rfl).2⟩

theorem OwnB.cell {w : World} {B g cap : Nat} {xs : List Int} (h : OwnB w B (.slice (some ⟨g, 0, none⟩) xs.length cap) xs) {j : Nat} (hj : j < xs.length) : w.cell? ⟨g, j, none⟩ = some (.int .u8 (zi xs j)) := by
  rw [World.ownsRow.cellAt h j (by omega)]
  exact getD_map_byte xs j hj

theorem OwnB.frozen {w : World} {B g cap : Nat} {xs : List Int} (h : OwnB w B (.slice (some ⟨g, 0, none⟩) xs.length cap) xs) (j : Nat) : w.frozen? ⟨g, j, none⟩ = false := World.ownsRow.frozenAt h j

theorem OwnB.set {w : World} {B g cap n : Nat} {xs : List Int} (h : OwnB w B (.slice (some ⟨g, 0, none⟩) n cap) xs) (hn : n = xs.length) (j : Nat) (x : Int) : OwnB (w.setCell ⟨g, j, none⟩ (.int .u8 x)) B (.slice (some ⟨g, 0, none⟩) n cap) (xs.set j x) ∧ w.grownBy (w.setCell ⟨g, j, none⟩ (.int .u8 x)) (some g) := by
  subst hn
  have := World.ownsRow.stored h j (.int .u8 x)
  unfold OwnB
  rw [List.length_set, List.map_set]
  exact this

theorem infoByte : (Try.prog.info? 5).map (fun i => (i.zero, i.size, i.bytes)) = some (some (.int .u8 0), 1, 1) := by kernel_rfl

theorem run_make_byte (n : Nat) (hn : n ≤ 1048576) (w : World) :
    (Instr.makeSlice 22 (.int .i64 (n : Int)) (.int .i64 (n : Int))).run Try.prog w = .ok (.slice (some ⟨w.heap.size, 0, none⟩) n n) (w.alloc (.cells (madeCells #[.int .u8 0] n) 5)) := by
  have hinfo := infoByte
  cases hi : Try.prog.info? 5 with
  | none => rw [hi] at hinfo; cases hinfo
  | some i =>
    rw [hi] at hinfo
    simp only [Option.map_some, Option.some.injEq, Prod.mk.injEq] at hinfo
    obtain ⟨hz, hs, hb⟩ := hinfo
    have h := run_make (P := Try.prog) w 22 5 i _ Try.underlying22 hi hz .i64 .i64 (n : Int) (n : Int) (by omega) (Int.le_refl _) (by rw [hb]; omega) (by omega)
    rw [hs] at h
    simpa [Value.cells] using h

theorem made_ownB (w : World) (n : Nat) (hn : n ≤ 1048576) : OwnB (w.alloc (.cells (madeCells #[.int .u8 0] n) 5)) w.heap.size (.slice (some ⟨w.heap.size, 0, none⟩) n n) (List.replicate n 0) := by
  have := World.ownsRow_lit (base := w.heap.size) (e := 5) (size := 1) w (madeCells #[.int .u8 0] n) n (Nat.le_refl _) (by unfold maxLen; omega) (by simp [size_madeCells])
  rw [toList_madeCells_one] at this
  unfold OwnB
  rw [List.length_replicate, List.map_replicate]
  exact this

theorem src_of_slB {w w' : World} {b off : Nat} {xs : List Int} (h : SlB w (some ⟨b, off, none⟩) xs) (hb : Below w.heap.size w w') : ∀ j v, (xs.map (Value.int .u8))[j]? = some v → w'.cell? (Addr.add ⟨b, off, none⟩ j) = some v := by
  intro j v hj
  have hl : j < xs.length := by
    apply Classical.byContradiction
    intro hn
    rw [List.getElem?_eq_none (by simp; omega)] at hj
    cases hj
  rw [getD_map_byte xs j hl] at hj
  rw [addr_add, ← hj]
  obtain ⟨b', off', e, hlt, hc⟩ := (h.below hb).at hl
  simp only [Option.some.injEq, Addr.mk.injEq, and_true] at e
  obtain ⟨rfl, rfl⟩ := e
  exact hc

theorem one_bytes (xs : List Int) : ∀ v ∈ xs.map (Value.int .u8), v.oneCell' = true := by
  intro v hv
  obtain ⟨x, _, rfl⟩ := List.mem_map.1 hv
  rfl

theorem info_byte : ∃ i, Try.prog.info? 5 = some i ∧ i.zero = some (.int .u8 0) ∧ i.size = 1 ∧ i.bytes = 1 := by
  have hinfo := infoByte
  cases hi : Try.prog.info? 5 with
  | none => rw [hi] at hinfo; cases hinfo
  | some i =>
    rw [hi] at hinfo
    simp only [Option.map_some, Option.some.injEq, Prod.mk.injEq] at hinfo
    exact ⟨i, rfl, hinfo⟩

/-- Nothing is appended from nil. -/
theorem runB_append_none (w : World) (ty : TypeId) (B c : Nat) (v : Value) (xs : List Int) (h : OwnB w B v xs) :
    (Builtin.append_ #[22, 22] ty #[v, .slice none 0 c]).run Try.prog w = .ok v w := by
  obtain ⟨i, hi, _⟩ := info_byte
  rcases h.2 with ⟨rfl, _⟩ | ⟨g, cap, cur, rfl, _, _, hnc, _⟩
  · simp [Builtin.append_, run_underlying Try.underlying22, sizeOf, typeInfo, hi, Builtin.lenOf, Builtin.firstCells]
  · simp [Builtin.append_, run_underlying Try.underlying22, sizeOf, typeInfo, hi, Builtin.lenOf, Builtin.firstCells, hnc, storeCells]

/-- What append does with ints, behind a list of one's own. -/
theorem run_append_bytes (w : World) (ty : TypeId) (B c : Nat) (v : Value) (a0 : Option Addr) (xs ys : List Int) (h : OwnB w B v xs) (hy : SlB w a0 ys) (hn : xs.length + ys.length ≤ 4000000) (hB : B ≤ w.heap.size) :
    ∃ v' w', (Builtin.append_ #[22, 22] ty #[v, .slice a0 ys.length c]).run Try.prog w = .ok v' w' ∧ OwnB w' B v' (xs ++ ys) ∧ w.grownBy w' v.ownBlock ∧ (v'.ownBlock = v.ownBlock ∨ v'.ownBlock = some w.heap.size) := by
  obtain ⟨i, hi, hz, hs, hb⟩ := info_byte
  cases a0 with
  | none =>
    have hy0 : ys = [] := by
      rcases hy with h0 | ⟨b, off, e, _⟩
      · exact h0
      · cases e
    subst hy0
    exact ⟨v, w, runB_append_none w ty B c v xs h, by simpa using h, World.grownBy.refl _ _, .inl rfl⟩
  | some a =>
    have hnews : ∀ j u, (ys.map (Value.int .u8))[j]? = some u → w.cell? (a.add j) = some u := by
      rcases hy with h0 | ⟨b, off, e, hlt, hc⟩
      · subst h0; intro j u hj; simp at hj
      · cases e
        exact src_of_slB (.inr ⟨b, off, rfl, hlt, hc⟩) (Below.refl _ _)
    obtain ⟨v', w', h1, h2, h3, _, h5⟩ := run_append_own_at (P := Try.prog) w B 22 ty 5 i (.int .u8 0) 1 1 Try.underlying22 hi hz hs hb rfl (by decide) v xs.length (xs.map (Value.int .u8)) h a ys.length c (ys.map (Value.int .u8)) (by simp) hnews (one_bytes ys) (by unfold maxLen; omega) (by omega) hB
    refine ⟨v', w', h1, ?_, h3, h5⟩
    unfold OwnB
    rw [List.length_append, List.map_append]
    exact h2

theorem wpList_append_bytes {ops : Array Oper} {rest : List Oper} {op : Oper} {act : Act} {Q : Exit → Act → World → Prop} (w : World) (hgd : op.guard = none) (s x : Operand)
    (ho : op.op = .call { callee := .builtin .append, args := #[s, x], argTypes := #[22, 22] })
    (B c : Nat) (v : Value) (a0 : Option Addr) (xs ys : List Int) (hs : act.eval s = v) (hx : act.eval x = .slice a0 ys.length c) (hv : OwnB w B v xs) (hy : SlB w a0 ys) (hn : xs.length + ys.length ≤ 4000000) (hB : B ≤ w.heap.size)
    (h : ∀ v' w', OwnB w' B v' (xs ++ ys) → w.grownBy w' v.ownBlock → (v'.ownBlock = v.ownBlock ∨ v'.ownBlock = some w.heap.size) → wpList Try.prog ops Q rest (act.put op.dst v') w') :
    wpList Try.prog ops Q (op :: rest) act w := by
  obtain ⟨v', w', h1, h2, h3, h4⟩ := run_append_bytes w op.type B c v a0 xs ys hv hy hn hB
  refine wpList_plain hgd fun K hK => ?_
  unfold Oper.wp execOp
  simp only [ho, resolve, invoke, builtin, Sem.run_bind, Sem.run_pure, Result.andThen_ok, List.map_toArray, List.map_cons, List.map_nil, hs, hx, h1]
  exact hK _ _ (h v' w' h2 h3 h4)

theorem ownB_empty (w : World) : OwnB (w.alloc (.cells #[] 5)) w.heap.size (.slice (some ⟨w.heap.size, 0, none⟩) 0 0) [] :=
  World.ownsRow_made (base := w.heap.size) (e := 5) (size := 1) w #[] 0 (Nat.le_refl _) (by unfold maxLen; omega) rfl

theorem ownB_emptyN (w : World) {N : Nat} (h : N = w.heap.size) : OwnB (w.alloc (.cells #[] 5)) N (.slice (some ⟨N, 0, none⟩) 0 0) [] := by
  subst h
  exact ownB_empty w

set_option maxRecDepth 100000 in
set_option maxHeartbeats 1000000 in
theorem eqByteS_same (a0 a1 : Option Addr) (c0 c1 : Nat) (xs : List Int) (w : World) (hlen : xs.length ≤ 1048576) (h0 : SlB w a0 xs) (h1 : SlB w a1 xs) :
    Calls Try.prog 14 #[.slice a0 xs.length c0, .slice a1 xs.length c1] w fun e w' => e = .returned (.bool true) ∧ Below w.heap.size w w' := by
  have hl' : (xs.length : Int) ≤ 1048576 := by omega
  have H0 : Hid (SlB w a0 xs) := h0
  have H1 : Hid (SlB w a1 xs) := h1
  clear h0 h1
  go_enter Try.func14, Try.ntmps14
  go_wp2_with fail
  go_loopw [5] (fun i wr => ∃ k : Nat, k ≤ xs.length ∧ i = .int .i64 k ∧ Below w.heap.size w wr) (fun i _ => xs.length - (intOf i).toNat)
  case atStart => exact ⟨0, Nat.zero_le _, rfl, Below.refl _ _⟩
  case round =>
    obtain ⟨k, hk, rfl, hbw⟩ := hrel
    by_cases hlt : k < xs.length
    · obtain ⟨b, off, rfl, hbl, ck⟩ := (H0.out.below hbw).at hlt
      obtain ⟨b', off', rfl, hbl', ck'⟩ := (H1.out.below hbw).at hlt
      have hlt' : (k : Int) < (xs.length : Int) := by omega
      go_wp2_with fail
      go_quiet (fail)
      go_wp2
      go_roundw
      case rel => exact ⟨k + 1, by omega, by go_num, below_drewN hbw _⟩
      case measure => simp [intOf]; omega
    · go_wp2
      go_ret
      exact ⟨rfl, hbw⟩

theorem own_someB {w : World} {B n cap : Nat} {a0 : Option Addr} {ys : List Int} (h : OwnB w B (.slice a0 n cap) ys) (hn : 0 < ys.length) : ∃ g, a0 = some ⟨g, 0, none⟩ ∧ n = ys.length ∧ B ≤ g ∧ g < w.heap.size := by
  obtain ⟨g, c, hv, hb, hl⟩ := h.block hn
  simp only [Value.slice.injEq] at hv
  exact ⟨g, hv.1, hv.2.1, hb, hl⟩

def marksB (k : Int) (n : Nat) : List Int := (List.range n).map (fun i : Nat => IntKind.u8.wrap (k + (i : Int)))

theorem marksB_length (k : Int) (n : Nat) : (marksB k n).length = n := by simp [marksB]

theorem marksB_at (k : Int) (n j : Nat) (h : j < n) : zi (marksB k n) j = IntKind.u8.wrap (k + j) := by
  unfold zi marksB
  rw [List.getD_eq_getElem?_getD, List.getElem?_map, List.getElem?_range h]; rfl

set_option maxRecDepth 100000 in
set_option maxHeartbeats 1000000 in
theorem markByteS_any (a0 : Option Addr) (cap B : Nat) (xs : List Int) (k : Int) (w : World) (hlen : xs.length ≤ 1048576) (k0 : 0 ≤ k) (k1 : k ≤ 100000000) (h : OwnB w B (.slice a0 xs.length cap) xs) :
    Calls Try.prog 15 #[.slice a0 xs.length cap, .int .i64 k] w fun e w' => e = .returned (.int .i64 (k + xs.length)) ∧ OwnB w' B (.slice a0 xs.length cap) (marksB k xs.length) ∧ w.grownBy w' (Value.slice a0 xs.length cap).ownBlock := by
  have hl' : (xs.length : Int) ≤ 1048576 := by omega
  have HO : Hid (OwnB w B (.slice a0 xs.length cap) xs) := h
  clear h
  go_enter Try.func15, Try.ntmps15
  go_wp2_with fail
  go_loopw [1, 5] (fun q i wr => ∃ j : Nat, j ≤ xs.length ∧ i = .int .i64 j ∧ q = .int .i64 (k + j) ∧ Hid ((∃ ys, ys.length = xs.length ∧ OwnB wr B (.slice a0 xs.length cap) ys ∧ ∀ t, t < j → zi ys t = IntKind.u8.wrap (k + t)) ∧ w.grownBy wr (Value.slice a0 xs.length cap).ownBlock)) (fun _ i _ => xs.length - (intOf i).toNat)
  case atStart => exact ⟨0, Nat.zero_le _, rfl, by simp, ⟨xs, rfl, HO.out, fun t ht => by omega⟩, World.grownBy.refl _ _⟩
  case round =>
    clear HO
    obtain ⟨j, hj, rfl, rfl, HR⟩ := hrel
    by_cases hlt : j < xs.length
    · have hlt' : (j : Int) < (xs.length : Int) := by omega
      have hg : ∃ g, a0 = some ⟨g, 0, none⟩ ∧ g < wr.heap.size := by
        obtain ⟨⟨ys, he, ho, _⟩, _⟩ := HR.out
        obtain ⟨g, hg, _, _, hl⟩ := own_someB ho (by omega)
        exact ⟨g, hg, hl⟩
      obtain ⟨g, rfl, hgl⟩ := hg
      have fz : wr.frozen? ⟨g, j, none⟩ = false := by obtain ⟨⟨ys, he, ho, _⟩, _⟩ := HR.out; rw [← he] at ho; exact ho.frozen j
      have cz : ∃ z : Int, wr.cell? ⟨g, j, none⟩ = some (.int .u8 z) := by obtain ⟨⟨ys, he, ho, _⟩, _⟩ := HR.out; rw [← he] at ho hlt; exact ⟨_, ho.cell hlt⟩
      obtain ⟨z, cz⟩ := cz
      go_wp2
      go_roundw
      case rel =>
        refine ⟨j + 1, by omega, by go_num, by go_num, ?_⟩
        obtain ⟨⟨ys, he, ho, hy⟩, hgr⟩ := HR.out
        obtain ⟨ho', hg'⟩ := ho.set he.symm j (IntKind.u8.wrap (k + j))
        refine ⟨⟨ys.set j (IntKind.u8.wrap (k + j)), by simpa using he, ho', fun t ht => ?_⟩, hgr.trans hg'⟩
        by_cases htj : t = j
        · subst htj; exact getD_set_self ys t _ (by omega)
        · rw [getD_set_ne ys t j _ htj]; exact hy t (by omega)
      case measure => simp [intOf]; omega
    · have hlt' : ¬ (j : Int) < (xs.length : Int) := by omega
      have HF : Hid (OwnB wr B (.slice a0 xs.length cap) (marksB k xs.length) ∧ w.grownBy wr (Value.slice a0 xs.length cap).ownBlock) := by
        obtain ⟨⟨ys, he, ho, hy⟩, hgr⟩ := HR.out
        have : ys = marksB k xs.length := ext_getD (by rw [he, marksB_length]) fun i hi => by rw [hy i (by omega), marksB_at _ _ _ (by omega)]
        rw [this] at ho
        exact ⟨ho, hgr⟩
      have hjl : (j : Int) = xs.length := by omega
      have HJ : Hid ((j : Int) = xs.length) := hjl
      clear HR hjl
      go_wp2
      go_ret
      exact ⟨ret_int (by rw [HJ.out]), HF.out⟩

set_option maxRecDepth 100000 in
set_option maxHeartbeats 1000000 in
theorem heldByteS_marks (a0 : Option Addr) (cap n : Nat) (k : Int) (w : World) (hlen : n ≤ 1048576) (k0 : 0 ≤ k) (k1 : k ≤ 100000000) (h : SlB w a0 (marksB k n)) :
    Calls Try.prog 16 #[.slice a0 n cap, .int .i64 k] w fun e w' => e = .returned (.int .i64 (k + n)) ∧ w' = w := by
  have hl' : (n : Int) ≤ 1048576 := by omega
  have HS : Hid (SlB w a0 (marksB k n)) := h
  clear h
  go_enter Try.func16, Try.ntmps16
  go_wp2_with fail
  go_loop [1, 5] (fun q i => ∃ j : Nat, j ≤ n ∧ i = .int .i64 j ∧ q = .int .i64 (k + j)) (fun _ i => n - (intOf i).toNat)
  case atStart => exact ⟨0, Nat.zero_le _, rfl, by simp⟩
  case round =>
    obtain ⟨j, hj, rfl, rfl⟩ := hrel
    by_cases hlt : j < n
    · have hlt' : (j : Int) < (n : Int) := by omega
      obtain ⟨b, off, rfl, hbl, ck⟩ := HS.out.at (k := j) (by rw [marksB_length]; exact hlt)
      rw [marksB_at _ _ _ hlt] at ck
      go_wp2
      go_round
      case rel => exact ⟨j + 1, by omega, by go_num, by go_num⟩
      case measure => simp [intOf]; omega
    · have hlt' : ¬ (j : Int) < (n : Int) := by omega
      have HJ : Hid ((j : Int) = n) := by show (j : Int) = n; omega
      go_wp2
      go_ret
      exact ⟨ret_int (by rw [HJ.out]), rfl⟩

/-- A state whose lists are marked from k on. -/
theorem own_apartB {w w' : World} {B : Nat} {v u : Value} {xs : List Int} (h : OwnB w B v xs) (hg : w.grownBy w' u.ownBlock) (ha : ∀ k, u.ownBlock = some k → v.ownBlock ≠ some k) : OwnB w' B v xs := by
  refine h.kept hg ?_
  cases hu : u.ownBlock with
  | none => 
    cases hv : v.ownBlock with
    | none => exact .inl rfl
    | some k => exact .inr (by simp)
  | some k => exact .inr (ha k hu)

set_option maxRecDepth 100000 in
set_option maxHeartbeats 1000000 in
theorem toByteS_any (a0 : Option Addr) (cap : Nat) (xs : List Int) (w : World) (hlen : xs.length ≤ 1048576) (hc : SlB w a0 xs) :
    Calls Try.prog 17 #[.slice a0 xs.length cap] w fun e w' => e = .returned (.slice (some ⟨w.heap.size, 0, none⟩) xs.length xs.length) ∧ OwnB w' w.heap.size (.slice (some ⟨w.heap.size, 0, none⟩) xs.length xs.length) xs ∧ w.heap.size < w'.heap.size ∧ Below w.heap.size w w' := by
  have hl' : (xs.length : Int) ≤ 1048576 := by omega
  have hmk := run_make_byte xs.length hlen
  have HM := made_ownB w xs.length hlen
  have HC : Hid (SlB w a0 xs) := hc
  clear hc
  go_enter Try.func17, Try.ntmps17
  go_wp2_with fail
  clear hmk
  go_loopw [4] (fun i wr => ∃ k : Nat, k ≤ xs.length ∧ i = .int .i64 k ∧ Hid (∃ ys, ys.length = xs.length ∧ OwnB wr w.heap.size (.slice (some ⟨w.heap.size, 0, none⟩) xs.length xs.length) ys ∧ ∀ j, j < k → zi ys j = zi xs j) ∧ Below w.heap.size w wr) (fun i _ => xs.length - (intOf i).toNat)
  case atStart => exact ⟨0, Nat.zero_le _, rfl, ⟨_, by simp, HM, fun j hj => by omega⟩, (Below.refl _ _).alloc (Nat.le_refl _) _⟩
  case round =>
    clear HM
    obtain ⟨k, hk, rfl, HR, hbw⟩ := hrel
    have hs : w.heap.size < wr.heap.size := by obtain ⟨ys, _, ho, _⟩ := HR.out; exact (ho.lt _ rfl).2
    by_cases hlt : k < xs.length
    · obtain ⟨b, off, rfl, hbl, ck⟩ := (HC.out.below hbw).at hlt
      have fz : wr.frozen? ⟨w.heap.size, k, none⟩ = false := by obtain ⟨ys, he, ho, _⟩ := HR.out; rw [← he] at ho; exact ho.frozen k
      have cz : ∃ z : Int, wr.cell? ⟨w.heap.size, k, none⟩ = some (.int .u8 z) := by obtain ⟨ys, he, ho, _⟩ := HR.out; rw [← he] at ho hlt; exact ⟨_, ho.cell hlt⟩
      obtain ⟨z, cz⟩ := cz
      go_wp2
      go_roundw
      case rel =>
        refine ⟨k + 1, by omega, by go_num, ?_, hbw.setCell (Nat.le_refl _) _⟩
        obtain ⟨ys, he, ho, hy⟩ := HR.out
        refine ⟨ys.set k (zi xs k), by simpa using he, (ho.set he.symm k _).1, fun j hj => ?_⟩
        by_cases hjk : j = k
        · subst hjk; exact getD_set_self ys j _ (by omega)
        · rw [getD_set_ne ys j k _ hjk]; exact hy j (by omega)
      case measure => simp [intOf]; omega
    · have HF : Hid (OwnB wr w.heap.size (.slice (some ⟨w.heap.size, 0, none⟩) xs.length xs.length) xs) := by
        obtain ⟨ys, he, ho, hy⟩ := HR.out
        have : ys = xs := ext_getD he fun i hi => hy i (by omega)
        rw [this] at ho
        exact ho
      clear HR
      go_wp2
      go_ret
      exact ⟨rfl, HF.out, hs, hbw⟩

theorem append_byte {ops : Array Oper} {rest : List Oper} {op : Oper} {act : Act} {Q : Exit → Act → World → Prop} (w : World) (hgd : op.guard = none) (s x : Operand)
    (ho : op.op = .call { callee := .builtin .append, args := #[s, x], argTypes := #[22, 22] })
    (B : Nat) (v : Value) (xs : List Int) (hs : act.eval s = v) (hv : OwnB w B v xs) (y : Int) (hx : act.eval x = .slice (some ⟨w.heap.size, 0, none⟩) 1 1) (hn : xs.length ≤ 1048576) (hB : B ≤ w.heap.size)
    (h : ∀ v' w', OwnB w' B v' (xs ++ [y]) → Below B w w' → wpList Try.prog ops Q rest (act.put op.dst v') w') :
    wpList Try.prog ops Q (op :: rest) act (w.alloc (.cells #[.int .u8 y] 5)) := by
  have hb : Below w.heap.size w (w.alloc (.cells #[.int .u8 y] 5)) := (Below.refl _ _).alloc (Nat.le_refl _) _
  refine wpList_append_bytes _ hgd s x ho B 1 v (some ⟨w.heap.size, 0, none⟩) xs [y] hs hx (hv.below hb) (.inr ⟨w.heap.size, 0, rfl, by simp, fun i hi => ?_⟩) (by simp; omega) (by simp; omega) ?_
  · have : i = 0 := by simp at hi; omega
    subst this
    exact new_cell _ _ _ 0 rfl
  · intro v' w' o g _
    refine h v' w' o (Below.grown (hb.mono hB) g (by simp; omega) (fun k hk => (hv.lt k hk).1))

theorem append_byteN {ops : Array Oper} {rest : List Oper} {op : Oper} {act : Act} {Q : Exit → Act → World → Prop} (w : World) {N : Nat} (hN : N = w.heap.size) (hgd : op.guard = none) (s x : Operand)
    (ho : op.op = .call { callee := .builtin .append, args := #[s, x], argTypes := #[22, 22] })
    (B : Nat) (v : Value) (xs : List Int) (hs : act.eval s = v) (hv : OwnB w B v xs) (y : Int) (hx : act.eval x = .slice (some ⟨N, 0, none⟩) 1 1) (hn : xs.length ≤ 1048576) (hB : B ≤ w.heap.size)
    (h : ∀ v' w', OwnB w' B v' (xs ++ [y]) → Below B w w' → wpList Try.prog ops Q rest (act.put op.dst v') w') :
    wpList Try.prog ops Q (op :: rest) act (w.alloc (.cells #[.int .u8 y] 5)) := by
  subst hN
  exact append_byte w hgd s x ho B v xs hs hv y hx hn hB h

theorem OwnB.to {w : World} {B : Nat} {v : Value} {xs ys : List Int} (h : OwnB w B v xs) (e : ys = xs) : OwnB w B v ys := e ▸ h

end Go.Proofs.Ytpgmgdoejmhamaa
