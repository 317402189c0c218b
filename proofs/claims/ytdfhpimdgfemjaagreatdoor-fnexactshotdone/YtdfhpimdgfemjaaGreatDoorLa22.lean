/- The walks of Count, Nth and Values, the program's and the model's. -/
import Derived.Test.YtdfhpimdgfemjaaGreatDoorLa16
import Derived.Test.YtdfhpimdgfemjaaGreatDoorLa14
import Derived.Test.YtdfhpimdgfemjaaGreatDoorLa18
import Derived.Test.YtdfhpimdgfemjaaGreatDoorLa21
namespace Go.Proofs.YtdfhpimdgfemjaaGreatDoor
open Go.ChangeShapes Go.WideShapes Go.ChangeAt Go.RowKit Go.Deep

/-- From cell off of block b on there lie len bools, the i-th being h i. -/
def BlAt (w : World) (b off len : Nat) (h : Nat → Bool) : Prop := ∀ i, i < len → w.cell? ⟨b, off + i, none⟩ = some (.bool (h i))
theorem BlAt.below {w w' : World} {B b off len : Nat} {h : Nat → Bool} (hh : BlAt w b off len h) (hb : Below B w w') (hB : b < B) : BlAt w' b off len h := fun i hi => (hb.cell hB).trans (hh i hi)
theorem infoBool : (Tryz.prog.info? 4).map (fun i => (i.zero, i.size, i.bytes)) = some (some (.bool false), 1, 1) := by kernel_rfl
theorem run_make_bool (n : Nat) (hn : n ≤ 1048576) (w : World) :
    (Instr.makeSlice 36 (.int .i64 (n : Int)) (.int .i64 (n : Int))).run Tryz.prog w = .ok (.slice (some ⟨w.heap.size, 0, none⟩) n n) (w.alloc (.cells (madeCells #[.bool false] n) 4)) := by
  have hinfo := infoBool
  cases hi : Tryz.prog.info? 4 with
  | none => rw [hi] at hinfo; cases hinfo
  | some i =>
    rw [hi] at hinfo
    simp only [Option.map_some, Option.some.injEq, Prod.mk.injEq] at hinfo
    obtain ⟨hz, hs, hb⟩ := hinfo
    have h := run_make (P := Tryz.prog) w 36 4 i _ Tryz.underlying36 hi hz .i64 .i64 (n : Int) (n : Int) (by omega) (Int.le_refl _) (by rw [hb]; omega) (by omega)
    rw [hs] at h
    simpa [Value.cells] using h

set_option maxHeartbeats 400000 in
theorem szBoolS_smallL (a0 : Option Addr) (len cap : Nat) (L : Int) (w : World) (h : (len : Int) ≤ L) (hL : L ≤ 1048576) :
    Calls Tryz.prog 131 #[.slice a0 len cap, .int .i64 L] w fun e w' => e = .returned (.int .i64 (L - (len : Int))) ∧ w' = w := by
  have h1 : (len : Int) ≤ 1048576 := by omega
  have h2 : 0 ≤ L := by omega
  have h3 : ¬ (L - (len : Int) < 0) := by omega
  go_enter Tryz.func131, Tryz.ntmps131
  go_wp2
  go_ret
  exact ⟨rfl, rfl⟩
set_option maxHeartbeats 400000 in
theorem szBoolS_greatL (a0 : Option Addr) (len cap : Nat) (L : Int) (w : World) (h : L < (len : Int)) (h0 : 0 ≤ L) (hL : L ≤ 1048576) (hm : len ≤ maxLen) :
    Calls Tryz.prog 131 #[.slice a0 len cap, .int .i64 L] w fun e w' => e = .returned (.int .i64 (-1)) ∧ w' = w := by
  unfold maxLen at hm
  have h2 : (len : Int) ≤ 9223372036854775807 := by omega
  have h3 : L - (len : Int) < 0 := by omega
  go_enter Tryz.func131, Tryz.ntmps131
  go_wp2
  go_ret
  exact ⟨rfl, rfl⟩

theorem madeBool_row (w : World) (n : Nat) : (w.alloc (.cells (madeCells #[.bool false] n) 4)).rowIs w.heap.size 4 n (fun _ => .bool false) := by
  refine ⟨_, blk_alloc_new _ _, size_madeCells _ _, fun i hi => ?_⟩
  simp only [madeCells]
  rw [Array.getElem?_map, Array.getElem?_range, if_pos hi]
  have : i % 1 = 0 := Nat.mod_one i
  exact congrArg some (by simp [this])

set_option maxRecDepth 100000 in
set_option maxHeartbeats 1000000 in
theorem toBoolS_free (b off len cap : Nat) (h : Nat → Bool) (w : World) (hlen : len ≤ 1048576) (hb : b < w.heap.size) (hc : BlAt w b off len h) :
    Calls Tryz.prog 134 #[.slice (some ⟨b, off, none⟩) len cap] w fun e w' => e = .returned (.slice (some ⟨w.heap.size, 0, none⟩) len len) ∧ BlAt w' w.heap.size 0 len h ∧ w.heap.size < w'.heap.size ∧ Below w.heap.size w w' ∧ ∀ j, w'.frozen? ⟨w.heap.size, j, none⟩ = false := by
  have hl' : (len : Int) ≤ 1048576 := by omega
  have hmk := run_make_bool len hlen
  have HC : Hid (BlAt w b off len h) := hc
  clear hc
  go_enter Tryz.func134, Tryz.ntmps134
  go_wp2_with fail
  clear hmk
  go_loopw [4] (fun i wr => ∃ k : Nat, k ≤ len ∧ i = .int .i64 k ∧ (∃ f, wr.rowIs w.heap.size 4 len f ∧ Hid (∀ i, i < k → f i = .bool (h i))) ∧ Below w.heap.size w wr) (fun i _ => len - (intOf i).toNat)
  case atStart => exact ⟨0, Nat.zero_le _, rfl, ⟨_, madeBool_row w len, fun i hi => by omega⟩, (Below.refl _ _).alloc (Nat.le_refl _) _⟩
  case round =>
    obtain ⟨k, hk, rfl, ⟨f, hrow, HF⟩, hbw⟩ := hrel
    have hs := hrow.lt
    by_cases hlt : k < len
    · have hlt' : (k : Int) < (len : Int) := by omega
      have ck := HC.out.below hbw hb k hlt
      have f0 := hrow.frozen k
      have g0 := hrow.cell (i := k) hlt
      have HR : Hid (wr.rowIs w.heap.size 4 len f) := hrow
      clear hrow
      go_wp2
      go_roundw
      case rel =>
        refine ⟨k + 1, by omega, by go_num, ⟨_, HR.out.set _ _, fun i hi => ?_⟩, hbw.setCell (Nat.le_refl _) _⟩
        by_cases e : i = k
        · subst e; simp
        · rw [if_neg e]; exact HF.out i (by omega)
      case measure => simp [intOf]; omega
    · have hkl : k = len := by omega
      have HI : Hid (BlAt wr w.heap.size 0 len h) := fun i hi => by
        rw [Nat.zero_add, hrow.cell hi, HF.out i (by omega)]
      have HZ : Hid (∀ j, wr.frozen? ⟨w.heap.size, j, none⟩ = false) := fun j => hrow.frozen j
      clear hkl HF hrow
      go_wp2
      go_ret
      exact ⟨rfl, HI.out, hs, hbw, HZ.out⟩

set_option maxRecDepth 100000 in
set_option maxHeartbeats 1000000 in
theorem toBoolS_freeEmpty (a0 : Option Addr) (cap : Nat) (h : Nat → Bool) (w : World) :
    Calls Tryz.prog 134 #[.slice a0 0 cap] w fun e w' => e = .returned (.slice (some ⟨w.heap.size, 0, none⟩) 0 0) ∧ BlAt w' w.heap.size 0 0 h ∧ w.heap.size < w'.heap.size ∧ Below w.heap.size w w' ∧ ∀ j, w'.frozen? ⟨w.heap.size, j, none⟩ = false := by
  have hmk : ∀ w : World, (Instr.makeSlice 36 (.int .i64 0) (.int .i64 0)).run Tryz.prog w = .ok (.slice (some ⟨w.heap.size, 0, none⟩) 0 0) (w.alloc (.cells (madeCells #[.bool false] 0) 4)) := fun w => run_make_bool 0 (by omega) w
  go_enter Tryz.func134, Tryz.ntmps134
  go_wp2_with fail
  clear hmk
  go_rounds 1
  go_ret
  exact ⟨rfl, fun i hi => by omega, by simp, (Below.refl _ _).alloc (Nat.le_refl _) _, fun j => new_frozen _ _ _ j rfl⟩

/-- Wherever nothing old has turned, a copy can be made, and written into. -/
def CopiesB (w : World) (a0 : Option Addr) (len cap : Nat) (h : Nat → Bool) : Prop := ∀ wx, Below w.heap.size w wx →
  Calls Tryz.prog 134 #[.slice a0 len cap] wx fun e w' => e = .returned (.slice (some ⟨wx.heap.size, 0, none⟩) len len) ∧ BlAt w' wx.heap.size 0 len h ∧ wx.heap.size < w'.heap.size ∧ Below wx.heap.size wx w' ∧ ∀ j, w'.frozen? ⟨wx.heap.size, j, none⟩ = false

theorem copiesB_of {W : World} {a0 : Option Addr} {len cap : Nat} (hl : len ≤ 1048576) (hr : len = 0 ∨ ∃ b off h, a0 = some ⟨b, off, none⟩ ∧ b < W.heap.size ∧ BlAt W b off len h) : ∃ h, CopiesB W a0 len cap h := by
  rcases hr with rfl | ⟨b, off, h, rfl, hb, hI⟩
  · exact ⟨fun _ => false, fun wx _ => toBoolS_freeEmpty a0 cap _ wx⟩
  · exact ⟨h, fun wx hB => toBoolS_free b off len cap h wx hl (Nat.lt_of_lt_of_le hb hB.size) (hI.below hB hb)⟩

set_option maxRecDepth 100000 in
set_option maxHeartbeats 1000000 in
theorem eqBoolS_sameZ (b1 b2 len c1 c2 : Nat) (h : Nat → Bool) (w : World) (hlen : len ≤ 1048576) (hb1 : b1 < w.heap.size) (hb2 : b2 < w.heap.size) (hc1 : BlAt w b1 0 len h) (hc2 : BlAt w b2 0 len h) :
    Calls Tryz.prog 111 #[.slice (some ⟨b1, 0, none⟩) len c1, .slice (some ⟨b2, 0, none⟩) len c2] w fun e w' => e = .returned (.bool true) ∧ Below w.heap.size w w' := by
  have hl' : (len : Int) ≤ 1048576 := by omega
  have HC1 : Hid (BlAt w b1 0 len h) := hc1
  have HC2 : Hid (BlAt w b2 0 len h) := hc2
  clear hc1 hc2
  go_enter Tryz.func111, Tryz.ntmps111
  go_wp2_with fail
  go_loopw [5] (fun i wr => ∃ k : Nat, k ≤ len ∧ i = .int .i64 k ∧ Below w.heap.size w wr) (fun i _ => len - (intOf i).toNat)
  case atStart => exact ⟨0, Nat.zero_le _, rfl, Below.refl _ _⟩
  case round =>
    obtain ⟨k, hk, rfl, hbw⟩ := hrel
    by_cases hlt : k < len
    · have c0 := HC1.out.below hbw hb1 k hlt
      have d0 := HC2.out.below hbw hb2 k hlt
      have hlt' : (k : Int) < (len : Int) := by omega
      rw [Nat.zero_add] at c0 d0
      go_wp2_with fail
      go_quiet (fail)
      go_wp2
      go_roundw
      case rel => exact ⟨k + 1, by omega, by go_num, below_drewN hbw _⟩
      case measure => simp [intOf]; omega
    · go_wp2
      go_ret
      exact ⟨rfl, hbw⟩

theorem Room1.of_b {w : World} {b len : Nat} {h : Nat → Bool} (hh : BlAt w b 0 len h) (hf : ∀ j, w.frozen? ⟨b, j, none⟩ = false) : Room1 w b len :=
  ⟨fun i hi => ⟨.bool (h i), by have := hh i hi; rw [Nat.zero_add] at this; exact this⟩, hf⟩

set_option maxRecDepth 100000 in
set_option maxHeartbeats 1000000 in
theorem markBoolS_anyZ (b len cap : Nat) (k : Int) (w : World) (hlen : len ≤ 1048576) (k0 : 0 ≤ k) (k1 : k ≤ 100000000) (h : Room1 w b len) :
    Calls Tryz.prog 121 #[.slice (some ⟨b, 0, none⟩) len cap, .int .i64 k] w fun e w' => e = .returned (.int .i64 (k + len)) ∧ w.grownBy w' (some b) := by
  have hl' : (len : Int) ≤ 1048576 := by omega
  have HO : Hid (Room1 w b len) := h
  clear h
  go_enter Tryz.func121, Tryz.ntmps121
  go_wp2_with fail
  go_loopw [1, 5] (fun q i wr => ∃ j : Nat, j ≤ len ∧ i = .int .i64 j ∧ q = .int .i64 (k + j) ∧ Hid (Room1 wr b len ∧ w.grownBy wr (some b))) (fun _ i _ => len - (intOf i).toNat)
  case atStart => exact ⟨0, Nat.zero_le _, rfl, by simp, HO.out, World.grownBy.refl _ _⟩
  case round =>
    clear HO
    obtain ⟨j, hj, rfl, rfl, HR⟩ := hrel
    by_cases hlt : j < len
    · have hlt' : (j : Int) < (len : Int) := by omega
      obtain ⟨u0, c0⟩ := HR.out.1.1 j hlt
      have fz := HR.out.1.2
      go_wp2
      go_roundw
      case rel =>
        refine ⟨j + 1, by omega, by go_num, by go_num, ?_⟩
        exact ⟨HR.out.1.set _ _, grown_setCell HR.out.2 (.inl rfl) _⟩
      case measure => simp [intOf]; omega
    · have hlt' : ¬ (j : Int) < (len : Int) := by omega
      have HF : Hid (w.grownBy wr (some b)) := HR.out.2
      have hjl : (j : Int) = len := by omega
      have HJ : Hid ((j : Int) = len) := hjl
      clear HR hjl
      go_wp2
      go_ret
      exact ⟨ret_int (by rw [HJ.out]), HF.out⟩

/-- A list of bools that came in: empty, or a row in memory. -/
theorem open_bRow {H : Type} {enc : TypeId × Value → H} {w : World} {spare : Nat → Bool} {held : Bool} {base : Nat} {a0 : Option Addr} {len cap : Nat} {d : DataW H} {p : List MemPlace}
    (h : DataW.Trod enc Tryz.prog w base spare held 36 (.slice a0 len cap) d p) :
    len ≤ maxLen ∧ (len = 0 ∨ ∃ b off h, a0 = some ⟨b, off, none⟩ ∧ b < w.heap.size ∧ BlAt w b off len h) := by
  obtain ⟨hm, f, hr, hf⟩ := open_rows Tryz.underlying36 (el := 4) (by kernel_rfl) h
  refine ⟨hm, ?_⟩
  rcases hr with h0 | ⟨b, off, e, hb, hc⟩
  · exact .inl h0
  right
  have hq : ∀ i, i < len → ∃ x : Bool, f i = .bool x := by
    intro i hi
    obtain ⟨m, x, hx⟩ := hf i hi
    obtain ⟨z0, e0, -⟩ := DataW.trod_bool Tryz.underlying4 hx
    simp only [List.cons.injEq, and_true] at e0
    exact ⟨z0, e0⟩
  have inh : Inhabited Bool := ⟨false⟩
  obtain ⟨g, hg⟩ := Go.Deep.choose_lt (α := Bool) hq
  exact ⟨b, off, g, e, hb, fun i hi => (hc i hi).trans (by rw [hg i hi])⟩

end Go.Proofs.YtdfhpimdgfemjaaGreatDoor

namespace Go.Proofs.YtdfhpimdgfemjaaGreatDoor
open Go.RowKit

theorem doS_len (g : Nat → I5) (len : Nat) (p : Int) (rs os : List Int) (code k q v : Int) (hr : rs.length ≤ 1048576) (ho : os.length ≤ 1048576) : (doS g len p rs os code k q v).rs.length ≤ 1048576 ∧ (doS g len p rs os code k q v).os.length ≤ 1048576 := by
  rcases Bool.eq_false_or_eq_true (doB g len p rs os code k q v) with hB | hB
  · obtain ⟨hp, hs, rfl⟩ := right_parts (doB_right hB)
    obtain ⟨⟨a1, a2, a3, a4, rfl, -⟩, -, h60, -⟩ := st_parts hs
    unfold doS
    rw [if_pos hB]
    unfold doneS
    repeat' split
    all_goals (simp [goS]; try omega)
  · unfold doS
    rw [if_neg (by rw [hB]; decide)]
    exact ⟨hr, ho⟩

/-- Nothing old has turned but the blocks from lo on, up to hi. -/
structure Tu (lo hi : Nat) (w w' : World) : Prop where
  os : w'.os = w.os
  tape : w'.tape = w.tape
  output : w'.output = w.output
  size : w.heap.size ≤ w'.heap.size
  block : ∀ k, k < w.heap.size → (k < lo ∨ hi ≤ k) → w'.heap[k]? = w.heap[k]?

theorem Tu.of_below {w w' : World} (h : Below w.heap.size w w') : Tu 0 0 w w' := ⟨h.os, h.tape, h.output, h.size, fun k hk _ => h.block k hk⟩
theorem Tu.of_row {w w' : World} {b : Nat} (h : w.grownBy w' (some b)) : Tu b (b + 1) w w' := ⟨h.os, h.tape, h.output, h.size, fun k hk hn => h.block k hk (by simp; omega)⟩
theorem Tu.of_marked {v : Value} {w w' : World} {lo hi : Nat} (h : Marked v w w') (hv : ∀ k, hasBlock v k → lo ≤ k ∧ k < hi) : Tu lo hi w w' :=
  ⟨h.os, h.tape, h.output, h.size, fun k hk hn => h.block k hk (fun e => by have := hv k e; omega)⟩
theorem Tu.below {lo hi B : Nat} {w w' : World} (h : Tu lo hi w w') (hB : B ≤ w.heap.size) (hl : B ≤ lo) : Below B w w' := ⟨h.os, h.tape, h.output, h.size, fun k hk => h.block k (by omega) (.inl (by omega))⟩

theorem OwnI.ofBlock {w w' : World} {B : Nat} {u : Value} {xs : List Int} (hu : OwnI w B u xs) (ha : ∀ k, u.ownBlock = some k → w'.heap[k]? = w.heap[k]?) : OwnI w' B u xs := by
  rcases hu.2 with ⟨rfl, h0⟩ | ⟨g, cap, cur, rfl, hb, hg, hr⟩
  · exact ⟨hu.1, .inl ⟨rfl, h0⟩⟩
  · refine ⟨hu.1, .inr ⟨g, cap, cur, rfl, hb, ?_, hr⟩⟩
    rw [ha g rfl]
    exact hg
theorem OwnI.slOf {w : World} {B n cap : Nat} {a0 : Option Addr} {xs : List Int} (h : OwnI w B (.slice a0 n cap) xs) : Sl w a0 xs := by
  obtain ⟨a1, c1, e, s⟩ := h.form
  simp only [Value.slice.injEq] at e
  obtain ⟨rfl, -, -⟩ := e
  exact s

/-- A state in block N, its lists rs and os in memory of their own, all from B on and below C. -/
structure Tl (w : World) (B C N : Nat) (p c : Int) (ra : Option Addr) (rn rc : Nat) (oa : Option Addr) (on oc : Nat) (rs os : List Int) : Prop where
  lo : B ≤ N
  hi : N < C
  sz : C ≤ w.heap.size
  box : BoxC w N (.int .i64 p) (.slice ra rn rc) (.slice oa on oc) (.int .i64 c)
  own : StOwn w B (stV p ra rn rc oa on oc c) p rs os c
  up : ∀ k, hasBlock (stV p ra rn rc oa on oc c) k → k < C
  ne : ¬ hasBlock (stV p ra rn rc oa on oc c) N

theorem Tl.tu {w w' : World} {B C N : Nat} {p c : Int} {ra : Option Addr} {rn rc : Nat} {oa : Option Addr} {on oc : Nat} {rs os : List Int} {lo hi : Nat} (h : Tl w B C N p c ra rn rc oa on oc rs os) (t : Tu lo hi w w') (hd : C ≤ lo ∨ hi ≤ B) : Tl w' B C N p c ra rn rc oa on oc rs os := by
  obtain ⟨h1, h2, h3, ⟨b0, b1, b2, b3⟩, h5, h6, h7⟩ := h
  have hb : ∀ k, B ≤ k → k < C → w'.heap[k]? = w.heap[k]? := fun k k1 k2 => t.block k (by omega) (by omega)
  have hN := hb N h1 h2
  refine ⟨h1, h2, Nat.le_trans h3 t.size, ⟨(World.cell?_of_block hN).trans b0, (World.cell?_of_block hN).trans b1, (World.cell?_of_block hN).trans b2, (World.cell?_of_block hN).trans b3⟩, ?_, h6, h7⟩
  obtain ⟨o1, o2, ha⟩ := h5.parts
  refine ⟨_, _, rfl, o1.ofBlock fun k hk => ?_, o2.ofBlock fun k hk => ?_, ha⟩
  · exact hb k (o1.lt k hk).1 (h6 k ((hasBlock_iff _ _ _ _ _).2 (.inl hk)))
  · exact hb k (o2.lt k hk).1 (h6 k ((hasBlock_iff _ _ _ _ _).2 (.inr hk)))
theorem Tl.below {w w' : World} {B C N : Nat} {p c : Int} {ra : Option Addr} {rn rc : Nat} {oa : Option Addr} {on oc : Nat} {rs os : List Int} (h : Tl w B C N p c ra rn rc oa on oc rs os) (hb : Below w.heap.size w w') : Tl w' B C N p c ra rn rc oa on oc rs os := h.tu (Tu.of_below hb) (.inr (Nat.zero_le _))
theorem Tl.sl {w : World} {B C N : Nat} {p c : Int} {ra : Option Addr} {rn rc : Nat} {oa : Option Addr} {on oc : Nat} {rs os : List Int} (h : Tl w B C N p c ra rn rc oa on oc rs os) : Sl w ra rs ∧ Sl w oa os := ⟨h.own.parts.1.slOf, h.own.parts.2.1.slOf⟩
theorem Tl.span {w : World} {B C N : Nat} {p c : Int} {ra : Option Addr} {rn rc : Nat} {oa : Option Addr} {on oc : Nat} {rs os : List Int} (h : Tl w B C N p c ra rn rc oa on oc rs os) : ∀ k, hasBlock (stV p ra rn rc oa on oc c) k → B ≤ k ∧ k < C := fun k hk => ⟨(h.own.lt hk).1, h.up k hk⟩
theorem Tl.marked {w w' : World} {B C N : Nat} {p c : Int} {ra : Option Addr} {rn rc : Nat} {oa : Option Addr} {on oc : Nat} {rs os rs' os' : List Int} (h : Tl w B C N p c ra rn rc oa on oc rs os) (ho : StOwn w' B (stV p ra rn rc oa on oc c) p rs' os' c) (hm : Marked (stV p ra rn rc oa on oc c) w w') : Tl w' B C N p c ra rn rc oa on oc rs' os' :=
  ⟨h.lo, h.hi, Nat.le_trans h.sz hm.size, h.box.marked hm h.ne, ho, h.up, h.ne⟩

theorem Tl.of_alloc {w : World} {B : Nat} {p c : Int} {ra oa : Option Addr} {rn rc on oc : Nat} {rs os : List Int} (h : StOwn w B (stV p ra rn rc oa on oc c) p rs os c) (hw : B ≤ w.heap.size) (t : TypeId) : Tl (w.alloc (.cells #[.int .i64 p, .slice ra rn rc, .slice oa on oc, .int .i64 c] t)) B (w.heap.size + 1) w.heap.size p c ra rn rc oa on oc rs os :=
  ⟨hw, Nat.lt_succ_self _, by simp, BoxC.new w _ _ _ _ _, h.below (below_alloc _ _), fun k hk => Nat.lt_succ_of_lt (h.lt hk).2, fun e => Nat.lt_irrefl _ (h.lt e).2⟩

/-- The state S stands in block N, its lists in memory of their own from B on. -/
def Told (w : World) (B N : Nat) (S : S4) : Prop := ∃ ra rc oa oc, BoxC w N (.int .i64 S.p) (.slice ra S.rs.length rc) (.slice oa S.os.length oc) (.int .i64 S.c) ∧ StOwn w B (stV S.p ra S.rs.length rc oa S.os.length oc S.c) S.p S.rs S.os S.c ∧ B ≤ N ∧ ¬ hasBlock (stV S.p ra S.rs.length rc oa S.os.length oc S.c) N
theorem Told.tl {w : World} {B N : Nat} {S : S4} (h : Told w B N S) : ∃ ra rc oa oc, Tl w B w.heap.size N S.p S.c ra S.rs.length rc oa S.os.length oc S.rs S.os := by
  obtain ⟨ra, rc, oa, oc, h1, h2, h3, h4⟩ := h
  exact ⟨ra, rc, oa, oc, h3, World.block_lt_of_cell? w _ h1.1, Nat.le_refl _, h1, h2, fun k hk => (h2.lt hk).2, h4⟩
theorem BoxC.set4 {w : World} {N : Nat} {z0 z1 z2 z3 : Value} (h : BoxC w N z0 z1 z2 z3) (a b c d : Value) : BoxC ((((w.setCell ⟨N, 0, none⟩ a).setCell ⟨N, 1, none⟩ b).setCell ⟨N, 2, none⟩ c).setCell ⟨N, 3, none⟩ d) N a b c d := by
  obtain ⟨h0, h1, h2, h3⟩ := h
  exact ⟨by go_cell, by go_cell, by go_cell, by go_cell⟩
theorem grown4 (w : World) (N : Nat) (a b c d : Value) : w.grownBy ((((w.setCell ⟨N, 0, none⟩ a).setCell ⟨N, 1, none⟩ b).setCell ⟨N, 2, none⟩ c).setCell ⟨N, 3, none⟩ d) (some N) := by
  repeat (refine grown_setCell ?_ (.inl rfl) _)
  exact World.grownBy.refl _ _
theorem Told.of_alloc {w : World} {B B' : Nat} {S : S4} {ra oa : Option Addr} {rc oc : Nat} (h : StOwn w B' (stV S.p ra S.rs.length rc oa S.os.length oc S.c) S.p S.rs S.os S.c) (hB : B ≤ B') (hw : B ≤ w.heap.size) (t : TypeId) : Told (w.alloc (.cells #[.int .i64 S.p, .slice ra S.rs.length rc, .slice oa S.os.length oc, .int .i64 S.c] t)) B w.heap.size S := by
  refine ⟨ra, rc, oa, oc, BoxC.new w _ _ _ _ _, ?_, hw, fun e => Nat.lt_irrefl _ (h.lt e).2⟩
  obtain ⟨vr, vo, e, o1, o2, ha⟩ := h
  exact ⟨vr, vo, e, (o1.below (below_alloc _ _)).mono hB, (o2.below (below_alloc _ _)).mono hB, ha⟩
theorem Told.of_put {w : World} {B B' N : Nat} {S : S4} {ra oa : Option Addr} {rc oc : Nat} {z0 z1 z2 z3 : Value} (h : StOwn w B' (stV S.p ra S.rs.length rc oa S.os.length oc S.c) S.p S.rs S.os S.c) (hB : B ≤ B') (hN : N < B') (hw : B ≤ N) (hZ : BoxC w N z0 z1 z2 z3) : Told ((((w.setCell ⟨N, 0, none⟩ (.int .i64 S.p)).setCell ⟨N, 1, none⟩ (.slice ra S.rs.length rc)).setCell ⟨N, 2, none⟩ (.slice oa S.os.length oc)).setCell ⟨N, 3, none⟩ (.int .i64 S.c)) B N S :=
  ⟨ra, rc, oa, oc, hZ.set4 _ _ _ _, h.put4 hN hB, hw, fun e => Nat.not_le_of_lt hN (h.lt e).1⟩

/-- The law's own state and event stand in their blocks, and nothing old has turned. -/
def Dx (w wr : World) (p code : Int) (ra : Option Addr) (rn rc : Nat) (oa : Option Addr) (on oc : Nat) (ek eq ev : Int) : Prop :=
  Below w.heap.size w wr ∧ BoxC wr w.heap.size (.int .i64 p) (.slice ra rn rc) (.slice oa on oc) (.int .i64 code) ∧ EvC3 wr (w.heap.size + 1) ek eq ev
theorem Dx.step {w wr wr' : World} {p code : Int} {ra : Option Addr} {rn rc : Nat} {oa : Option Addr} {on oc : Nat} {ek eq ev : Int} (h : Dx w wr p code ra rn rc oa on oc ek eq ev) (hb : Below wr.heap.size wr wr') : Dx w wr' p code ra rn rc oa on oc ek eq ev :=
  ⟨h.1.trans (hb.mono h.1.size), h.2.1.below hb, h.2.2.below hb⟩
theorem Dx.new (w : World) (p code : Int) (ra : Option Addr) (rn rc : Nat) (oa : Option Addr) (on oc : Nat) (ek eq ev : Int) (t u : TypeId) : Dx w ((w.alloc (.cells #[.int .i64 p, .slice ra rn rc, .slice oa on oc, .int .i64 code] t)).alloc (.cells #[.int .i64 ek, .int .i64 eq, .int .i64 ev] u)) p code ra rn rc oa on oc ek eq ev := by
  refine ⟨((Below.refl _ _).alloc (Nat.le_refl _) _).alloc (by simp) _, (BoxC.new w _ _ _ _ _).below (below_alloc _ _), ?_⟩
  have := EvC3.new (w.alloc (.cells #[.int .i64 p, .slice ra rn rc, .slice oa on oc, .int .i64 code] t)) ek eq ev u
  rw [World.size_alloc] at this
  exact this
theorem Dx.lt {w wr : World} {p code : Int} {ra : Option Addr} {rn rc : Nat} {oa : Option Addr} {on oc : Nat} {ek eq ev : Int} (h : Dx w wr p code ra rn rc oa on oc ek eq ev) : w.heap.size + 1 < wr.heap.size := World.block_lt_of_cell? wr _ h.2.2.1
theorem Dx.put {w wr : World} {p code : Int} {ra : Option Addr} {rn rc : Nat} {oa : Option Addr} {on oc : Nat} {ek eq ev : Int} (h : Dx w wr p code ra rn rc oa on oc ek eq ev) {N : Nat} (hN : w.heap.size + 1 < N) (a b c d : Value) : Dx w ((((wr.setCell ⟨N, 0, none⟩ a).setCell ⟨N, 1, none⟩ b).setCell ⟨N, 2, none⟩ c).setCell ⟨N, 3, none⟩ d) p code ra rn rc oa on oc ek eq ev := by
  have gz := grown4 wr N a b c d
  have hl := h.lt
  have e0 := gcell gz (b := w.heap.size) (by omega) (by simp; omega)
  have e1 := gcell gz (b := w.heap.size + 1) (by omega) (by simp; omega)
  obtain ⟨h1, ⟨c0, c1, c2, c3⟩, ⟨v0, v1, v2⟩⟩ := h
  exact ⟨h1.trans ⟨gz.os, gz.tape, gz.output, gz.size, fun k hk => gz.block k (by omega) (by simp; omega)⟩, ⟨(e0.1 0).trans c0, (e0.1 1).trans c1, (e0.1 2).trans c2, (e0.1 3).trans c3⟩, ⟨(e1.1 0).trans v0, (e1.1 1).trans v1, (e1.1 2).trans v2⟩⟩
theorem Dx.tu {w wr wr' : World} {p code : Int} {ra : Option Addr} {rn rc : Nat} {oa : Option Addr} {on oc : Nat} {ek eq ev : Int} {lo hi : Nat} (h : Dx w wr p code ra rn rc oa on oc ek eq ev) (t : Tu lo hi wr wr') (hl : w.heap.size + 2 ≤ lo) : Dx w wr' p code ra rn rc oa on oc ek eq ev := by
  have hlt := h.lt
  obtain ⟨h1, ⟨c0, c1, c2, c3⟩, ⟨v0, v1, v2⟩⟩ := h
  have e0 : wr'.heap[w.heap.size]? = wr.heap[w.heap.size]? := t.block _ (by omega) (.inl (by omega))
  have e1 : wr'.heap[w.heap.size + 1]? = wr.heap[w.heap.size + 1]? := t.block _ (by omega) (.inl (by omega))
  exact ⟨h1.trans (t.below h1.size (by omega)), ⟨(World.cell?_of_block e0).trans c0, (World.cell?_of_block e0).trans c1, (World.cell?_of_block e0).trans c2, (World.cell?_of_block e0).trans c3⟩, ⟨(World.cell?_of_block e1).trans v0, (World.cell?_of_block e1).trans v1, (World.cell?_of_block e1).trans v2⟩⟩

end Go.Proofs.YtdfhpimdgfemjaaGreatDoor

namespace Go.Proofs.YtdfhpimdgfemjaaGreatDoor
open Go.RowKit

/-- The slice v is n events in a block of its own, from block B on. -/
def LstE (w : World) (B : Nat) (v : Value) (n : Nat) : Prop := ∃ xs, w.ownsRow B 112 3 v n xs ∧ xs.all isI = true ∧ v ≠ .slice none 0 0

theorem LstE.ofBlock {w w' : World} {B n : Nat} {v : Value} (h : LstE w B v n) (ha : ∀ k, v.ownBlock = some k → w'.heap[k]? = w.heap[k]?) : LstE w' B v n := by
  obtain ⟨xs, ho, hx⟩ := h
  refine ⟨xs, ?_, hx⟩
  rcases ho.2 with ⟨rfl, h0⟩ | ⟨g, cap, cur, rfl, hb, hg, hr⟩
  · exact ⟨ho.1, .inl ⟨rfl, h0⟩⟩
  · refine ⟨ho.1, .inr ⟨g, cap, cur, rfl, hb, ?_, hr⟩⟩
    rw [ha g rfl]
    exact hg
theorem LstE.mono {w : World} {B B' n : Nat} {v : Value} (h : LstE w B v n) (hb : B' ≤ B) : LstE w B' v n := by
  obtain ⟨xs, ho, hx⟩ := h
  exact ⟨xs, ho.mono hb, hx⟩
theorem LstE.lt {w : World} {B n : Nat} {v : Value} (h : LstE w B v n) : ∀ j, v.ownBlock = some j → B ≤ j ∧ j < w.heap.size := by
  obtain ⟨xs, ho, hx⟩ := h
  exact fun j hj => ho.lt j hj
theorem LstE.kept {w w' : World} {B n : Nat} {v : Value} {row : Option Nat} (h : LstE w B v n) (hg : w.grownBy w' row) (hr : ∀ k, row = some k → v.ownBlock ≠ some k) : LstE w' B v n :=
  h.ofBlock fun k hk => hg.block k (h.lt k hk).2 (fun e => hr k e.symm hk)
theorem LstE.below {w w' : World} {B n : Nat} {v : Value} (h : LstE w B v n) (hb : Below w.heap.size w w') : LstE w' B v n := h.ofBlock fun k hk => hb.block k (h.lt k hk).2
theorem LstE.empty (w : World) : LstE (w.alloc (.cells #[] 112)) w.heap.size (.slice (some ⟨w.heap.size, 0, none⟩) 0 0) 0 :=
  ⟨[], World.ownsRow_lit w #[] 0 (Nat.le_refl _) (by unfold maxLen; omega) rfl, rfl, by simp⟩
theorem LstE.form {w : World} {B n : Nat} {v : Value} (h : LstE w B v n) : ∃ g cap, v = .slice (some ⟨g, 0, none⟩) n cap ∧ B ≤ g ∧ g < w.heap.size := by
  obtain ⟨xs, ho, hx, hv⟩ := h
  rcases ho.2 with ⟨h0, _⟩ | ⟨g, cap, cur, rfl, hb, _⟩
  · exact absurd h0 hv
  · exact ⟨g, cap, rfl, hb, (ho.lt g rfl).2⟩
theorem LstE.at {w : World} {B n g cap : Nat} (h : LstE w B (.slice (some ⟨g, 0, none⟩) n cap) n) : ∃ G, EvAt w g 0 n G := by
  obtain ⟨xs, ho, hx, -⟩ := h
  have hall := List.all_eq_true.1 hx
  have key : ∀ j, j < n * 3 → ∃ x : Int, w.cell? ⟨g, j, none⟩ = some (.int .i64 x) := by
    intro j hj
    have hl : j < xs.length := by rw [ho.1]; exact hj
    obtain ⟨x, hxx⟩ := isI_int (hall xs[j] (List.getElem_mem hl))
    exact ⟨x, by rw [ho.cellAt j hj, List.getElem?_eq_getElem hl, hxx]⟩
  have inh : Inhabited Int := ⟨0⟩
  obtain ⟨f, hf⟩ := Go.Deep.choose_lt (α := Int) key
  refine ⟨fun i => ⟨f (i * 3), f (i * 3 + 1), f (i * 3 + 2)⟩, fun i hi => ?_⟩
  simp only [Nat.zero_add]
  exact ⟨hf _ (by omega), hf _ (by omega), hf _ (by omega)⟩

theorem info_ev : ∃ i, Tryz.prog.info? 112 = some i ∧ i.zero = some (evV 0 0 0) ∧ i.size = 3 ∧ i.bytes = 24 := by
  have hinfo := infoEv
  cases hi : Tryz.prog.info? 112 with
  | none => rw [hi] at hinfo; cases hinfo
  | some i =>
    rw [hi] at hinfo
    simp only [Option.map_some, Option.some.injEq, Prod.mk.injEq] at hinfo
    exact ⟨i, rfl, hinfo⟩
theorem cell_three_new (w : World) (a b c : Value) (t : TypeId) : ∀ j u, [a, b, c][j]? = some u → (w.alloc (.cells #[a, b, c] t)).cell? ((⟨w.heap.size, 0, none⟩ : Addr).add j) = some u := by
  intro j u hj
  match j, hj with
  | 0, hj => simp at hj; subst hj; simp [Addr.add]
  | 1, hj => simp at hj; subst hj; simp [Addr.add]
  | 2, hj => simp at hj; subst hj; simp [Addr.add]
  | j + 3, hj => simp at hj

/-- One event is appended to a list of the draw's own. -/
theorem append_evt {ops : Array Oper} {rest : List Oper} {op : Oper} {act : Act} {Q : Exit → Act → World → Prop} (w : World) (hgd : op.guard = none) (s x : Operand)
    (ho : op.op = .call { callee := .builtin .append, args := #[s, x], argTypes := #[84, 84] })
    (B : Nat) (v : Value) (n : Nat) (hs : act.eval s = v) (hl : LstE w B v n) (k q y : Int) (hx : act.eval x = .slice (some ⟨w.heap.size, 0, none⟩) 1 1) (hn : n ≤ 1000) (hB : B ≤ w.heap.size)
    (h : ∀ v' w', LstE w' B v' (n + 1) → w.grownBy w' v.ownBlock → (∀ j, v'.ownBlock = some j → v.ownBlock = some j ∨ w.heap.size ≤ j) → wpList Tryz.prog ops Q rest (act.put op.dst v') w') :
    wpList Tryz.prog ops Q (op :: rest) act (w.alloc (.cells #[.int .i64 k, .int .i64 q, .int .i64 y] 112)) := by
  obtain ⟨i0, hi, hz0, hz1, hz2⟩ := info_ev
  obtain ⟨xs, how, hxs, hvn⟩ := hl
  have hb : Below w.heap.size w (w.alloc (.cells #[.int .i64 k, .int .i64 q, .int .i64 y] 112)) := below_alloc _ _
  obtain ⟨v', w', h1, h2, h3, h4, h5⟩ := run_append_own_at (P := Tryz.prog) (w.alloc (.cells #[.int .i64 k, .int .i64 q, .int .i64 y] 112)) B 84 op.type 112 i0 (evV 0 0 0) 3 24 Tryz.underlying84 hi hz0 hz1 hz2 rfl (by decide) v n xs (how.alloc _) ⟨w.heap.size, 0, none⟩ 1 1 [.int .i64 k, .int .i64 q, .int .i64 y] rfl (cell_three_new _ _ _ _ _) (fun u hu => by
    simp at hu
    rcases hu with rfl | rfl | rfl <;> rfl) (by unfold maxLen; omega) (by omega) (by simp; omega)
  refine wpList_plain hgd fun K hK => ?_
  unfold Oper.wp execOp
  simp only [ho, resolve, invoke, builtin, Sem.run_bind, Sem.run_pure, Result.andThen_ok, List.map_toArray, List.map_cons, List.map_nil, hs, hx, h1]
  refine hK _ _ (h v' w' ⟨_, h2, ?_, fun e => hvn (h4.1 e).1⟩ ⟨h3.os, h3.tape, h3.output, Nat.le_trans hb.size h3.size, fun j hj hne => (h3.block j (Nat.lt_of_lt_of_le hj hb.size) hne).trans (hb.block j hj)⟩ fun j hj => ?_)
  · rw [List.all_append, hxs]
    rfl
  · rcases h5 with a | a
    · exact .inl (a.symm.trans hj)
    · rw [hj] at a
      simp only [Option.some.injEq] at a
      right
      rw [a]
      simp

set_option maxRecDepth 100000 in
set_option maxHeartbeats 1000000 in
theorem specStateNew_any (w : World) :
    Calls Tryz.prog 213 #[] w fun e w' => ∃ v, e = .returned v ∧ StOwn w' w.heap.size v 0 [0, 0, 0, 0] [] 0 ∧ Below w.heap.size w w' := by
  have hmk : ∀ w : World, (Instr.makeSlice 35 (.int .i64 4) (.int .i64 4)).run Tryz.prog w = .ok (.slice (some ⟨w.heap.size, 0, none⟩) 4 4) (w.alloc (.cells (madeCells #[.int .i64 0] 4) 3)) := fun w => run_make_int 4 (by omega) w
  have HM : Hid (∀ w : World, OwnI (w.alloc (.cells (madeCells #[.int .i64 0] 4) 3)) w.heap.size (.slice (some ⟨w.heap.size, 0, none⟩) 4 4) [0, 0, 0, 0]) := fun w => made_own w 4 (by omega)
  go_enter Tryz.func213, Tryz.ntmps213
  go_wp2
  have hB : w.heap.size ≤ w.heap.size + 1 := by omega
  have hM := HM.out (w.alloc (.cells #[.int .i64 0, .slice (some ⟨w.heap.size + 1, 0, none⟩) 4 4, .slice none 0 0, .int .i64 0] 128))
  rw [World.size_alloc] at hM
  refine bodyPost_ret (v := stV 0 (some ⟨w.heap.size + 1, 0, none⟩) 4 4 none 0 0 0) (by simp [results, Tryz.results213, go_sem]) rfl ⟨_, rfl, ⟨_, _, rfl, hM.mono hB, World.ownsRow_nil _ _ _ _, fun k _ => by simp [Value.ownBlock]⟩, by go_grown⟩

end Go.Proofs.YtdfhpimdgfemjaaGreatDoor

namespace Go.Proofs.YtdfhpimdgfemjaaGreatDoor
open Go.RowKit Go.Deep

theorem valL_length (eh : Nat → E3) (kd pr : Int) (n : Nat) : (valL eh kd pr n).length = (plN eh kd pr n).length := by simp [valL]
theorem plI_length (eh : Nat → E3) (kd pr : Int) (n : Nat) : (plI eh kd pr n).length = (plN eh kd pr n).length := by simp [plI]
theorem zi_append {xs ys : List Int} {i : Nat} (h : i < xs.length) : zi (xs ++ ys) i = zi xs i := by
  unfold zi
  rw [List.getD_eq_getElem?_getD, List.getD_eq_getElem?_getD, List.getElem?_append_left h]
theorem zi_end (xs : List Int) (y : Int) : zi (xs ++ [y]) xs.length = y := by
  unfold zi
  rw [List.getD_eq_getElem?_getD, List.getElem?_append_right (Nat.le_refl _)]
  simp
def nthV (eh : Nat → E3) (kd pr : Int) (len : Nat) (n : Int) : Int := if belB n ((plI eh kd pr len).length : Nat) = true then zi (plI eh kd pr len) n.toNat else -1

theorem plI_at (eh : Nat → E3) (kd pr : Int) (k : Nat) (hh : hitB eh kd pr k = true) : ∀ d, zi (plI eh kd pr (k + 1 + d)) (plI eh kd pr k).length = k ∧ (plI eh kd pr k).length < (plI eh kd pr (k + 1 + d)).length
  | 0 => by
    rw [Nat.add_zero, plI_hit hh]
    exact ⟨zi_end _ _, by simp⟩
  | d + 1 => by
    obtain ⟨h1, h2⟩ := plI_at eh kd pr k hh d
    rw [← Nat.add_assoc]
    rcases Bool.eq_false_or_eq_true (hitB eh kd pr (k + 1 + d)) with h | h
    · rw [plI_hit h, zi_append h2]
      exact ⟨h1, by simp; omega⟩
    · rw [plI_not h]
      exact ⟨h1, h2⟩

theorem nthV_hit {eh : Nat → E3} {kd pr : Int} {k len : Nat} {n : Int} (hk : k < len) (hh : hitB eh kd pr k = true) (hn : n = (plI eh kd pr k).length) : nthV eh kd pr len n = k := by
  obtain ⟨d, rfl⟩ : ∃ d, len = k + 1 + d := ⟨len - k - 1, by omega⟩
  obtain ⟨h1, h2⟩ := plI_at eh kd pr k hh d
  subst hn
  unfold nthV
  rw [if_pos (by simp [belB]; omega), Int.toNat_natCast, h1]

/-- What stands at number j among the places is a place. -/
theorem plN_mem (eh : Nat → E3) (kd pr : Int) : ∀ n, ∀ q ∈ plN eh kd pr n, q < n
  | 0, q, h => by simp [plN] at h
  | n + 1, q, h => by
    unfold plN at h
    split at h
    · simp at h
      rcases h with h | h
      · have := plN_mem eh kd pr n q h
        omega
      · omega
    · have := plN_mem eh kd pr n q h
      omega
theorem plI_place (eh : Nat → E3) (kd pr : Int) (len j : Nat) (hj : j < (plI eh kd pr len).length) : ∃ q : Nat, zi (plI eh kd pr len) j = (q : Int) ∧ q < len ∧ (plN eh kd pr len)[j]? = some q := by
  have hj' : j < (plN eh kd pr len).length := by rw [plI_length] at hj; exact hj
  refine ⟨(plN eh kd pr len)[j], ?_, plN_mem eh kd pr len _ (List.getElem_mem hj'), List.getElem?_eq_getElem hj'⟩
  unfold zi plI
  rw [List.getD_eq_getElem?_getD, List.getElem?_map, List.getElem?_eq_getElem hj']
  rfl

set_option maxRecDepth 100000 in
set_option maxHeartbeats 1000000 in
theorem specCount_any (b off len cap : Nat) (eh : Nat → E3) (kd pr : Int) (w : World) (hlen : len ≤ 1048576) (hb : b < w.heap.size) (hc : EvAt w b off len eh) :
    Calls Tryz.prog 164 #[.slice (some ⟨b, off, none⟩) len cap, .int .i64 kd, .int .i64 pr] w fun e w' => e = .returned (.int .i64 ((plN eh kd pr len).length : Nat)) ∧ Below w.heap.size w w' := by
  have HC : Hid (EvAt w b off len eh) := hc
  clear hc
  go_enter Tryz.func164, Tryz.ntmps164
  go_wp2_with fail
  refine (specValues_any b off len cap eh kd pr w hlen hb HC.out).mono ?_
  rintro e w1 ⟨v, rfl, o1, b1⟩
  obtain ⟨a0, cp, rfl, -⟩ := o1.form
  rw [valL_length]
  go_wp2
  go_ret
  exact ⟨rfl, b1⟩

theorem append_far {ops : Array Oper} {rest : List Oper} {op : Oper} {act : Act} {Q : Exit → Act → World → Prop} (w : World) (hgd : op.guard = none) (s x : Operand)
    (ho : op.op = .call { callee := .builtin .append, args := #[s, x], argTypes := #[35, 35] })
    (B : Nat) (v : Value) (xs : List Int) (hs : act.eval s = v) (hv : OwnI w B v xs) (y : Int) (hx : act.eval x = .slice (some ⟨w.heap.size, 0, none⟩) 1 1) (hn : xs.length ≤ 1048576) (hB : B ≤ w.heap.size)
    (h : ∀ v' w', OwnI w' B v' (xs ++ [y]) → w.grownBy w' v.ownBlock → (∀ j, v'.ownBlock = some j → v.ownBlock = some j ∨ w.heap.size ≤ j) → wpList Tryz.prog ops Q rest (act.put op.dst v') w') :
    wpList Tryz.prog ops Q (op :: rest) act (w.alloc (.cells #[.int .i64 y] 3)) := by
  have hb : Below w.heap.size w (w.alloc (.cells #[.int .i64 y] 3)) := (Below.refl _ _).alloc (Nat.le_refl _) _
  refine wpList_append_ints _ hgd s x ho B 1 v (some ⟨w.heap.size, 0, none⟩) xs [y] hs hx (hv.below hb) (.inr ⟨w.heap.size, 0, rfl, by simp, fun i hi => ?_⟩) (by simp; omega) (by simp; omega) ?_
  · have : i = 0 := by simp at hi; omega
    subst this
    exact new_cell _ _ _ 0 rfl
  · intro v' w' o g a
    refine h v' w' o ⟨g.os, g.tape, g.output, Nat.le_trans hb.size g.size, fun k hk hne => (g.block k (Nat.lt_of_lt_of_le hk hb.size) hne).trans (hb.block k hk)⟩ fun j hj => ?_
    rcases a with a | a
    · exact .inl (a.symm.trans hj)
    · rw [hj] at a
      simp only [Option.some.injEq] at a
      right
      rw [a]
      simp

/-- What is appended to stands apart from what was made between w and w1. -/
def Away (w w1 wr : World) (o : Value) : Prop := (∀ j, o.ownBlock = some j → j = w.heap.size ∨ w1.heap.size ≤ j) ∧ (∀ j, w.heap.size < j → j < w1.heap.size → wr.heap[j]? = w1.heap[j]?) ∧ w1.heap.size ≤ wr.heap.size
theorem Away.step {w w1 wr w4 : World} {o v' : Value} (h : Away w w1 wr o) (g : wr.grownBy w4 o.ownBlock) (a : ∀ j, v'.ownBlock = some j → o.ownBlock = some j ∨ wr.heap.size ≤ j) : Away w w1 w4 v' := by
  obtain ⟨h1, h2, h3⟩ := h
  refine ⟨fun j hj => ?_, fun j p1 p2 => ?_, Nat.le_trans h3 g.size⟩
  · rcases a j hj with a | a
    · exact h1 j a
    · right; omega
  · rw [g.block j (by omega) (fun e => ?_), h2 j p1 p2]
    rcases h1 j e.symm with e | e <;> omega
theorem Away.sl {w w1 wr : World} {o : Value} (h : Away w w1 wr o) {B cp : Nat} {a0 : Option Addr} {xs : List Int} (hB : w.heap.size < B) (hO : OwnI w1 B (.slice a0 xs.length cp) xs) : Sl wr a0 xs := by
  by_cases hx : 0 < xs.length
  · obtain ⟨g, cap, e, hg, hl⟩ := hO.block hx
    simp only [Value.slice.injEq] at e
    obtain ⟨rfl, -, rfl⟩ := e
    refine .inr ⟨g, 0, rfl, Nat.lt_of_lt_of_le hl h.2.2, fun i hi => ?_⟩
    rw [Nat.zero_add, World.cell?_of_block (h.2.1 g (by omega) hl)]
    exact hO.cell hi
  · exact .inl (List.eq_nil_of_length_eq_zero (by omega))

/-- The numbers of the first j of these events. -/
def valT (eh : Nat → E3) (kd pr : Int) (len j : Nat) : List Int := ((plN eh kd pr len).take j).map fun i => (eh i).v
theorem valT_le (eh : Nat → E3) (kd pr : Int) (len j : Nat) : (valT eh kd pr len j).length ≤ j := by simp [valT]; omega
theorem valT_all (eh : Nat → E3) (kd pr : Int) (len : Nat) : valT eh kd pr len (plI eh kd pr len).length = valL eh kd pr len := by
  unfold valT valL
  rw [plI_length, List.take_length]
theorem valT_next {eh : Nat → E3} {kd pr : Int} {len j q : Nat} (h : (plN eh kd pr len)[j]? = some q) : valT eh kd pr len (j + 1) = valT eh kd pr len j ++ [(eh q).v] := by
  unfold valT
  rw [List.take_add_one, h, List.map_append]
  rfl

set_option maxRecDepth 100000 in
set_option maxHeartbeats 1000000 in
theorem implValues_any (b off len cap : Nat) (eh : Nat → E3) (kd pr : Int) (w : World) (hlen : len ≤ 1048576) (hb : b < w.heap.size) (hc : EvAt w b off len eh) :
    Calls Tryz.prog 218 #[.slice (some ⟨b, off, none⟩) len cap, .int .i64 kd, .int .i64 pr] w fun e w' => ∃ v, e = .returned v ∧ OwnI w' w.heap.size v (valL eh kd pr len) ∧ Below w.heap.size w w' := by
  have hl' : (len : Int) ≤ 1048576 := by omega
  have HC : Hid (EvAt w b off len eh) := hc
  clear hc
  have hpl := plI_le eh kd pr len
  go_enter Tryz.func218, Tryz.ntmps218
  go_wp2_with fail
  refine (placesOf_any b off len cap eh kd pr _ hlen (by simp; omega) (HC.out.below (by go_grown) hb)).mono ?_
  rintro e w1 ⟨v, rfl, o1, b1⟩
  have B1 : Hid (Below w.heap.size w w1) := below_up (by go_grown) b1 (by simp)
  obtain ⟨a0, cp, rfl, -⟩ := o1.form
  have HS : Hid (OwnI w1 (w.heap.size + 1) (.slice a0 (plI eh kd pr len).length cp) (plI eh kd pr len)) := by
    rw [World.size_alloc] at o1
    exact o1
  clear o1
  go_wp2_with fail
  have HO : Hid (OwnI w1 w.heap.size (.slice (some ⟨w.heap.size, 0, none⟩) 0 0) []) := (own_empty w).below b1
  clear b1
  go_loopw [7, 16] (fun o i wr => ∃ k : Nat, k ≤ (plI eh kd pr len).length ∧ i = .int .i64 k ∧ Hid (OwnI wr w.heap.size o (valT eh kd pr len k)) ∧ Below w.heap.size w wr ∧ Hid (Away w w1 wr o)) (fun _ i _ => (plI eh kd pr len).length - (intOf i).toNat)
  case atStart => exact ⟨0, Nat.zero_le _, rfl, HO.out, B1.out, ⟨fun j hj => by simp [Value.ownBlock] at hj; exact .inl hj.symm, fun _ _ _ => rfl, Nat.le_refl _⟩⟩
  case round =>
    clear HO B1
    obtain ⟨k, hk, rfl, HO, hbw, HA⟩ := hrel
    have hs := hbw.size
    by_cases hlt : k < (plI eh kd pr len).length
    · have hlt' : (k : Int) < ((plI eh kd pr len).length : Int) := by omega
      obtain ⟨b0, o0, e0, hb0, hcell⟩ := (HA.out.sl (Nat.lt_succ_self _) HS.out).at hlt
      obtain ⟨q, hq, hql, hqe⟩ := plI_place eh kd pr len k hlt
      have hql' : (q : Int) < (len : Int) := by omega
      rw [hq] at hcell
      subst e0
      have hvl := valT_le eh kd pr len k
      have HH : Hid (valT eh kd pr len (k + 1) = valT eh kd pr len k ++ [(eh q).v]) := valT_next hqe
      obtain ⟨c0, c1, c2⟩ := HC.out.below hbw hb q hql
      clear hq hqe
      go_wp2_with (at_builtin; refine append_far wr rfl _ _ rfl w.heap.size u7 (valT eh kd pr len k) rfl HO.out (eh q).v rfl (by omega) hs ?_; intro v' w4 o4 g4 a4; have A4 : Hid (Away w w1 w4 v') := HA.out.step g4 a4; have b4 : Below w.heap.size wr w4 := ⟨g4.os, g4.tape, g4.output, g4.size, fun j hj => g4.block j (Nat.lt_of_lt_of_le hj hs) (fun e => Nat.not_le_of_lt hj (HO.out.lt j e.symm).1)⟩; have H4 : Hid (OwnI w4 w.heap.size v' (valT eh kd pr len (k + 1))) := o4.to HH.out; clear o4 g4 a4)
      go_roundw
      case rel => exact ⟨k + 1, by omega, by go_num, H4.out, hbw.trans b4, A4.out⟩
      case measure => simp [intOf]; omega
    · have hkl : k = (plI eh kd pr len).length := by omega
      have H4 : Hid (OwnI wr w.heap.size u7 (valL eh kd pr len)) := by
        have := HO.out
        rw [hkl, valT_all] at this
        exact this
      clear HO hkl
      go_wp2
      go_ret
      exact ⟨_, rfl, H4.out, hbw⟩

end Go.Proofs.YtdfhpimdgfemjaaGreatDoor
