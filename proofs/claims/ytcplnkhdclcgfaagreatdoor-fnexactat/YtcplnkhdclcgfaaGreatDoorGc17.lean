/- A region that draws its order, whose last operations write what others of it read: what is read may be taken first, so long as all that writes it waits for that. -/
import Derived.Test.YtcplnkhdclcgfaaGreatDoorGc0
import Derived.Test.YtcplnkhdclcgfaaGreatDoorGc15
import Derived.Test.YtcplnkhdclcgfaaGreatDoorGc11
import Derived.Test.YtcplnkhdclcgfaaGreatDoorGc13
import Derived.Test.YtcplnkhdclcgfaaGreatDoorGc16
import Derived.Deep.RegionWith
import Derived.Maps.AppendAt
import Derived.OneCell
import Derived.Test.YtcplnkhdclcgfaaGreatDoorRows
import Derived.OrdersHeld
import Derived.Deep.RegionHeld3
namespace Go.Proofs.YtcplnkhdclcgfaaGreatDoor
set_option maxRecDepth 100000
set_option maxHeartbeats 2000000
open Go.ChangeShapes Go.WideShapes Go.ChangeAt Go.RowKit Go.Deep
structure E3 where
 k : Int
 q : Int
 v : Int
def EvAt (w : World) (b off len : Nat) (h : Nat → E3) : Prop := ∀ i, i < len →
 w.cell? ⟨b, off + i * 3, none⟩ = some (.int .i64 (h i).k) ∧ w.cell? ⟨b, off + i * 3 + 1, none⟩ = some (.int .i64 (h i).q) ∧ w.cell? ⟨b, off + i * 3 + 2, none⟩ = some (.int .i64 (h i).v)
theorem EvAt.below {w w' : World} {B b off len : Nat} {h : Nat → E3} (hh : EvAt w b off len h) (hb : Below B w w') (hB : b < B) : EvAt w' b off len h := by
 intro i hi
 obtain ⟨h0, h1, h2⟩ := hh i hi
 exact ⟨(hb.cell hB).trans h0, (hb.cell hB).trans h1, (hb.cell hB).trans h2⟩
theorem infoEv : (Tryz.prog.info? 71).map (fun i => (i.zero, i.size, i.bytes)) = some (some (evV 0 0 0), 3, 24) := by kernel_rfl
theorem run_make_ev (n : Nat) (hn : n ≤ 1048576) (w : World) :
  (Instr.makeSlice 35 (.int .i64 (n : Int)) (.int .i64 (n : Int))).run Tryz.prog w = .ok (.slice (some ⟨w.heap.size, 0, none⟩) n n) (w.alloc (.cells (madeCells (evV 0 0 0).cells (n * 3)) 71)) := by
 have hinfo := infoEv
 cases hi : Tryz.prog.info? 71 with
 | none => rw [hi] at hinfo; cases hinfo
 | some i =>
  rw [hi] at hinfo
  simp only [Option.map_some, Option.some.injEq, Prod.mk.injEq] at hinfo
  obtain ⟨hz, hs, hb⟩ := hinfo
  have h := run_make (P := Tryz.prog) w 35 71 i _ Tryz.underlying35 hi hz .i64 .i64 (n : Int) (n : Int) (by omega) (Int.le_refl _) (by rw [hb]; omega) (by omega)
  rw [hs] at h
  simpa using h
theorem madeEv_row (w : World) (n : Nat) : (w.alloc (.cells (madeCells (evV 0 0 0).cells (n * 3)) 71)).rowIs w.heap.size 71 (n * 3) (fun _ => .int .i64 0) := by
 refine ⟨_, blk_alloc_new _ _, size_madeCells _ _, fun i hi => ?_⟩
 have h3 : i % 3 < 3 := Nat.mod_lt _ (by omega)
 have : ∀ j, j < 3 → (#[Value.int .i64 0, .int .i64 0, .int .i64 0] : Array Value)[j]! = .int .i64 0 := by
  intro j hj
  match j, hj with
  | 0, _ => rfl
  | 1, _ => rfl
  | 2, _ => rfl
 simp only [madeCells, Value.cells]
 rw [Array.getElem?_map, Array.getElem?_range, if_pos hi]
 exact congrArg some (this (i % 3) h3)
def FilledE (f : Nat → Value) (h : Nat → E3) (k : Nat) : Prop := ∀ i, i < k →
 f (i * 3) = .int .i64 (h i).k ∧ f (i * 3 + 1) = .int .i64 (h i).q ∧ f (i * 3 + 2) = .int .i64 (h i).v
theorem FilledE.at {w : World} {b : Nat} {t : TypeId} {len k : Nat} {f : Nat → Value} {h : Nat → E3} (hh : FilledE f h k) (hr : w.rowIs b t (len * 3) f) (hk : k ≤ len) : EvAt w b 0 k h := by
 intro i hi
 obtain ⟨h0, h1, h2⟩ := hh i hi
 refine ⟨?_, ?_, ?_⟩
 ·rw [hr.cell (by omega), Nat.zero_add, h0]
 ·rw [hr.cell (by omega), Nat.zero_add, h1]
 ·rw [hr.cell (by omega), Nat.zero_add, h2]
theorem FilledE.step {w : World} {b : Nat} {t : TypeId} {len k : Nat} {f : Nat → Value} {h : Nat → E3} (hr : w.rowIs b t (len * 3) f) (hh : FilledE f h k) :
  ∃ f', (((w.setCell ⟨b, k * 3, none⟩ (.int .i64 (h k).k)).setCell ⟨b, k * 3 + 1, none⟩ (.int .i64 (h k).q)).setCell ⟨b, k * 3 + 2, none⟩ (.int .i64 (h k).v)).rowIs b t (len * 3) f' ∧ FilledE f' h (k + 1) := by
 refine ⟨_, ((hr.set _ _).set _ _).set _ _, fun i hi => ?_⟩
 by_cases hik : i = k
 ·subst hik
  simp
 ·have hlt : i < k := by omega
  obtain ⟨h0, h1, h2⟩ := hh i hlt
  refine ⟨?_, ?_, ?_⟩
  ·rw [if_neg (by omega), if_neg (by omega), if_neg (by omega)]; exact h0
  ·rw [if_neg (by omega), if_neg (by omega), if_neg (by omega)]; exact h1
  ·rw [if_neg (by omega), if_neg (by omega), if_neg (by omega)]; exact h2
theorem szEventS_small (a0 : Option Addr) (len cap : Nat) (L : Int) (w : World) (h : (len : Int) ≤ L) (hL : L ≤ 1048576) :
  Calls Tryz.prog 137 #[.slice a0 len cap, .int .i64 L] w fun e w' => e = .returned (.int .i64 (L - (len : Int))) ∧ w' = w := by
 have h1 : (len : Int) ≤ 1048576 := by omega
 have h2 : 0 ≤ L := by omega
 have h3 : ¬ (L - (len : Int) < 0) := by omega
 go_enter Tryz.func137, Tryz.ntmps137
 go_wp2
 go_ret
 exact ⟨rfl, rfl⟩
theorem szEventS_great (a0 : Option Addr) (len cap : Nat) (L : Int) (w : World) (h : L < (len : Int)) (h0 : 0 ≤ L) (hL : L ≤ 1048576) (hm : len ≤ maxLen) :
  Calls Tryz.prog 137 #[.slice a0 len cap, .int .i64 L] w fun e w' => e = .returned (.int .i64 (-1)) ∧ w' = w := by
 unfold maxLen at hm
 have h2 : (len : Int) ≤ 9223372036854775807 := by omega
 have h3 : L - (len : Int) < 0 := by omega
 go_enter Tryz.func137, Tryz.ntmps137
 go_wp2
 go_ret
 exact ⟨rfl, rfl⟩
theorem toEventS_free (b off len cap : Nat) (h : Nat → E3) (w : World) (hlen : len ≤ 1048576) (hb : b < w.heap.size) (hc : EvAt w b off len h) :
  Calls Tryz.prog 144 #[.slice (some ⟨b, off, none⟩) len cap] w fun e w' => e = .returned (.slice (some ⟨w.heap.size, 0, none⟩) len len) ∧ EvAt w' w.heap.size 0 len h ∧ w.heap.size < w'.heap.size ∧ Below w.heap.size w w' ∧ ∀ j, w'.frozen? ⟨w.heap.size, j, none⟩ = false := by
 have hl' : (len : Int) ≤ 1048576 := by omega
 have hmk := run_make_ev len hlen
 have HC : Hid (EvAt w b off len h) := hc
 clear hc
 go_enter Tryz.func144, Tryz.ntmps144
 go_wp2_with fail
 clear hmk
 go_loopw [4] (fun i wr => ∃ k : Nat, k ≤ len ∧ i = .int .i64 k ∧ (∃ f, wr.rowIs w.heap.size 71 (len * 3) f ∧ Hid (FilledE f h k)) ∧ Below w.heap.size w wr) (fun i _ => len - (intOf i).toNat)
 case atStart => exact ⟨0, Nat.zero_le _, rfl, ⟨_, madeEv_row w len, fun i hi => by omega⟩, (Below.refl _ _).alloc (Nat.le_refl _) _⟩
 case round =>
  obtain ⟨k, hk, rfl, ⟨f, hrow, HF⟩, hbw⟩ := hrel
  have hs := hrow.lt
  by_cases hlt : k < len
  ·obtain ⟨c0, c1, c2⟩ := HC.out.below hbw hb k hlt
   have HR : Hid (wr.rowIs w.heap.size 71 (len * 3) f) := hrow
   clear hrow
   go_wp2_with fail
   refine (toEvent_any _ _ _ _).mono ?_
   rintro e w1 ⟨rfl, hb1⟩
   have hr1 : w1.rowIs w.heap.size 71 (len * 3) f := HR.out.of_block (hb1.block _ hs)
   have f0 := hr1.frozen (k * 3)
   have f1 := hr1.frozen (k * 3 + 1)
   have f2 := hr1.frozen (k * 3 + 2)
   have g0 := hr1.cell (i := k * 3) (by omega)
   have g1 := hr1.cell (i := k * 3 + 1) (by omega)
   have g2 := hr1.cell (i := k * 3 + 2) (by omega)
   have HR1 : Hid (w1.rowIs w.heap.size 71 (len * 3) f) := hr1
   clear hr1
   go_wp2_with fail
   exact ⟨⟨k + 1, by omega, by go_num, FilledE.step HR1.out HF.out, (((hbw.trans (hb1.mono (Nat.le_of_lt hs))).setCell (Nat.le_refl _) _).setCell (Nat.le_refl _) _).setCell (Nat.le_refl _) _⟩, by simp [intOf]; omega⟩
  ·have hkl : k = len := by omega
   have HI : Hid (EvAt wr w.heap.size 0 len h) := by
    have := HF.out.at hrow hk
    rw [hkl] at this
    exact this
   have HZ : Hid (∀ j, wr.frozen? ⟨w.heap.size, j, none⟩ = false) := fun j => hrow.frozen j
   clear hkl HF hrow
   go_wp2
   go_ret
   exact ⟨rfl, HI.out, hs, hbw, HZ.out⟩
theorem toEventS_freeEmpty (a0 : Option Addr) (cap : Nat) (h : Nat → E3) (w : World) :
  Calls Tryz.prog 144 #[.slice a0 0 cap] w fun e w' => e = .returned (.slice (some ⟨w.heap.size, 0, none⟩) 0 0) ∧ EvAt w' w.heap.size 0 0 h ∧ w.heap.size < w'.heap.size ∧ Below w.heap.size w w' ∧ ∀ j, w'.frozen? ⟨w.heap.size, j, none⟩ = false := by
 have hmk : ∀ w : World, (Instr.makeSlice 35 (.int .i64 0) (.int .i64 0)).run Tryz.prog w = .ok (.slice (some ⟨w.heap.size, 0, none⟩) 0 0) (w.alloc (.cells (madeCells (evV 0 0 0).cells (0 * 3)) 71)) := fun w => run_make_ev 0 (by omega) w
 go_enter Tryz.func144, Tryz.ntmps144
 go_wp2_with fail
 clear hmk
 go_rounds 1
 go_ret
 exact ⟨rfl, fun i hi => by omega, by simp, (Below.refl _ _).alloc (Nat.le_refl _) _, fun j => new_frozen _ _ _ j rfl⟩
def CopiesE (w : World) (a0 : Option Addr) (len cap : Nat) (h : Nat → E3) : Prop := ∀ wx, Below w.heap.size w wx →
 Calls Tryz.prog 144 #[.slice a0 len cap] wx fun e w' => e = .returned (.slice (some ⟨wx.heap.size, 0, none⟩) len len) ∧ EvAt w' wx.heap.size 0 len h ∧ wx.heap.size < w'.heap.size ∧ Below wx.heap.size wx w' ∧ ∀ j, w'.frozen? ⟨wx.heap.size, j, none⟩ = false
theorem copiesE_of {W : World} {a0 : Option Addr} {len cap : Nat} (hl : len ≤ 1048576) (hr : len = 0 ∨ ∃ b off h, a0 = some ⟨b, off, none⟩ ∧ b < W.heap.size ∧ EvAt W b off len h) : ∃ h, CopiesE W a0 len cap h := by
 rcases hr with rfl | ⟨b, off, h, rfl, hb, hI⟩
 ·exact ⟨fun _ => ⟨0, 0, 0⟩, fun wx _ => toEventS_freeEmpty a0 cap _ wx⟩
 ·exact ⟨h, fun wx hB => toEventS_free b off len cap h wx hl (Nat.lt_of_lt_of_le hb hB.size) (hI.below hB hb)⟩
theorem eqEventS_same (b1 b2 len c1 c2 : Nat) (h : Nat → E3) (w : World) (hlen : len ≤ 1048576) (hb1 : b1 < w.heap.size) (hb2 : b2 < w.heap.size) (hc1 : EvAt w b1 0 len h) (hc2 : EvAt w b2 0 len h) :
  Calls Tryz.prog 154 #[.slice (some ⟨b1, 0, none⟩) len c1, .slice (some ⟨b2, 0, none⟩) len c2] w fun e w' => e = .returned (.bool true) ∧ Below w.heap.size w w' := by
 have hl' : (len : Int) ≤ 1048576 := by omega
 have HC1 : Hid (EvAt w b1 0 len h) := hc1
 have HC2 : Hid (EvAt w b2 0 len h) := hc2
 clear hc1 hc2
 go_enter Tryz.func154, Tryz.ntmps154
 go_wp2_with fail
 go_loopw [5] (fun i wr => ∃ k : Nat, k ≤ len ∧ i = .int .i64 k ∧ Below w.heap.size w wr) (fun i _ => len - (intOf i).toNat)
 case atStart => exact ⟨0, Nat.zero_le _, rfl, Below.refl _ _⟩
 case round =>
  obtain ⟨k, hk, rfl, hbw⟩ := hrel
  have hs := hbw.size
  by_cases hlt : k < len
  ·obtain ⟨c0, c1, c2⟩ := HC1.out.below hbw hb1 k hlt
   obtain ⟨d0, d1, d2⟩ := HC2.out.below hbw hb2 k hlt
   have hlt' : (k : Int) < (len : Int) := by omega
   rw [Nat.zero_add] at c0 c1 c2 d0 d1 d2
   go_wp2_with fail
   first | (go_region_with (go_at_call 215; refine (eqEvent_same _ _ _ _).mono ?_; rintro e w1 ⟨rfl, hq1⟩)) | fail
   all_goals
    go_wp2
    go_roundw
    case rel => exact ⟨k + 1, by omega, by go_num, hbw.drew.trans (hq1.mono hs)⟩
    case measure => simp [intOf]; omega
  ·go_wp2
   go_ret
   exact ⟨rfl, hbw⟩
def RoomE (w : World) (b len : Nat) : Prop := (∀ i, i < len * 3 → ∃ u, w.cell? ⟨b, i, none⟩ = some u) ∧ ∀ j, w.frozen? ⟨b, j, none⟩ = false
theorem RoomE.set {w : World} {b len : Nat} (h : RoomE w b len) (p : Addr) (v : Value) : RoomE (w.setCell p v) b len :=
 ⟨fun i hi => (h.1 i hi).elim fun _ e => cell?_setCell_some e, fun j => by rw [World.frozen?_setCell]; exact h.2 j⟩
theorem RoomE.of_ev {w : World} {b len : Nat} {h : Nat → E3} (hh : EvAt w b 0 len h) (hf : ∀ j, w.frozen? ⟨b, j, none⟩ = false) : RoomE w b len := by
 refine ⟨fun i hi => ?_, hf⟩
 obtain ⟨c0, c1, c2⟩ := hh (i / 3) (by omega)
 simp only [Nat.zero_add] at c0 c1 c2
 have he : i = i / 3 * 3 ∨ i = i / 3 * 3 + 1 ∨ i = i / 3 * 3 + 2 := by omega
 rcases he with e | e | e
 ·rw [e]; exact ⟨_, c0⟩
 ·rw [e]; exact ⟨_, c1⟩
 ·rw [e]; exact ⟨_, c2⟩
theorem markEventS_any (b len cap : Nat) (k : Int) (w : World) (hlen : len ≤ 1048576) (k0 : 0 ≤ k) (k1 : k ≤ 100000000) (h : RoomE w b len) :
  Calls Tryz.prog 157 #[.slice (some ⟨b, 0, none⟩) len cap, .int .i64 k] w fun e w' => e = .returned (.int .i64 (k + 3 * len)) ∧ w.grownBy w' (some b) := by
 have hl' : (len : Int) ≤ 1048576 := by omega
 have HO : Hid (RoomE w b len) := h
 clear h
 go_enter Tryz.func157, Tryz.ntmps157
 go_wp2_with fail
 go_loopw [1, 5] (fun q i wr => ∃ j : Nat, j ≤ len ∧ i = .int .i64 j ∧ q = .int .i64 (k + 3 * j) ∧ Hid (RoomE wr b len ∧ w.grownBy wr (some b))) (fun _ i _ => len - (intOf i).toNat)
 case atStart => exact ⟨0, Nat.zero_le _, rfl, by simp, HO.out, World.grownBy.refl _ _⟩
 case round =>
  clear HO
  obtain ⟨j, hj, rfl, rfl, HR⟩ := hrel
  by_cases hlt : j < len
  ·have hlt' : (j : Int) < (len : Int) := by omega
   obtain ⟨u0, c0⟩ := HR.out.1.1 (j * 3) (by omega)
   obtain ⟨u1, c1⟩ := HR.out.1.1 (j * 3 + 1) (by omega)
   obtain ⟨u2, c2⟩ := HR.out.1.1 (j * 3 + 2) (by omega)
   have fz := HR.out.1.2
   go_wp2
   go_roundw
   case rel =>
    refine ⟨j + 1, by omega, by go_num, by go_num, ?_⟩
    refine ⟨?_, ?_⟩
    ·repeat (refine RoomE.set ?_ _ _)
     exact HR.out.1
    ·repeat (refine grown_setCell ?_ (.inl rfl) _)
     exact HR.out.2
   case measure => simp [intOf]; omega
  ·have hlt' : ¬ (j : Int) < (len : Int) := by omega
   have HF : Hid (w.grownBy wr (some b)) := HR.out.2
   have hjl : (j : Int) = len := by omega
   have HJ : Hid ((j : Int) = len) := hjl
   clear HR hjl
   go_wp2
   go_ret
   exact ⟨ret_int (by rw [HJ.out]), HF.out⟩
theorem cellsLawEv : Tryz.prog.cellsOf 224 = 3 := by kernel_rfl
theorem open_evCells {H : Type} {enc : TypeId × Value → H} {w : World} {base fuel : Nat} {spare : Nat → Bool} {held : Bool} {c0 c1 c2 : Value} {x : DataW H × List MemPlace}
  (hf : DataW.trod enc Tryz.prog w base spare held fuel 224 [c0, c1, c2] = some x) :
  ∃ k q v : Int, c0 = .int .i64 k ∧ c1 = .int .i64 q ∧ c2 = .int .i64 v := by
 obtain ⟨xs, m, -, -, -, hl, hx⟩ := DataW.trod_struct Tryz.underlying224 hf
 have hl : xs.length = 3 := hl
 have q0 : DataW.trod enc Tryz.prog w base spare held m 3 [c0] = xs[0]? := by simpa [cellsInt] using hx 0 _ rfl
 have q1 : DataW.trod enc Tryz.prog w base spare held m 3 [c1] = xs[1]? := by simpa [cellsInt] using hx 1 _ rfl
 have q2 : DataW.trod enc Tryz.prog w base spare held m 3 [c2] = xs[2]? := by simpa [cellsInt] using hx 2 _ rfl
 rw [List.getElem?_eq_getElem (by omega)] at q0 q1 q2
 obtain ⟨z0, e0, -, -⟩ := DataW.trod_int Tryz.underlying3 q0
 obtain ⟨z1, e1, -, -⟩ := DataW.trod_int Tryz.underlying3 q1
 obtain ⟨z2, e2, -, -⟩ := DataW.trod_int Tryz.underlying3 q2
 simp only [List.cons.injEq, and_true] at e0 e1 e2
 exact ⟨z0, z1, z2, e0, e1, e2⟩
theorem open_evRow {H : Type} {enc : TypeId × Value → H} {w : World} {spare : Nat → Bool} {held : Bool} {base : Nat} {a0 : Option Addr} {len cap : Nat} {d : DataW H} {p : List MemPlace}
  (h : DataW.Trod enc Tryz.prog w base spare held 163 (.slice a0 len cap) d p) :
  len ≤ maxLen ∧ (len = 0 ∨ ∃ b off h, a0 = some ⟨b, off, none⟩ ∧ b < w.heap.size ∧ EvAt w b off len h) := by
 obtain ⟨fuel, hf⟩ := h
 rcases Go.Deep.open_slice Tryz.underlying163 hf with ⟨hcs, _⟩ | ⟨a, len', cap', m, n, D, Pl, hcs, _, hl, hm, hmm, _, hx⟩
 ·simp [Value.cells] at hcs
  obtain ⟨_, rfl, _⟩ := hcs
  exact ⟨Nat.zero_le _, .inl rfl⟩
 ·simp [Value.cells] at hcs
  obtain ⟨rfl, rfl, rfl⟩ := hcs
  refine ⟨Nat.le_trans hl hm, ?_⟩
  by_cases h0 : len = 0
  ·exact .inl h0
  right
  have hle : len ≤ m := by rw [hmm]; split <;> omega
  rw [cellsLawEv] at hx
  obtain ⟨b, off, spot⟩ := a
  have hcell : ∀ i, i < len → ∃ x : E3, w.cell? (Addr.add (Addr.add ⟨b, off, spot⟩ (i * 3)) 0) = some (.int .i64 x.k) ∧ w.cell? (Addr.add (Addr.add ⟨b, off, spot⟩ (i * 3)) 1) = some (.int .i64 x.q) ∧ w.cell? (Addr.add (Addr.add ⟨b, off, spot⟩ (i * 3)) 2) = some (.int .i64 x.v) := by
   intro i hi
   obtain ⟨cs', h1, h2⟩ := hx i (by omega)
   obtain ⟨_, hlen, hc⟩ := World.cells?_some h1
   match cs', hlen with
   | [c0, c1, c2], _ =>
    obtain ⟨k, q, v, rfl, rfl, rfl⟩ := open_evCells h2
    exact ⟨⟨k, q, v⟩, hc 0 (by omega), hc 1 (by omega), hc 2 (by omega)⟩
  have hspot : spot = none := by
   obtain ⟨x, hx0, _⟩ := hcell 0 (by omega)
   simpa [Addr.add] using World.cell?_spot hx0
  subst hspot
  have inh : Inhabited E3 := ⟨⟨0, 0, 0⟩⟩
  obtain ⟨g, hg⟩ := Go.Deep.choose_lt (α := E3) hcell
  have hI : EvAt w b off len g := by
   intro i hi
   obtain ⟨q0, q1, q2⟩ := hg i hi
   rw [addr_addO, addr_addO] at q0 q1 q2
   exact ⟨q0, q1, q2⟩
  exact ⟨b, off, g, rfl, cell_lt (hI 0 (by omega)).1, hI⟩
structure I2 where
 m : Bool
 v : Int
abbrev itV (m : Bool) (v : Int) : Value := .agg #[.bool m, .int .i64 v]
def ItAt (w : World) (b off len : Nat) (h : Nat → I2) : Prop := ∀ i, i < len →
 w.cell? ⟨b, off + i * 2, none⟩ = some (.bool (h i).m) ∧ w.cell? ⟨b, off + i * 2 + 1, none⟩ = some (.int .i64 (h i).v)
theorem ItAt.below {w w' : World} {B b off len : Nat} {h : Nat → I2} (hh : ItAt w b off len h) (hb : Below B w w') (hB : b < B) : ItAt w' b off len h := by
 intro i hi
 obtain ⟨h0, h1⟩ := hh i hi
 exact ⟨(hb.cell hB).trans h0, (hb.cell hB).trans h1⟩
theorem infoIt : (Tryz.prog.info? 126).map (fun i => (i.zero, i.size, i.bytes)) = some (some (itV false 0), 2, 16) := by kernel_rfl
theorem run_make_it (n : Nat) (hn : n ≤ 1048576) (w : World) :
  (Instr.makeSlice 124 (.int .i64 (n : Int)) (.int .i64 (n : Int))).run Tryz.prog w = .ok (.slice (some ⟨w.heap.size, 0, none⟩) n n) (w.alloc (.cells (madeCells (itV false 0).cells (n * 2)) 126)) := by
 have hinfo := infoIt
 cases hi : Tryz.prog.info? 126 with
 | none => rw [hi] at hinfo; cases hinfo
 | some i =>
  rw [hi] at hinfo
  simp only [Option.map_some, Option.some.injEq, Prod.mk.injEq] at hinfo
  obtain ⟨hz, hs, hb⟩ := hinfo
  have h := run_make (P := Tryz.prog) w 124 126 i _ Tryz.underlying124 hi hz .i64 .i64 (n : Int) (n : Int) (by omega) (Int.le_refl _) (by rw [hb]; omega) (by omega)
  rw [hs] at h
  simpa using h
theorem madeIt_row (w : World) (n : Nat) : (w.alloc (.cells (madeCells (itV false 0).cells (n * 2)) 126)).rowIs w.heap.size 126 (n * 2) (fun i => if i % 2 = 0 then .bool false else .int .i64 0) := by
 refine ⟨_, blk_alloc_new _ _, size_madeCells _ _, fun i hi => ?_⟩
 have h3 : i % 2 < 2 := Nat.mod_lt _ (by omega)
 have : ∀ j, j < 2 → (#[Value.bool false, .int .i64 0] : Array Value)[j]! = if j = 0 then .bool false else .int .i64 0 := by
  intro j hj
  match j, hj with
  | 0, _ => rfl
  | 1, _ => rfl
 simp only [madeCells, Value.cells]
 rw [Array.getElem?_map, Array.getElem?_range, if_pos hi]
 exact congrArg some (this (i % 2) h3)
def FilledT (f : Nat → Value) (h : Nat → I2) (k : Nat) : Prop := ∀ i, i < k →
 f (i * 2) = .bool (h i).m ∧ f (i * 2 + 1) = .int .i64 (h i).v
theorem FilledT.at {w : World} {b : Nat} {t : TypeId} {len k : Nat} {f : Nat → Value} {h : Nat → I2} (hh : FilledT f h k) (hr : w.rowIs b t (len * 2) f) (hk : k ≤ len) : ItAt w b 0 k h := by
 intro i hi
 obtain ⟨h0, h1⟩ := hh i hi
 refine ⟨?_, ?_⟩
 ·rw [hr.cell (by omega), Nat.zero_add, h0]
 ·rw [hr.cell (by omega), Nat.zero_add, h1]
theorem FilledT.step {w : World} {b : Nat} {t : TypeId} {len k : Nat} {f : Nat → Value} {h : Nat → I2} (hr : w.rowIs b t (len * 2) f) (hh : FilledT f h k) :
  ∃ f', ((w.setCell ⟨b, k * 2, none⟩ (.bool (h k).m)).setCell ⟨b, k * 2 + 1, none⟩ (.int .i64 (h k).v)).rowIs b t (len * 2) f' ∧ FilledT f' h (k + 1) := by
 refine ⟨_, (hr.set _ _).set _ _, fun i hi => ?_⟩
 by_cases hik : i = k
 ·subst hik
  simp
 ·have hlt : i < k := by omega
  obtain ⟨h0, h1⟩ := hh i hlt
  refine ⟨?_, ?_⟩
  ·rw [if_neg (by omega), if_neg (by omega)]; exact h0
  ·rw [if_neg (by omega), if_neg (by omega)]; exact h1
theorem toItem_any (m : Bool) (v : Int) (w : World) :
  Calls Tryz.prog 205 #[itV m v] w fun e w' => e = .returned (itV m v) ∧ Below w.heap.size w w' := by
 go_enter Tryz.func205, Tryz.ntmps205
 go_wp2
 refine bodyPost_ret (v := itV m v) (by simp [results, Tryz.results205, go_sem]) rfl ⟨rfl, ?_⟩
 go_grown
theorem eqItem_same (m : Bool) (v : Int) (w : World) :
  Calls Tryz.prog 214 #[itV m v, itV m v] w fun e w' => e = .returned (.bool true) ∧ Below w.heap.size w w' := by
 cases m
 all_goals
  go_enter Tryz.func214, Tryz.ntmps214
  go_wp2
  go_ret
  exact ⟨rfl, by go_grown⟩
theorem szItemS_small (a0 : Option Addr) (len cap : Nat) (L : Int) (w : World) (h : (len : Int) ≤ L) (hL : L ≤ 1048576) :
  Calls Tryz.prog 136 #[.slice a0 len cap, .int .i64 L] w fun e w' => e = .returned (.int .i64 (L - (len : Int))) ∧ w' = w := by
 have h1 : (len : Int) ≤ 1048576 := by omega
 have h2 : 0 ≤ L := by omega
 have h3 : ¬ (L - (len : Int) < 0) := by omega
 go_enter Tryz.func136, Tryz.ntmps136
 go_wp2
 go_ret
 exact ⟨rfl, rfl⟩
theorem szItemS_great (a0 : Option Addr) (len cap : Nat) (L : Int) (w : World) (h : L < (len : Int)) (h0 : 0 ≤ L) (hL : L ≤ 1048576) (hm : len ≤ maxLen) :
  Calls Tryz.prog 136 #[.slice a0 len cap, .int .i64 L] w fun e w' => e = .returned (.int .i64 (-1)) ∧ w' = w := by
 unfold maxLen at hm
 have h2 : (len : Int) ≤ 9223372036854775807 := by omega
 have h3 : L - (len : Int) < 0 := by omega
 go_enter Tryz.func136, Tryz.ntmps136
 go_wp2
 go_ret
 exact ⟨rfl, rfl⟩
theorem toItemS_free (b off len cap : Nat) (h : Nat → I2) (w : World) (hlen : len ≤ 1048576) (hb : b < w.heap.size) (hc : ItAt w b off len h) :
  Calls Tryz.prog 143 #[.slice (some ⟨b, off, none⟩) len cap] w fun e w' => e = .returned (.slice (some ⟨w.heap.size, 0, none⟩) len len) ∧ ItAt w' w.heap.size 0 len h ∧ w.heap.size < w'.heap.size ∧ Below w.heap.size w w' ∧ ∀ j, w'.frozen? ⟨w.heap.size, j, none⟩ = false := by
 have hl' : (len : Int) ≤ 1048576 := by omega
 have hmk := run_make_it len hlen
 have HC : Hid (ItAt w b off len h) := hc
 clear hc
 go_enter Tryz.func143, Tryz.ntmps143
 go_wp2_with fail
 clear hmk
 go_loopw [4] (fun i wr => ∃ k : Nat, k ≤ len ∧ i = .int .i64 k ∧ (∃ f, wr.rowIs w.heap.size 126 (len * 2) f ∧ Hid (FilledT f h k)) ∧ Below w.heap.size w wr) (fun i _ => len - (intOf i).toNat)
 case atStart => exact ⟨0, Nat.zero_le _, rfl, ⟨_, madeIt_row w len, fun i hi => by omega⟩, (Below.refl _ _).alloc (Nat.le_refl _) _⟩
 case round =>
  obtain ⟨k, hk, rfl, ⟨f, hrow, HF⟩, hbw⟩ := hrel
  have hs := hrow.lt
  by_cases hlt : k < len
  ·obtain ⟨c0, c1⟩ := HC.out.below hbw hb k hlt
   have HR : Hid (wr.rowIs w.heap.size 126 (len * 2) f) := hrow
   clear hrow
   go_wp2_with fail
   refine (toItem_any _ _ _).mono ?_
   rintro e w1 ⟨rfl, hb1⟩
   have hr1 : w1.rowIs w.heap.size 126 (len * 2) f := HR.out.of_block (hb1.block _ hs)
   have f0 := hr1.frozen (k * 2)
   have f1 := hr1.frozen (k * 2 + 1)
   have g0 := hr1.cell (i := k * 2) (by omega)
   have g1 := hr1.cell (i := k * 2 + 1) (by omega)
   have HR1 : Hid (w1.rowIs w.heap.size 126 (len * 2) f) := hr1
   clear hr1
   go_wp2_with fail
   exact ⟨⟨k + 1, by omega, by go_num, FilledT.step HR1.out HF.out, ((hbw.trans (hb1.mono (Nat.le_of_lt hs))).setCell (Nat.le_refl _) _).setCell (Nat.le_refl _) _⟩, by simp [intOf]; omega⟩
  ·have hkl : k = len := by omega
   have HI : Hid (ItAt wr w.heap.size 0 len h) := by
    have := HF.out.at hrow hk
    rw [hkl] at this
    exact this
   have HZ : Hid (∀ j, wr.frozen? ⟨w.heap.size, j, none⟩ = false) := fun j => hrow.frozen j
   clear hkl HF hrow
   go_wp2
   go_ret
   exact ⟨rfl, HI.out, hs, hbw, HZ.out⟩
theorem toItemS_freeEmpty (a0 : Option Addr) (cap : Nat) (h : Nat → I2) (w : World) :
  Calls Tryz.prog 143 #[.slice a0 0 cap] w fun e w' => e = .returned (.slice (some ⟨w.heap.size, 0, none⟩) 0 0) ∧ ItAt w' w.heap.size 0 0 h ∧ w.heap.size < w'.heap.size ∧ Below w.heap.size w w' ∧ ∀ j, w'.frozen? ⟨w.heap.size, j, none⟩ = false := by
 have hmk : ∀ w : World, (Instr.makeSlice 124 (.int .i64 0) (.int .i64 0)).run Tryz.prog w = .ok (.slice (some ⟨w.heap.size, 0, none⟩) 0 0) (w.alloc (.cells (madeCells (itV false 0).cells (0 * 2)) 126)) := fun w => run_make_it 0 (by omega) w
 go_enter Tryz.func143, Tryz.ntmps143
 go_wp2_with fail
 clear hmk
 go_rounds 1
 go_ret
 exact ⟨rfl, fun i hi => by omega, by simp, (Below.refl _ _).alloc (Nat.le_refl _) _, fun j => new_frozen _ _ _ j rfl⟩
def CopiesT (w : World) (a0 : Option Addr) (len cap : Nat) (h : Nat → I2) : Prop := ∀ wx, Below w.heap.size w wx →
 Calls Tryz.prog 143 #[.slice a0 len cap] wx fun e w' => e = .returned (.slice (some ⟨wx.heap.size, 0, none⟩) len len) ∧ ItAt w' wx.heap.size 0 len h ∧ wx.heap.size < w'.heap.size ∧ Below wx.heap.size wx w' ∧ ∀ j, w'.frozen? ⟨wx.heap.size, j, none⟩ = false
theorem copiesT_of {W : World} {a0 : Option Addr} {len cap : Nat} (hl : len ≤ 1048576) (hr : len = 0 ∨ ∃ b off h, a0 = some ⟨b, off, none⟩ ∧ b < W.heap.size ∧ ItAt W b off len h) : ∃ h, CopiesT W a0 len cap h := by
 rcases hr with rfl | ⟨b, off, h, rfl, hb, hI⟩
 ·exact ⟨fun _ => ⟨false, 0⟩, fun wx _ => toItemS_freeEmpty a0 cap _ wx⟩
 ·exact ⟨h, fun wx hB => toItemS_free b off len cap h wx hl (Nat.lt_of_lt_of_le hb hB.size) (hI.below hB hb)⟩
theorem eqItemS_same (b1 b2 len c1 c2 : Nat) (h : Nat → I2) (w : World) (hlen : len ≤ 1048576) (hb1 : b1 < w.heap.size) (hb2 : b2 < w.heap.size) (hc1 : ItAt w b1 0 len h) (hc2 : ItAt w b2 0 len h) :
  Calls Tryz.prog 153 #[.slice (some ⟨b1, 0, none⟩) len c1, .slice (some ⟨b2, 0, none⟩) len c2] w fun e w' => e = .returned (.bool true) ∧ Below w.heap.size w w' := by
 have hl' : (len : Int) ≤ 1048576 := by omega
 have HC1 : Hid (ItAt w b1 0 len h) := hc1
 have HC2 : Hid (ItAt w b2 0 len h) := hc2
 clear hc1 hc2
 go_enter Tryz.func153, Tryz.ntmps153
 go_wp2_with fail
 go_loopw [5] (fun i wr => ∃ k : Nat, k ≤ len ∧ i = .int .i64 k ∧ Below w.heap.size w wr) (fun i _ => len - (intOf i).toNat)
 case atStart => exact ⟨0, Nat.zero_le _, rfl, Below.refl _ _⟩
 case round =>
  obtain ⟨k, hk, rfl, hbw⟩ := hrel
  have hs := hbw.size
  by_cases hlt : k < len
  ·obtain ⟨c0, c1⟩ := HC1.out.below hbw hb1 k hlt
   obtain ⟨d0, d1⟩ := HC2.out.below hbw hb2 k hlt
   have hlt' : (k : Int) < (len : Int) := by omega
   rw [Nat.zero_add] at c0 c1 d0 d1
   go_wp2_with fail
   first | (go_region_with (go_at_call 214; refine (eqItem_same _ _ _).mono ?_; rintro e w1 ⟨rfl, hq1⟩)) | fail
   all_goals
    go_wp2
    go_roundw
    case rel => exact ⟨k + 1, by omega, by go_num, hbw.drew.trans (hq1.mono hs)⟩
    case measure => simp [intOf]; omega
  ·go_wp2
   go_ret
   exact ⟨rfl, hbw⟩
def RoomT (w : World) (b len : Nat) : Prop := (∀ i, i < len * 2 → ∃ u, w.cell? ⟨b, i, none⟩ = some u) ∧ ∀ j, w.frozen? ⟨b, j, none⟩ = false
theorem RoomT.set {w : World} {b len : Nat} (h : RoomT w b len) (p : Addr) (v : Value) : RoomT (w.setCell p v) b len :=
 ⟨fun i hi => (h.1 i hi).elim fun _ e => cell?_setCell_some e, fun j => by rw [World.frozen?_setCell]; exact h.2 j⟩
theorem RoomT.of_it {w : World} {b len : Nat} {h : Nat → I2} (hh : ItAt w b 0 len h) (hf : ∀ j, w.frozen? ⟨b, j, none⟩ = false) : RoomT w b len := by
 refine ⟨fun i hi => ?_, hf⟩
 obtain ⟨c0, c1⟩ := hh (i / 2) (by omega)
 simp only [Nat.zero_add] at c0 c1
 have he : i = i / 2 * 2 ∨ i = i / 2 * 2 + 1 := by omega
 rcases he with e | e
 ·rw [e]; exact ⟨_, c0⟩
 ·rw [e]; exact ⟨_, c1⟩
theorem markItemS_any (b len cap : Nat) (k : Int) (w : World) (hlen : len ≤ 1048576) (k0 : 0 ≤ k) (k1 : k ≤ 100000000) (h : RoomT w b len) :
  Calls Tryz.prog 156 #[.slice (some ⟨b, 0, none⟩) len cap, .int .i64 k] w fun e w' => e = .returned (.int .i64 (k + 2 * len)) ∧ w.grownBy w' (some b) := by
 have hl' : (len : Int) ≤ 1048576 := by omega
 have HO : Hid (RoomT w b len) := h
 clear h
 go_enter Tryz.func156, Tryz.ntmps156
 go_wp2_with fail
 go_loopw [1, 5] (fun q i wr => ∃ j : Nat, j ≤ len ∧ i = .int .i64 j ∧ q = .int .i64 (k + 2 * j) ∧ Hid (RoomT wr b len ∧ w.grownBy wr (some b))) (fun _ i _ => len - (intOf i).toNat)
 case atStart => exact ⟨0, Nat.zero_le _, rfl, by simp, HO.out, World.grownBy.refl _ _⟩
 case round =>
  clear HO
  obtain ⟨j, hj, rfl, rfl, HR⟩ := hrel
  by_cases hlt : j < len
  ·have hlt' : (j : Int) < (len : Int) := by omega
   obtain ⟨u0, c0⟩ := HR.out.1.1 (j * 2) (by omega)
   obtain ⟨u1, c1⟩ := HR.out.1.1 (j * 2 + 1) (by omega)
   have fz := HR.out.1.2
   go_wp2
   go_roundw
   case rel =>
    refine ⟨j + 1, by omega, by go_num, by go_num, ?_⟩
    refine ⟨?_, ?_⟩
    ·repeat (refine RoomT.set ?_ _ _)
     exact HR.out.1
    ·repeat (refine grown_setCell ?_ (.inl rfl) _)
     exact HR.out.2
   case measure => simp [intOf]; omega
  ·have hlt' : ¬ (j : Int) < (len : Int) := by omega
   have HF : Hid (w.grownBy wr (some b)) := HR.out.2
   have hjl : (j : Int) = len := by omega
   have HJ : Hid ((j : Int) = len) := hjl
   clear HR hjl
   go_wp2
   go_ret
   exact ⟨ret_int (by rw [HJ.out]), HF.out⟩
theorem cellsLawIt : Tryz.prog.cellsOf 222 = 2 := by kernel_rfl
theorem cellsBool : Tryz.prog.cellsOf 4 = 1 := by kernel_rfl
theorem open_itCells {H : Type} {enc : TypeId × Value → H} {w : World} {base fuel : Nat} {spare : Nat → Bool} {held : Bool} {c0 c1 : Value} {x : DataW H × List MemPlace}
  (hf : DataW.trod enc Tryz.prog w base spare held fuel 222 [c0, c1] = some x) :
  ∃ (m : Bool) (v : Int), c0 = .bool m ∧ c1 = .int .i64 v := by
 obtain ⟨xs, m, -, -, -, hl, hx⟩ := DataW.trod_struct Tryz.underlying222 hf
 have hl : xs.length = 2 := hl
 have q0 : DataW.trod enc Tryz.prog w base spare held m 4 [c0] = xs[0]? := by simpa [cellsBool] using hx 0 _ rfl
 have q1 : DataW.trod enc Tryz.prog w base spare held m 3 [c1] = xs[1]? := by simpa [cellsInt, cellsBool] using hx 1 _ rfl
 rw [List.getElem?_eq_getElem (by omega)] at q0 q1
 obtain ⟨z0, e0, -⟩ := DataW.trod_bool Tryz.underlying4 q0
 obtain ⟨z1, e1, -, -⟩ := DataW.trod_int Tryz.underlying3 q1
 simp only [List.cons.injEq, and_true] at e0 e1
 exact ⟨z0, z1, e0, e1⟩
theorem open_itRow {H : Type} {enc : TypeId × Value → H} {w : World} {spare : Nat → Bool} {held : Bool} {base : Nat} {a0 : Option Addr} {len cap : Nat} {d : DataW H} {p : List MemPlace}
  (h : DataW.Trod enc Tryz.prog w base spare held 161 (.slice a0 len cap) d p) :
  len ≤ maxLen ∧ (len = 0 ∨ ∃ b off h, a0 = some ⟨b, off, none⟩ ∧ b < w.heap.size ∧ ItAt w b off len h) := by
 obtain ⟨fuel, hf⟩ := h
 rcases Go.Deep.open_slice Tryz.underlying161 hf with ⟨hcs, _⟩ | ⟨a, len', cap', m, n, D, Pl, hcs, _, hl, hm, hmm, _, hx⟩
 ·simp [Value.cells] at hcs
  obtain ⟨_, rfl, _⟩ := hcs
  exact ⟨Nat.zero_le _, .inl rfl⟩
 ·simp [Value.cells] at hcs
  obtain ⟨rfl, rfl, rfl⟩ := hcs
  refine ⟨Nat.le_trans hl hm, ?_⟩
  by_cases h0 : len = 0
  ·exact .inl h0
  right
  have hle : len ≤ m := by rw [hmm]; split <;> omega
  rw [cellsLawIt] at hx
  obtain ⟨b, off, spot⟩ := a
  have hcell : ∀ i, i < len → ∃ x : I2, w.cell? (Addr.add (Addr.add ⟨b, off, spot⟩ (i * 2)) 0) = some (.bool x.m) ∧ w.cell? (Addr.add (Addr.add ⟨b, off, spot⟩ (i * 2)) 1) = some (.int .i64 x.v) := by
   intro i hi
   obtain ⟨cs', h1, h2⟩ := hx i (by omega)
   obtain ⟨_, hlen, hc⟩ := World.cells?_some h1
   match cs', hlen with
   | [c0, c1], _ =>
    obtain ⟨k, v, rfl, rfl⟩ := open_itCells h2
    exact ⟨⟨k, v⟩, hc 0 (by omega), hc 1 (by omega)⟩
  have hspot : spot = none := by
   obtain ⟨x, hx0, _⟩ := hcell 0 (by omega)
   simpa [Addr.add] using World.cell?_spot hx0
  subst hspot
  have inh : Inhabited I2 := ⟨⟨false, 0⟩⟩
  obtain ⟨g, hg⟩ := Go.Deep.choose_lt (α := I2) hcell
  have hI : ItAt w b off len g := by
   intro i hi
   obtain ⟨q0, q1⟩ := hg i hi
   rw [addr_addO, addr_addO] at q0 q1
   exact ⟨q0, q1⟩
  exact ⟨b, off, g, rfl, cell_lt (hI 0 (by omega)).1, hI⟩
def sumL (ls : Nat → Nat) : Nat → Nat
 | 0 => 0
 | n + 1 => sumL ls n + ls n
theorem sumL_mono (ls : Nat → Nat) {k n : Nat} (h : k ≤ n) : sumL ls k ≤ sumL ls n := by
 induction n with
 | zero =>
  have : k = 0 := by omega
  subst this
  exact Nat.le_refl _
 | succ n ih =>
  by_cases hk : k = n + 1
  ·subst hk
   exact Nat.le_refl _
  ·have := ih (by omega)
   show sumL ls k ≤ sumL ls n + ls n
   omega
theorem sumL_at (ls : Nat → Nat) {k n : Nat} (h : k < n) : sumL ls k + ls k ≤ sumL ls n := sumL_mono ls (k := k + 1) h
def RowS (w : World) (a0 : Option Addr) (n : Nat) (f : Nat → Value) : Prop :=
 n = 0 ∨ ∃ b off, a0 = some ⟨b, off, none⟩ ∧ b < w.heap.size ∧ ∀ i, i < n → w.cell? ⟨b, off + i, none⟩ = some (f i)
theorem RowS.below {w w' : World} {a0 : Option Addr} {n : Nat} {f : Nat → Value} (h : RowS w a0 n f) (hb : Below w.heap.size w w') : RowS w' a0 n f := by
 rcases h with h | ⟨b, off, e, hlt, hc⟩
 ·exact .inl h
 ·exact .inr ⟨b, off, e, Nat.lt_of_lt_of_le hlt hb.size, fun i hi => (hb.cell (p := ⟨b, off + i, none⟩) hlt).trans (hc i hi)⟩
theorem RowS.at {w : World} {a0 : Option Addr} {n : Nat} {f : Nat → Value} (h : RowS w a0 n f) {k : Nat} (hk : k < n) : ∃ b off, a0 = some ⟨b, off, none⟩ ∧ w.cell? ⟨b, off + k, none⟩ = some (f k) := by
 rcases h with rfl | ⟨b, off, e, -, hc⟩
 ·omega
 ·exact ⟨b, off, e, hc k hk⟩
structure Touch (P : Nat → Prop) (w w' : World) : Prop where
 os : w'.os = w.os
 tape : w'.tape = w.tape
 output : w'.output = w.output
 size : w.heap.size ≤ w'.heap.size
 block : ∀ k, k < w.heap.size → ¬ P k → w'.heap[k]? = w.heap[k]?
theorem Touch.refl (P : Nat → Prop) (w : World) : Touch P w w := ⟨rfl, rfl, rfl, Nat.le_refl _, fun _ _ _ => rfl⟩
theorem Touch.trans {P : Nat → Prop} {a b c : World} (h : Touch P a b) (k : Touch P b c) : Touch P a c :=
 ⟨k.os.trans h.os, k.tape.trans h.tape, k.output.trans h.output, Nat.le_trans h.size k.size, fun i hi hn => (k.block i (Nat.lt_of_lt_of_le hi h.size) hn).trans (h.block i hi hn)⟩
theorem Touch.mono {P Q : Nat → Prop} {w w' : World} (h : Touch P w w') (hq : ∀ k, P k → Q k) : Touch Q w w' :=
 ⟨h.os, h.tape, h.output, h.size, fun k hk hn => h.block k hk fun hp => hn (hq k hp)⟩
theorem Touch.of_grown {P : Nat → Prop} {w w' : World} {row : Option Nat} (h : w.grownBy w' row) (hp : ∀ k, row = some k → P k) : Touch P w w' :=
 ⟨h.os, h.tape, h.output, h.size, fun k hk hn => h.block k hk fun e => hn (hp k e.symm)⟩
theorem Touch.of_below {P : Nat → Prop} {w w' : World} (h : Below w.heap.size w w') : Touch P w w' :=
 ⟨h.os, h.tape, h.output, h.size, fun k hk _ => h.block k hk⟩
theorem Touch.of_set {P : Nat → Prop} (w : World) {a : Addr} (ha : P a.block) (u : Value) : Touch P w (w.setCell a u) :=
 ⟨rfl, rfl, rfl, by simp [World.setCell], fun k _ hn => Below.heap_setCell _ _ _ _ fun e => hn (e ▸ ha)⟩
theorem Touch.below {P : Nat → Prop} {w w' : World} {B : Nat} (h : Touch P w w') (hB : B ≤ w.heap.size) (hp : ∀ k, P k → B ≤ k) : Below B w w' :=
 ⟨h.os, h.tape, h.output, h.size, fun k hk => h.block k (by omega) fun e => by have := hp k e; omega⟩
theorem Touch.cell {P : Nat → Prop} {w w' : World} (h : Touch P w w') {b : Nat} (hb : b < w.heap.size) (hp : ¬ P b) (j : Nat) : w'.cell? ⟨b, j, none⟩ = w.cell? ⟨b, j, none⟩ := World.cell?_of_block (h.block b hb hp)
theorem open_rows {H : Type} {enc : TypeId × Value → H} {w : World} {spare : Nat → Bool} {held : Bool} {base : Nat} {a0 : Option Addr} {len cap : Nat} {d : DataW H} {p : List MemPlace} {t el : TypeId} (hu : Tryz.prog.underlying t = some (.slice el)) (h1 : Tryz.prog.cellsOf el = 1)
  (h : DataW.Trod enc Tryz.prog w base spare held t (.slice a0 len cap) d p) :
  len ≤ maxLen ∧ ∃ f : Nat → Value, RowS w a0 len f ∧ ∀ i, i < len → ∃ m x, DataW.trod enc Tryz.prog w base spare held m el [f i] = some x := by
 obtain ⟨fuel, hf⟩ := h
 rcases Go.Deep.open_slice hu hf with ⟨hcs, _⟩ | ⟨a, len', cap', m, n, D, Pl, hcs, _, hl, hm, hmm, _, hx⟩
 ·simp [Value.cells] at hcs
  obtain ⟨_, rfl, _⟩ := hcs
  exact ⟨Nat.zero_le _, fun _ => .int .i64 0, .inl rfl, fun i hi => by omega⟩
 ·simp [Value.cells] at hcs
  obtain ⟨rfl, rfl, rfl⟩ := hcs
  refine ⟨Nat.le_trans hl hm, ?_⟩
  have hle : len ≤ m := by rw [hmm]; split <;> omega
  rw [h1] at hx
  obtain ⟨b, off, spot⟩ := a
  have hcell : ∀ i, i < len → ∃ c : Value, w.cell? (Addr.add (Addr.add ⟨b, off, spot⟩ (i * 1)) 0) = some c ∧ ∃ m x, DataW.trod enc Tryz.prog w base spare held m el [c] = some x := by
   intro i hi
   obtain ⟨cs', h1, h2⟩ := hx i (by omega)
   obtain ⟨_, hlen, hc⟩ := World.cells?_some h1
   match cs', hlen with
   | [c0], _ => exact ⟨c0, hc 0 (by omega), _, _, h2⟩
  have inh : Inhabited Value := ⟨.int .i64 0⟩
  obtain ⟨g, hg⟩ := Go.Deep.choose_lt (α := Value) hcell
  refine ⟨g, ?_, fun i hi => (hg i hi).2⟩
  by_cases h0 : len = 0
  ·exact .inl h0
  have hspot : spot = none := by
   have hx0 := (hg 0 (by omega)).1
   simpa [Addr.add] using World.cell?_spot hx0
  subst hspot
  have hI : ∀ i, i < len → w.cell? ⟨b, off + i, none⟩ = some (g i) := by
   intro i hi
   have q0 := (hg i hi).1
   rw [addr_addO, addr_addO, Nat.mul_one] at q0
   exact q0
  exact .inr ⟨b, off, rfl, cell_lt (hI 0 (by omega)), hI⟩
structure St8 where
 p : Int
 ra : Option Addr
 rc : Nat
 rs : List Int
 oa : Option Addr
 oc : Nat
 os : List Int
 c : Int
def St8.s (x : St8) : S4 := ⟨x.p, x.rs, x.os, x.c⟩
def lenS (S : Nat → S4) (i : Nat) : Nat := (S i).rs.length + (S i).os.length
structure AllState (W : World) (a0 : Option Addr) (n : Nat) (q : Nat → St8) : Prop where
 row : n = 0 ∨ ∃ b off, a0 = some ⟨b, off, none⟩ ∧ b < W.heap.size ∧ ∀ i, i < n → W.cell? ⟨b, off + i * 4, none⟩ = some (.int .i64 (q i).p) ∧ W.cell? ⟨b, off + i * 4 + 1, none⟩ = some (.slice (q i).ra (q i).rs.length (q i).rc) ∧ W.cell? ⟨b, off + i * 4 + 2, none⟩ = some (.slice (q i).oa (q i).os.length (q i).oc) ∧ W.cell? ⟨b, off + i * 4 + 3, none⟩ = some (.int .i64 (q i).c)
 lst : ∀ i, i < n → Sl W (q i).ra (q i).rs ∧ Sl W (q i).oa (q i).os
theorem AllState.below {w w' : World} {a0 : Option Addr} {n : Nat} {q : Nat → St8} (h : AllState w a0 n q) (hb : Below w.heap.size w w') : AllState w' a0 n q := by
 refine ⟨?_, fun i hi => ⟨(h.lst i hi).1.below hb, (h.lst i hi).2.below hb⟩⟩
 rcases h.row with h | ⟨b, off, e, hlt, hc⟩
 ·exact .inl h
 ·exact .inr ⟨b, off, e, Nat.lt_of_lt_of_le hlt hb.size, fun i hi => by
   obtain ⟨h0, h1, h2, h3⟩ := hc i hi
   exact ⟨(hb.cell hlt).trans h0, (hb.cell hlt).trans h1, (hb.cell hlt).trans h2, (hb.cell hlt).trans h3⟩⟩
theorem AllState.at {w : World} {a0 : Option Addr} {n : Nat} {q : Nat → St8} (h : AllState w a0 n q) {k : Nat} (hk : k < n) : ∃ b off, a0 = some ⟨b, off, none⟩ ∧ w.cell? ⟨b, off + k * 4, none⟩ = some (.int .i64 (q k).p) ∧ w.cell? ⟨b, off + k * 4 + 1, none⟩ = some (.slice (q k).ra (q k).rs.length (q k).rc) ∧ w.cell? ⟨b, off + k * 4 + 2, none⟩ = some (.slice (q k).oa (q k).os.length (q k).oc) ∧ w.cell? ⟨b, off + k * 4 + 3, none⟩ = some (.int .i64 (q k).c) := by
 rcases h.row with rfl | ⟨b, off, e, -, hc⟩
 ·omega
 ·exact ⟨b, off, e, hc k hk⟩
theorem szStateS_small (a0 : Option Addr) (n cap : Nat) (q : Nat → St8) (L : Int) (w : World) (hr : AllState w a0 n q) (h : (n : Int) + (sumL (lenS fun i => (q i).s) n : Nat) ≤ L) (hL : L ≤ 1048576) :
  Calls Tryz.prog 56 #[.slice a0 n cap, .int .i64 L] w fun e w' => e = .returned (.int .i64 (L - n - (sumL (lenS fun i => (q i).s) n : Nat))) ∧ Below w.heap.size w w' := by
 have hn : (n : Int) ≤ 1048576 := by omega
 have h0 : 0 ≤ L := by omega
 have hn0 : ¬ (L - (n : Int) < 0) := by omega
 have HR : Hid (AllState w a0 n q) := hr
 have HS : Hid ((n : Int) + (sumL (lenS fun i => (q i).s) n : Nat) ≤ L) := h
 clear hr h
 generalize hls : (lenS fun i => (q i).s) = ls at *
 have HLS : Hid ((lenS fun i => (q i).s) = ls) := hls
 clear hls
 go_enter Tryz.func56, Tryz.ntmps56
 go_wp2_with fail
 go_loopw [1, 5] (fun x i wr => ∃ k : Nat, k ≤ n ∧ i = .int .i64 k ∧ x = .int .i64 (L - n - (sumL ls k : Nat)) ∧ Below w.heap.size w wr) (fun _ i _ => n - (intOf i).toNat)
 case atStart => exact ⟨0, Nat.zero_le _, rfl, by simp [sumL], Below.refl _ _⟩
 case round =>
  obtain ⟨k, hk, rfl, rfl, hbw⟩ := hrel
  by_cases hlt : k < n
  ·have hlt' : (k : Int) < (n : Int) := by omega
   obtain ⟨b, off, rfl, c0, c1, c2, c3⟩ := (HR.out.below hbw).at hlt
   have hsl := sumL_at ls hlt
   have hlk : ls k = (q k).rs.length + (q k).os.length := by rw [← HLS.out]; rfl
   have hS := HS.out
   have e1 : (L - n - (sumL ls k : Nat)) - ((q k).rs.length : Int) - ((q k).os.length : Int) = L - n - (sumL ls (k + 1) : Nat) := by simp only [sumL]; omega
   have HE : Hid ((L - n - (sumL ls k : Nat)) - ((q k).rs.length : Int) - ((q k).os.length : Int) = L - n - (sumL ls (k + 1) : Nat)) := e1
   have e2 : ((q k).rs.length : Int) + ((q k).os.length : Int) ≤ L - n - (sumL ls k : Nat) := by omega
   have e3 : ¬ (L - n - (sumL ls (k + 1) : Nat) < 0) := by omega
   have e4 : L - n - (sumL ls k : Nat) ≤ 1048576 := by omega
   clear e1 hS hsl hlk
   generalize hy : L - n - (sumL ls (k + 1) : Nat) = Y at *
   go_wp2_with fail
   refine (szState_small _ _ _ _ _ _ _ _ _ _ e2 e4).mono ?_
   rintro e w1 ⟨rfl, b1⟩
   rw [HE.out]
   clear e2 e4 c0 c1 c2 c3
   go_wp2
   go_roundw
   case rel => exact ⟨k + 1, by omega, by go_num, by rw [← hy], hbw.trans (b1.mono hbw.size)⟩
   case measure => simp [intOf]; omega
  ·have hkl : k = n := by omega
   subst hkl
   go_wp2
   go_ret
   exact ⟨rfl, hbw⟩
theorem szStateS_great (a0 : Option Addr) (n cap : Nat) (q : Nat → St8) (L : Int) (w : World) (hr : AllState w a0 n q) (h : L < (n : Int) + (sumL (lenS fun i => (q i).s) n : Nat)) (h0 : 0 ≤ L) (hL : L ≤ 1048576) (hm : n ≤ maxLen) (hl : ∀ i, i < n → (q i).rs.length ≤ maxLen ∧ (q i).os.length ≤ maxLen) :
  Calls Tryz.prog 56 #[.slice a0 n cap, .int .i64 L] w fun e w' => e = .returned (.int .i64 (-1)) ∧ Below w.heap.size w w' := by
 have hm' : (n : Int) ≤ 9223372036854775807 := by unfold maxLen at hm; omega
 by_cases hn0 : L - (n : Int) < 0
 ·go_enter Tryz.func56, Tryz.ntmps56
  go_wp2
  go_ret
  exact ⟨rfl, Below.refl _ _⟩
 have hn : (n : Int) ≤ 1048576 := by omega
 have HR : Hid (AllState w a0 n q) := hr
 have HS : Hid (L < (n : Int) + (sumL (lenS fun i => (q i).s) n : Nat)) := h
 have HL : Hid (∀ i, i < n → (q i).rs.length ≤ maxLen ∧ (q i).os.length ≤ maxLen) := hl
 clear hr h hl hm
 generalize hls : (lenS fun i => (q i).s) = ls at *
 have HLS : Hid ((lenS fun i => (q i).s) = ls) := hls
 clear hls
 go_enter Tryz.func56, Tryz.ntmps56
 go_wp2_with fail
 go_loopw [1, 5] (fun x i wr => ∃ k : Nat, k ≤ n ∧ i = .int .i64 k ∧ x = .int .i64 (L - n - (sumL ls k : Nat)) ∧ 0 ≤ L - n - (sumL ls k : Nat) ∧ Below w.heap.size w wr) (fun _ i _ => n - (intOf i).toNat)
 case atStart => exact ⟨0, Nat.zero_le _, rfl, by simp [sumL], by simp only [sumL]; omega, Below.refl _ _⟩
 case round =>
  obtain ⟨k, hk, rfl, rfl, hp, hbw⟩ := hrel
  by_cases hlt : k < n
  ·have hlt' : (k : Int) < (n : Int) := by omega
   obtain ⟨b, off, rfl, c0, c1, c2, c3⟩ := (HR.out.below hbw).at hlt
   obtain ⟨ml1, ml2⟩ := HL.out k hlt
   have hlk : ls k = (q k).rs.length + (q k).os.length := by rw [← HLS.out]; rfl
   have e1 : (L - n - (sumL ls k : Nat)) - ((q k).rs.length : Int) - ((q k).os.length : Int) = L - n - (sumL ls (k + 1) : Nat) := by simp only [sumL]; omega
   have HE : Hid ((L - n - (sumL ls k : Nat)) - ((q k).rs.length : Int) - ((q k).os.length : Int) = L - n - (sumL ls (k + 1) : Nat)) := e1
   have e4 : L - n - (sumL ls k : Nat) ≤ 1048576 := by omega
   clear e1 hlk
   by_cases hb : ((q k).rs.length : Int) + ((q k).os.length : Int) ≤ L - n - (sumL ls k : Nat)
   ·have e3 : 0 ≤ L - n - (sumL ls (k + 1) : Nat) := by have := HE.out; omega
    have e3' : ¬ (L - n - (sumL ls (k + 1) : Nat) < 0) := by omega
    generalize hy : L - n - (sumL ls (k + 1) : Nat) = Y at *
    go_wp2_with fail
    refine (szState_small _ _ _ _ _ _ _ _ _ _ hb e4).mono ?_
    rintro e w1 ⟨rfl, b1⟩
    rw [HE.out]
    clear hb e4 hp c0 c1 c2 c3 ml1 ml2
    go_wp2
    go_roundw
    case rel => exact ⟨k + 1, by omega, by go_num, by rw [← hy], by omega, hbw.trans (b1.mono hbw.size)⟩
    case measure => simp [intOf]; omega
   ·have hb' : L - n - (sumL ls k : Nat) < ((q k).rs.length : Int) + ((q k).os.length : Int) := by omega
    go_wp2_with fail
    refine (szState_great _ _ _ _ _ _ _ _ _ _ hb' e4 hp ml1 ml2).mono ?_
    rintro e w1 ⟨rfl, b1⟩
    clear hb hb' e4 hp HE c0 c1 c2 c3 ml1 ml2
    go_wp2
    go_ret
    exact ⟨rfl, hbw.trans (b1.mono hbw.size)⟩
  ·have hkl : k = n := by omega
   subst hkl
   have := HS.out
   omega
theorem ownsRow_blk {w w' : World} {B size n : Nat} {e : TypeId} {v : Value} {xs : List Value} (h : w.ownsRow B e size v n xs) (hb : ∀ k, v.ownBlock = some k → w'.heap[k]? = w.heap[k]?) : w'.ownsRow B e size v n xs := by
 obtain ⟨h0, h⟩ := h
 refine ⟨h0, ?_⟩
 rcases h with h | ⟨g, cap, cur, rfl, h1, h2, h3⟩
 ·exact .inl h
 ·exact .inr ⟨g, cap, cur, rfl, h1, (hb g rfl).trans h2, h3⟩
theorem OwnI.blk {w w' : World} {B : Nat} {v : Value} {xs : List Int} (h : OwnI w B v xs) (hb : ∀ k, v.ownBlock = some k → w'.heap[k]? = w.heap[k]?) : OwnI w' B v xs := ownsRow_blk h hb
theorem StOwn.blk {w w' : World} {B : Nat} {v : Value} {p code : Int} {rs os : List Int} (h : StOwn w B v p rs os code) (hb : ∀ k, hasBlock v k → w'.heap[k]? = w.heap[k]?) : StOwn w' B v p rs os code := by
 obtain ⟨vr, vo, rfl, h1, h2, h3⟩ := h
 exact ⟨vr, vo, rfl, h1.blk fun k hk => hb k ((hasBlock_iff _ _ _ _ _).2 (.inl hk)), h2.blk fun k hk => hb k ((hasBlock_iff _ _ _ _ _).2 (.inr hk)), h3⟩
def Cel4 (w : World) (D j : Nat) (S : S4) (v : Value) : Prop := ∃ ra rc oa oc, v = stV S.p ra S.rs.length rc oa S.os.length oc S.c ∧ w.cell? ⟨D, j, none⟩ = some (.int .i64 S.p) ∧ w.cell? ⟨D, j + 1, none⟩ = some (.slice ra S.rs.length rc) ∧ w.cell? ⟨D, j + 2, none⟩ = some (.slice oa S.os.length oc) ∧ w.cell? ⟨D, j + 3, none⟩ = some (.int .i64 S.c)
structure OutState (w : World) (D hi n : Nat) (S : Nat → S4) (vs : Nat → Value) : Prop where
 cel : ∀ i, i < n → Cel4 w D (i * 4) (S i) (vs i)
 own : ∀ i, i < n → StOwn w (D + 1) (vs i) (S i).p (S i).rs (S i).os (S i).c
 bd : ∀ i, i < n → ∀ k, hasBlock (vs i) k → k < hi
 apart : ∀ i j, i < j → j < n → ∀ k, hasBlock (vs i) k → ¬ hasBlock (vs j) k
 fr : ∀ j, w.frozen? ⟨D, j, none⟩ = false
 le : hi ≤ w.heap.size
 lt : D < hi
theorem Cel4.blk {w w' : World} {D j : Nat} {S : S4} {v : Value} (h : Cel4 w D j S v) (hb : w'.heap[D]? = w.heap[D]?) : Cel4 w' D j S v := by
 obtain ⟨ra, rc, oa, oc, e, h0, h1, h2, h3⟩ := h
 exact ⟨ra, rc, oa, oc, e, (World.cell?_of_block hb).trans h0, (World.cell?_of_block hb).trans h1, (World.cell?_of_block hb).trans h2, (World.cell?_of_block hb).trans h3⟩
theorem OutState.below {w w' : World} {D hi n B : Nat} {S : Nat → S4} {vs : Nat → Value} (o : OutState w D hi n S vs) (hb : Below B w w') (hB : hi ≤ B) : OutState w' D hi n S vs :=
 have hD : w'.heap[D]? = w.heap[D]? := hb.block D (Nat.lt_of_lt_of_le o.lt hB)
 ⟨fun i hi' => (o.cel i hi').blk hD, fun i hi' => (o.own i hi').blk fun k hk => hb.block k (Nat.lt_of_lt_of_le (o.bd i hi' k hk) hB), o.bd, o.apart, fun j => (World.frozen?_of_block hD).trans (o.fr j), Nat.le_trans o.le hb.size, o.lt⟩
theorem OutState.keep {w w' : World} {D hi n : Nat} {S : Nat → S4} {vs : Nat → Value} (o : OutState w D hi n S vs) (hs : w.heap.size ≤ w'.heap.size) (hb : ∀ k, D ≤ k → k < hi → w'.heap[k]? = w.heap[k]?) : OutState w' D hi n S vs :=
 have hD : w'.heap[D]? = w.heap[D]? := hb D (Nat.le_refl _) o.lt
 ⟨fun i hi' => (o.cel i hi').blk hD, fun i hi' => (o.own i hi').blk fun k hk => hb k (by have := ((o.own i hi').lt hk).1; omega) (o.bd i hi' k hk), o.bd, o.apart, fun j => (World.frozen?_of_block hD).trans (o.fr j), Nat.le_trans o.le hs, o.lt⟩
theorem infoSta : (Tryz.prog.info? 39).map (fun i => (i.zero, i.size, i.bytes)) = some (some (stV 0 none 0 0 none 0 0 0), 4, 64) := by kernel_rfl
theorem run_make_sta (n : Nat) (hn : n ≤ 1048576) (w : World) :
  (Instr.makeSlice 25 (.int .i64 (n : Int)) (.int .i64 (n : Int))).run Tryz.prog w = .ok (.slice (some ⟨w.heap.size, 0, none⟩) n n) (w.alloc (.cells (madeCells (stV 0 none 0 0 none 0 0 0).cells (n * 4)) 39)) := by
 have hinfo := infoSta
 cases hi : Tryz.prog.info? 39 with
 | none => rw [hi] at hinfo; cases hinfo
 | some i =>
  rw [hi] at hinfo
  simp only [Option.map_some, Option.some.injEq, Prod.mk.injEq] at hinfo
  obtain ⟨hz, hs, hb⟩ := hinfo
  have h := run_make (P := Tryz.prog) w 25 39 i _ Tryz.underlying25 hi hz .i64 .i64 (n : Int) (n : Int) (by omega) (Int.le_refl _) (by rw [hb]; omega) (by omega)
  rw [hs] at h
  simpa using h
theorem madeSta_row (w : World) (n : Nat) : ∃ f, (w.alloc (.cells (madeCells (stV 0 none 0 0 none 0 0 0).cells (n * 4)) 39)).rowIs w.heap.size 39 (n * 4) f := by
 refine ⟨fun i => (stV 0 none 0 0 none 0 0 0).cells[i % 4]!, _, blk_alloc_new _ _, size_madeCells _ _, fun i hi => ?_⟩
 simp only [madeCells]
 rw [Array.getElem?_map, Array.getElem?_range, if_pos hi]
 rfl
structure FillS (w : World) (D k : Nat) (f : Nat → Value) (S : Nat → S4) (vs : Nat → Value) : Prop where
 cel : ∀ i, i < k → ∃ ra rc oa oc, vs i = stV (S i).p ra (S i).rs.length rc oa (S i).os.length oc (S i).c ∧ f (i * 4) = .int .i64 (S i).p ∧ f (i * 4 + 1) = .slice ra (S i).rs.length rc ∧ f (i * 4 + 2) = .slice oa (S i).os.length oc ∧ f (i * 4 + 3) = .int .i64 (S i).c
 own : ∀ i, i < k → StOwn w (D + 1) (vs i) (S i).p (S i).rs (S i).os (S i).c
 apart : ∀ i j, i < j → j < k → ∀ b, hasBlock (vs i) b → ¬ hasBlock (vs j) b
theorem FillS.step {w w1 : World} {D k : Nat} {f : Nat → Value} {S : Nat → S4} {vs : Nat → Value} (o : FillS w D k f S vs) (hb : Below w.heap.size w w1) (hD : D < w.heap.size) {ra oa : Option Addr} {rc oc : Nat} (hv : StOwn w1 w.heap.size (stV (S k).p ra (S k).rs.length rc oa (S k).os.length oc (S k).c) (S k).p (S k).rs (S k).os (S k).c) (a b c d : Value) :
  FillS ((((w1.setCell ⟨D, k * 4, none⟩ a).setCell ⟨D, k * 4 + 1, none⟩ b).setCell ⟨D, k * 4 + 2, none⟩ c).setCell ⟨D, k * 4 + 3, none⟩ d) D (k + 1)
   (fun i => if i = k * 4 + 3 then .int .i64 (S k).c else if i = k * 4 + 2 then .slice oa (S k).os.length oc else if i = k * 4 + 1 then .slice ra (S k).rs.length rc else if i = k * 4 then .int .i64 (S k).p else f i) S
   (fun i => if i = k then stV (S k).p ra (S k).rs.length rc oa (S k).os.length oc (S k).c else vs i) := by
 have hs : ∀ g, g ≠ D → ((((w1.setCell ⟨D, k * 4, none⟩ a).setCell ⟨D, k * 4 + 1, none⟩ b).setCell ⟨D, k * 4 + 2, none⟩ c).setCell ⟨D, k * 4 + 3, none⟩ d).heap[g]? = w1.heap[g]? := fun g hne => (Below.heap_setCell _ _ _ _ hne).trans ((Below.heap_setCell _ _ _ _ hne).trans ((Below.heap_setCell _ _ _ _ hne).trans (Below.heap_setCell _ _ _ _ hne)))
 refine ⟨fun i hi => ?_, fun i hi => ?_, fun i j hij hj g h1 => ?_⟩
 ·by_cases e : i = k
  ·subst e
   exact ⟨ra, rc, oa, oc, by simp, by simp, by simp, by simp, by simp⟩
  ·obtain ⟨ra', rc', oa', oc', e0, e1, e2, e3, e4⟩ := o.cel i (by omega)
   refine ⟨ra', rc', oa', oc', by simp only [if_neg e]; exact e0, ?_, ?_, ?_, ?_⟩
   ·rw [if_neg (by omega), if_neg (by omega), if_neg (by omega), if_neg (by omega)]; exact e1
   ·rw [if_neg (by omega), if_neg (by omega), if_neg (by omega), if_neg (by omega)]; exact e2
   ·rw [if_neg (by omega), if_neg (by omega), if_neg (by omega), if_neg (by omega)]; exact e3
   ·rw [if_neg (by omega), if_neg (by omega), if_neg (by omega), if_neg (by omega)]; exact e4
 ·by_cases e : i = k
  ·subst e
   simp only [if_true]
   refine StOwn.blk (hv.mono (by omega)) fun g hg => hs g ?_
   have := (hv.lt hg).1
   omega
  ·simp only [if_neg e]
   have ho := o.own i (by omega)
   refine (ho.below hb).blk fun g hg => hs g ?_
   have := (ho.lt hg).1
   omega
 ·by_cases e : j = k
  ·have hi : i ≠ k := by omega
   simp only [if_neg hi] at h1
   simp only [if_pos e]
   intro h2
   have a1 := ((o.own i (by omega)).lt h1).2
   have a2 := (hv.lt h2).1
   omega
  ·have hi : i ≠ k := by omega
   simp only [if_neg hi] at h1
   simp only [if_neg e]
   exact o.apart i j hij (by omega) g h1
theorem toStateS_any (a0 : Option Addr) (n cap : Nat) (q : Nat → St8) (W w : World) (hn : n ≤ 1048576) (hl : ∀ i, i < n → (q i).rs.length ≤ 1048576 ∧ (q i).os.length ≤ 1048576) (hA : AllState W a0 n q) (hW : Below W.heap.size W w) :
  Calls Tryz.prog 62 #[.slice a0 n cap] w fun e w' => e = .returned (.slice (some ⟨w.heap.size, 0, none⟩) n n) ∧ (∃ vs, OutState w' w.heap.size w'.heap.size n (fun i => (q i).s) vs) ∧ Below w.heap.size w w' := by
 have hl' : (n : Int) ≤ 1048576 := by omega
 have hmk := run_make_sta n hn
 have HA : Hid (AllState W a0 n q) := hA
 have HW : Hid (Below W.heap.size W w) := hW
 have HL : Hid (∀ i, i < n → (q i).rs.length ≤ 1048576 ∧ (q i).os.length ≤ 1048576) := hl
 clear hA hW hl
 go_enter Tryz.func62, Tryz.ntmps62
 go_wp2_with fail
 clear hmk
 go_loopw [4] (fun i wr => ∃ k : Nat, k ≤ n ∧ i = .int .i64 k ∧ (∃ f, wr.rowIs w.heap.size 39 (n * 4) f ∧ Hid (∃ vs, FillS wr w.heap.size k f (fun i => (q i).s) vs)) ∧ Below w.heap.size w wr) (fun i _ => n - (intOf i).toNat)
 case atStart =>
  obtain ⟨f, hf⟩ := madeSta_row w n
  exact ⟨0, Nat.zero_le _, rfl, ⟨f, hf, fun _ => .int .i64 0, fun i hi => by omega, fun i hi => by omega, fun i j hij hj => by omega⟩, (Below.refl _ _).alloc (Nat.le_refl _) _⟩
 case round =>
  obtain ⟨k, hk, rfl, ⟨f, hrow, HF⟩, hbw⟩ := hrel
  have hs := hrow.lt
  by_cases hlt : k < n
  ·have hlt' : (k : Int) < (n : Int) := by omega
   have HB : Hid (AllState wr a0 n q) := HA.out.below (HW.out.trans (hbw.mono HW.out.size))
   obtain ⟨b, off, rfl, c0, c1, c2, c3⟩ := HB.out.at hlt
   have HR : Hid (wr.rowIs w.heap.size 39 (n * 4) f) := hrow
   clear hrow
   go_wp2_with fail
   refine (toState_any _ _ _ _ _ _ (q k).rs (q k).os _ (HL.out k hlt).1 (HL.out k hlt).2 (HB.out.lst k hlt).1 (HB.out.lst k hlt).2).mono ?_
   rintro e w1 ⟨v1, rfl, o1, hb1⟩
   obtain ⟨ra1, rc1, oa1, oc1, rfl, -, -⟩ := o1.read
   have hr1 : w1.rowIs w.heap.size 39 (n * 4) f := HR.out.of_block (hb1.block _ hs)
   have f0 := hr1.frozen
   have g0 := hr1.cell (i := k * 4) (by omega)
   have g1 := hr1.cell (i := k * 4 + 1) (by omega)
   have g2 := hr1.cell (i := k * 4 + 2) (by omega)
   have g3 := hr1.cell (i := k * 4 + 3) (by omega)
   have HR1 : Hid (w1.rowIs w.heap.size 39 (n * 4) f) := hr1
   have HF1 : Hid (∀ a b c d : Value, ∃ vs, FillS ((((w1.setCell ⟨w.heap.size, k * 4, none⟩ a).setCell ⟨w.heap.size, k * 4 + 1, none⟩ b).setCell ⟨w.heap.size, k * 4 + 2, none⟩ c).setCell ⟨w.heap.size, k * 4 + 3, none⟩ d) w.heap.size (k + 1) (fun i => if i = k * 4 + 3 then .int .i64 (q k).c else if i = k * 4 + 2 then .slice oa1 (q k).os.length oc1 else if i = k * 4 + 1 then .slice ra1 (q k).rs.length rc1 else if i = k * 4 then .int .i64 (q k).p else f i) (fun i => (q i).s) vs) := by
    intro a b c d
    obtain ⟨vs, o⟩ := HF.out
    exact ⟨_, o.step hb1 hs (S := fun i => (q i).s) (k := k) o1 a b c d⟩
   clear hr1 o1 HF HR HB c0 c1 c2 c3
   go_wp2_with fail
   exact ⟨⟨k + 1, by omega, by go_num, ⟨_, (((HR1.out.set _ _).set _ _).set _ _).set _ _, HF1.out _ _ _ _⟩, ((((hbw.trans (hb1.mono (Nat.le_of_lt hs))).setCell (Nat.le_refl _) _).setCell (Nat.le_refl _) _).setCell (Nat.le_refl _) _).setCell (Nat.le_refl _) _⟩, by simp [intOf]; omega⟩
  ·have hkl : k = n := by omega
   have HO : Hid (∃ vs, OutState wr w.heap.size wr.heap.size n (fun i => (q i).s) vs) := by
    obtain ⟨vs, o⟩ := HF.out
    rw [hkl] at o
    refine ⟨vs, fun i hi => ?_, o.own, fun i hi b hb => ((o.own i hi).lt hb).2, o.apart, fun j => hrow.frozen j, Nat.le_refl _, hs⟩
    obtain ⟨ra, rc, oa, oc, e0, e1, e2, e3, e4⟩ := o.cel i hi
    exact ⟨ra, rc, oa, oc, e0, by rw [hrow.cell (by omega), e1], by rw [hrow.cell (by omega), e2], by rw [hrow.cell (by omega), e3], by rw [hrow.cell (by omega), e4]⟩
   clear hkl HF hrow
   go_wp2
   go_ret
   exact ⟨rfl, HO.out, hbw⟩
theorem append_one {ops : Array Oper} {rest : List Oper} {op : Oper} {act : Act} {Q : Exit → Act → World → Prop} (w : World) (hgd : op.guard = none) (s x : Operand)
  (ho : op.op = .call { callee := .builtin .append, args := #[s, x], argTypes := #[37, 37] })
  (B : Nat) (v : Value) (xs : List Int) (hs : act.eval s = v) (hv : OwnI w B v xs) (y : Int) (hx : act.eval x = .slice (some ⟨w.heap.size, 0, none⟩) 1 1) (hn : xs.length ≤ 1048576) (hB : B ≤ w.heap.size)
  (h : ∀ v' w', OwnI w' B v' (xs ++ [y]) → Below B w w' → wpList Tryz.prog ops Q rest (act.put op.dst v') w') :
  wpList Tryz.prog ops Q (op :: rest) act (w.alloc (.cells #[.int .i64 y] 3)) := by
 have hb : Below w.heap.size w (w.alloc (.cells #[.int .i64 y] 3)) := (Below.refl _ _).alloc (Nat.le_refl _) _
 refine wpList_append_ints _ hgd s x ho B 1 v (some ⟨w.heap.size, 0, none⟩) xs [y] hs hx (hv.below hb) (.inr ⟨w.heap.size, 0, rfl, by simp, fun i hi => ?_⟩) (by simp; omega) (by simp; omega) ?_
 ·have : i = 0 := by simp at hi; omega
  subst this
  exact new_cell _ _ _ 0 rfl
 ·intro v' w' o g _
  refine h v' w' o (Below.grown (hb.mono hB) g (by simp; omega) (fun k hk => (hv.lt k hk).1))
theorem append_oneN {ops : Array Oper} {rest : List Oper} {op : Oper} {act : Act} {Q : Exit → Act → World → Prop} (w : World) {N : Nat} (hN : N = w.heap.size) (hgd : op.guard = none) (s x : Operand)
  (ho : op.op = .call { callee := .builtin .append, args := #[s, x], argTypes := #[37, 37] })
  (B : Nat) (v : Value) (xs : List Int) (hs : act.eval s = v) (hv : OwnI w B v xs) (y : Int) (hx : act.eval x = .slice (some ⟨N, 0, none⟩) 1 1) (hn : xs.length ≤ 1048576) (hB : B ≤ w.heap.size)
  (h : ∀ v' w', OwnI w' B v' (xs ++ [y]) → Below B w w' → wpList Tryz.prog ops Q rest (act.put op.dst v') w') :
  wpList Tryz.prog ops Q (op :: rest) act (w.alloc (.cells #[.int .i64 y] 3)) := by
 subst hN
 exact append_one w hgd s x ho B v xs hs hv y hx hn hB h
theorem OwnI.to {w : World} {B : Nat} {v : Value} {xs ys : List Int} (h : OwnI w B v xs) (e : ys = xs) : OwnI w B v ys := e ▸ h
def lenV : Value → Nat
 | .slice _ n _ => n
 | _ => 0
def Way (w wr : World) (W0 c len cap : Nat) (a0 : Option Addr) (g n gc : Nat) : Prop :=
 Lst wr w.heap.size (.slice (some ⟨g, 0, none⟩) n gc) n ∧ Cur wr W0 c a0 len cap ∧ w.grownBy wr (some c)
theorem below_allocL (w : World) (o : Obj) : Below w.heap.size w (w.alloc o) := (Below.refl _ _).alloc (Nat.le_refl _) _
def Src (w : World) (a0 : Option Addr) (cs : List Value) : Prop := cs = [] ∨ ∃ b off, a0 = some ⟨b, off, none⟩ ∧ b < w.heap.size ∧ ∀ j u, cs[j]? = some u → w.cell? ⟨b, off + j, none⟩ = some u
theorem Src.below {w w' : World} {a0 : Option Addr} {cs : List Value} (h : Src w a0 cs) (hb : Below w.heap.size w w') : Src w' a0 cs := by
 rcases h with h | ⟨b, off, e, hlt, hc⟩
 ·exact .inl h
 ·exact .inr ⟨b, off, e, Nat.lt_of_lt_of_le hlt hb.size, fun j u hj => (hb.cell (p := ⟨b, off + j, none⟩) hlt).trans (hc j u hj)⟩
structure Kind (t e : TypeId) (size bytes : Nat) : Prop where
 und : Tryz.prog.underlying t = some (.slice e)
 inf : ∃ i z, Tryz.prog.info? e = some i ∧ i.zero = some z ∧ i.size = size ∧ i.bytes = bytes ∧ z.cells.size = size
 pos : 0 < size
 sml : bytes ≤ 64
theorem run_append_src {t e : TypeId} {size bytes : Nat} (K : Kind t e size bytes) (w : World) (ty : TypeId) (B : Nat) (v : Value) (n : Nat) (xs : List Value) (hown : w.ownsRow B e size v n xs) (a0 : Option Addr) (m c : Nat) (news : List Value) (hl : news.length = m * size) (hsrc : Src w a0 news) (h1 : ∀ u ∈ news, u.oneCell' = true) (hnm : n + m ≤ 4000000) (hB : B ≤ w.heap.size) :
  ∃ v' w', (Builtin.append_ #[t, t] ty #[v, .slice a0 m c]).run Tryz.prog w = .ok v' w' ∧ w'.ownsRow B e size v' (n + m) (xs ++ news) ∧ w.grownBy w' v.ownBlock ∧ (v'.ownBlock = v.ownBlock ∨ v'.ownBlock = some w.heap.size) ∧ (v ≠ .slice none 0 0 ∨ 0 < m → v' ≠ .slice none 0 0) := by
 obtain ⟨i, z, hi, hz, hs, hb, hzs⟩ := K.inf
 have hby : (n + m) * bytes ≤ 140737488355328 := Nat.le_trans (Nat.mul_le_mul hnm K.sml) (by omega)
 cases a0 with
 | none =>
  have hn0 : news = [] := by
   rcases hsrc with h | ⟨b, off, e, _⟩
   ·exact h
   ·cases e
  subst hn0
  have hm : m = 0 := by
   have := K.pos
   simp only [List.length_nil] at hl
   rcases Nat.eq_zero_or_pos m with h | h
   ·exact h
   ·have := Nat.mul_pos h K.pos
    omega
  subst hm
  refine ⟨v, w, ?_, by simpa using hown, World.grownBy.refl _ _, .inl rfl, fun h => h.elim id fun h => by omega⟩
  rcases hown.2 with ⟨rfl, _⟩ | ⟨g, cap, cur, rfl, _, _, hnc, _⟩
  ·simp [Builtin.append_, run_underlying K.und, sizeOf, typeInfo, hi, Builtin.lenOf, Builtin.firstCells]
  ·simp [Builtin.append_, run_underlying K.und, sizeOf, typeInfo, hi, Builtin.lenOf, Builtin.firstCells, hnc, storeCells]
 | some a =>
  have hnews : ∀ j u, news[j]? = some u → w.cell? (a.add j) = some u := by
   rcases hsrc with h0 | ⟨b, off, e, hlt, hc⟩
   ·subst h0
    intro j u hj
    simp at hj
   ·cases e
    intro j u hj
    have ha : Addr.add ⟨b, off, none⟩ j = ⟨b, off + j, none⟩ := by unfold Addr.add; split <;> simp_all
    rw [ha]
    exact hc j u hj
  obtain ⟨v', w', r1, r2, r3, r4, r5⟩ := run_append_own_at (P := Tryz.prog) w B t ty e i z size bytes K.und hi hz hs hb hzs K.pos v n xs hown a m c news hl hnews h1 (by unfold maxLen; omega) hby hB
  exact ⟨v', w', r1, r2, r3, r5, fun h e => h.elim (fun h => h (r4.1 e).1) fun h => by have := (r4.1 e).2; omega⟩
theorem step_append_src {ops : Array Oper} {rest : List Oper} {op : Oper} {act : Act} {Q : Exit → Act → World → Prop} {t e : TypeId} {size bytes : Nat} (K : Kind t e size bytes) (w : World) (hgd : op.guard = none) (s x : Operand)
  (ho : op.op = .call { callee := .builtin .append, args := #[s, x], argTypes := #[t, t] })
  (B : Nat) (v : Value) (n : Nat) (xs : List Value) (hs : act.eval s = v) (hown : w.ownsRow B e size v n xs) (a0 : Option Addr) (m c : Nat) (news : List Value) (hx : act.eval x = .slice a0 m c) (hl : news.length = m * size) (hsrc : Src w a0 news) (h1 : ∀ u ∈ news, u.oneCell' = true) (hnm : n + m ≤ 4000000) (hB : B ≤ w.heap.size)
  (h : ∀ v' w', w'.ownsRow B e size v' (n + m) (xs ++ news) → w.grownBy w' v.ownBlock → (v'.ownBlock = v.ownBlock ∨ v'.ownBlock = some w.heap.size) → (v ≠ .slice none 0 0 ∨ 0 < m → v' ≠ .slice none 0 0) → wpList Tryz.prog ops Q rest (act.put op.dst v') w') :
  wpList Tryz.prog ops Q (op :: rest) act w := by
 obtain ⟨v', w', r1, r2, r3, r4, r5⟩ := run_append_src K w op.type B v n xs hown a0 m c news hl hsrc h1 hnm hB
 refine wpList_plain hgd fun K hK => ?_
 unfold Oper.wp execOp
 simp only [ho, resolve, invoke, builtin, Sem.run_bind, Sem.run_pure, Result.andThen_ok, List.map_toArray, List.map_cons, List.map_nil, hs, hx, r1]
 exact hK _ _ (h v' w' r2 r3 r4 r5)
theorem step_append_srcN {ops : Array Oper} {rest : List Oper} {op : Oper} {act : Act} {Q : Exit → Act → World → Prop} {t e : TypeId} {size bytes : Nat} (K : Kind t e size bytes) (w : World) {N : Nat} (hN : N = w.heap.size) (hgd : op.guard = none) (s x : Operand)
  (ho : op.op = .call { callee := .builtin .append, args := #[s, x], argTypes := #[t, t] })
  (a0 : Option Addr) (m c : Nat) (news : List Value) (hs : act.eval s = .slice (some ⟨N, 0, none⟩) 0 0) (hx : act.eval x = .slice a0 m c) (hl : news.length = m * size) (hsrc : Src w a0 news) (h1 : ∀ u ∈ news, u.oneCell' = true) (hnm : m ≤ 4000000)
  (h : ∀ v' w', w'.ownsRow w.heap.size e size v' m news → Below w.heap.size w w' → v' ≠ .slice none 0 0 → wpList Tryz.prog ops Q rest (act.put op.dst v') w') :
  wpList Tryz.prog ops Q (op :: rest) act (w.alloc (.cells #[] e)) := by
 subst hN
 have hb : Below w.heap.size w (w.alloc (.cells #[] e)) := below_allocL _ _
 refine step_append_src K _ hgd s x ho w.heap.size (.slice (some ⟨w.heap.size, 0, none⟩) 0 0) 0 [] hs (World.ownsRow_made (base := w.heap.size) (e := e) (size := size) w #[] 0 (Nat.le_refl _) (by unfold maxLen; omega) (by simp)) a0 m c news hx hl (hsrc.below hb) h1 (by omega) (by simp) ?_
 intro v' w' o g _ hne
 rw [Nat.zero_add, List.nil_append] at o
 exact h v' w' o (hb.grown g (by simp) (fun k hk => by cases hk; exact Nat.le_refl _)) (hne (.inl (by simp)))
theorem step_append_val {ops : Array Oper} {rest : List Oper} {op : Oper} {act : Act} {Q : Exit → Act → World → Prop} {t e : TypeId} {size bytes : Nat} (K : Kind t e size bytes) (w : World) {N : Nat} (hN : N = w.heap.size) (hgd : op.guard = none) (s x : Operand)
  (ho : op.op = .call { callee := .builtin .append, args := #[s, x], argTypes := #[t, t] })
  (B : Nat) (v : Value) (n : Nat) (xs : List Value) (hs : act.eval s = v) (hown : w.ownsRow B e size v n xs) (cs : Array Value) (hx : act.eval x = .slice (some ⟨N, 0, none⟩) 1 1) (hl : cs.size = size) (h1 : ∀ u ∈ cs.toList, u.oneCell' = true) (hn : n ≤ 2000000) (hB : B ≤ w.heap.size)
  (h : ∀ v' w', w'.ownsRow B e size v' (n + 1) (xs ++ cs.toList) → w.grownBy w' v.ownBlock → (∀ j, v'.ownBlock = some j → v.ownBlock = some j ∨ w.heap.size ≤ j) → v' ≠ .slice none 0 0 → wpList Tryz.prog ops Q rest (act.put op.dst v') w') :
  wpList Tryz.prog ops Q (op :: rest) act (w.alloc (.cells cs e)) := by
 subst hN
 have hb : Below w.heap.size w (w.alloc (.cells cs e)) := below_allocL _ _
 refine step_append_src K _ hgd s x ho B v n xs hs (hown.alloc _) (some ⟨w.heap.size, 0, none⟩) 1 1 cs.toList hx (by simp [hl]) (.inr ⟨w.heap.size, 0, rfl, by simp, fun j u hj => ?_⟩) h1 (by omega) (by simp; omega) ?_
 ·rw [Nat.zero_add, new_cell _ _ _ j rfl]
  simpa using hj
 ·intro v' w' o g hbk hne
  refine h v' w' o ⟨g.os, g.tape, g.output, Nat.le_trans hb.size g.size, fun j hj hne => (g.block j (Nat.lt_of_lt_of_le hj hb.size) hne).trans (hb.block j hj)⟩ (fun j hj => ?_) (hne (.inr (by omega)))
  rcases hbk with a | a
  ·exact .inl (a.symm.trans hj)
  ·rw [hj] at a
   simp only [Option.some.injEq] at a
   right
   rw [a]
   simp
def Nz (z : Bool) (e : TypeId) : Prop := z = true ∨ e = 99
theorem nzI {z : Bool} : Nz z 99 := .inr rfl
theorem nzT (e : TypeId) : Nz true e := .inl rfl
structure LL (z : Bool) (e : TypeId) (sz : Nat) (E : TypeId) (w : World) (P : Nat → Prop) (v : Value) (n : Nat) (u : Nat → Value) (L : Nat → Nat) (c : Nat → List Value) : Prop where
 row : w.ownsRow 0 E 1 v n ((List.range n).map u)
 own : ∀ i, i < n → w.ownsRow 0 e sz (u i) (L i) (c i)
 rb : ∀ k, v.ownBlock = some k → P k
 ob : ∀ i, i < n → ∀ k, (u i).ownBlock = some k → P k
 ra : ∀ i, i < n → ∀ k, (u i).ownBlock = some k → v.ownBlock ≠ some k
 oa : ∀ i j, i < n → j < n → i ≠ j → ∀ k, (u i).ownBlock = some k → (u j).ownBlock ≠ some k
 nn : Nz z e → ∀ i, i < n → u i ≠ .slice none 0 0
theorem ownsRow_blkL {w w' : World} {B size n : Nat} {e : TypeId} {v : Value} {xs : List Value} (h : w.ownsRow B e size v n xs) (hb : ∀ k, v.ownBlock = some k → w'.heap[k]? = w.heap[k]?) : w'.ownsRow B e size v n xs := by
 refine ⟨h.1, ?_⟩
 rcases h.2 with hn | ⟨g, cap, cur, rfl, hB, hg, hr⟩
 ·exact .inl hn
 ·exact .inr ⟨g, cap, cur, rfl, hB, (hb g rfl).trans hg, hr⟩
theorem ownsRow_base0 {w : World} {B size n : Nat} {e : TypeId} {v : Value} {xs : List Value} (h : w.ownsRow B e size v n xs) : w.ownsRow 0 e size v n xs := h.mono (Nat.zero_le _)
section
variable {z : Bool} {e : TypeId} {sz : Nat} {E : TypeId} {w : World} {P : Nat → Prop} {v : Value} {n : Nat} {u : Nat → Value} {L : Nat → Nat} {c : Nat → List Value}
theorem LL.keep (o : LL z e sz E w P v n u L c) {w' : World} (hb : ∀ k, P k → k < w.heap.size → w'.heap[k]? = w.heap[k]?) : LL z e sz E w' P v n u L c :=
 ⟨ownsRow_blkL o.row fun k hk => hb k (o.rb k hk) (o.row.lt k hk).2, fun i hi => ownsRow_blkL (o.own i hi) fun k hk => hb k (o.ob i hi k hk) ((o.own i hi).lt k hk).2, o.rb, o.ob, o.ra, o.oa, o.nn⟩
theorem LL.below (o : LL z e sz E w P v n u L c) {w' : World} (hb : Below w.heap.size w w') : LL z e sz E w' P v n u L c := o.keep fun k _ hk => hb.block k hk
theorem LL.mono (o : LL z e sz E w P v n u L c) {P' : Nat → Prop} (h : ∀ k, P k → k < w.heap.size → P' k) : LL z e sz E w P' v n u L c :=
 ⟨o.row, o.own, fun k hk => h k (o.rb k hk) (o.row.lt k hk).2, fun i hi k hk => h k (o.ob i hi k hk) ((o.own i hi).lt k hk).2, o.ra, o.oa, o.nn⟩
theorem LL.pushG (o : LL z e sz E w P v n u L c) {w1 w2 : World} {u' v' : Value} (hsz : w.heap.size ≤ w1.heap.size) (hb : ∀ k, P k → k < w.heap.size → w1.heap[k]? = w.heap[k]?) (hu : w1.ownsRow w.heap.size e sz u' (L n) (c n)) (hne : Nz z e → u' ≠ .slice none 0 0) (hv : w2.ownsRow 0 E 1 v' (n + 1) ((List.range n).map u ++ [u'])) (g : w1.grownBy w2 v.ownBlock)
  (hv' : ∀ j, v'.ownBlock = some j → v.ownBlock = some j ∨ w1.heap.size ≤ j) {P' : Nat → Prop} (hP : ∀ k, P k → k < w.heap.size → P' k) (hP' : ∀ k, w.heap.size ≤ k → k < w2.heap.size → P' k) : LL z e sz E w2 P' v' (n + 1) (fun j => if j = n then u' else u j) L c := by
 have hvlt : ∀ k, v.ownBlock = some k → k < w.heap.size := fun k hk => (o.row.lt k hk).2
 have hu2 : w2.ownsRow w.heap.size e sz u' (L n) (c n) := hu.kept g (by
  cases hk : u'.ownBlock with
  | none => exact .inl rfl
  | some k =>
   refine .inr fun e => ?_
   have q1 := (hu.lt k hk).1
   have q2 := hvlt k e.symm
   omega)
 have ho2 : ∀ i, i < n → w2.ownsRow 0 e sz (u i) (L i) (c i) := fun i hi => ownsRow_blkL (o.own i hi) fun k hk => (g.block k (Nat.lt_of_lt_of_le ((o.own i hi).lt k hk).2 hsz) fun e => o.ra i hi k hk e.symm).trans (hb k (o.ob i hi k hk) ((o.own i hi).lt k hk).2)
 have lts : ∀ i, i < n → ∀ k, (u i).ownBlock = some k → k < w.heap.size := fun i hi k hk => ((o.own i hi).lt k hk).2
 refine ⟨?_, fun i hi => ?_, fun k hk => ?_, fun i hi k hk => ?_, fun i hi k hk => ?_, fun i j hi hj hij k hk => ?_, fun hz i hi => ?_⟩
 ·have e : (List.range (n + 1)).map (fun j => if j = n then u' else u j) = (List.range n).map u ++ [u'] := by
   rw [List.range_succ, List.map_append]
   simp only [List.map_cons, List.map_nil, if_true]
   congr 1
   exact List.map_congr_left fun j hj => by
    rw [if_neg]
    have := List.mem_range.1 hj
    omega
  rw [e]
  exact hv
 ·by_cases ei : i = n
  ·subst ei
   rw [if_pos rfl]
   exact ownsRow_base0 hu2
  ·rw [if_neg ei]
   exact ho2 i (by omega)
 ·rcases hv' k hk with h | h
  ·exact hP k (o.rb k h) (hvlt k h)
  ·exact hP' k (Nat.le_trans hsz h) (hv.lt k hk).2
 ·by_cases ei : i = n
  ·simp only [if_pos ei] at hk
   exact hP' k (hu.lt k hk).1 (hu2.lt k hk).2
  ·simp only [if_neg ei] at hk
   exact hP k (o.ob i (by omega) k hk) (lts i (by omega) k hk)
 ·intro hvk
  by_cases ei : i = n
  ·simp only [if_pos ei] at hk
   rcases hv' k hvk with h | h
   ·have := hvlt k h
    have := (hu.lt k hk).1
    omega
   ·have := (hu.lt k hk).2
    omega
  ·simp only [if_neg ei] at hk
   rcases hv' k hvk with h | h
   ·exact o.ra i (by omega) k hk h
   ·have := lts i (by omega) k hk
    omega
 ·intro hjk
  by_cases ei : i = n
  ·have ej : j ≠ n := fun e => hij (by omega)
   simp only [if_pos ei] at hk
   simp only [if_neg ej] at hjk
   have := lts j (by omega) k hjk
   have := (hu.lt k hk).1
   omega
  ·simp only [if_neg ei] at hk
   by_cases ej : j = n
   ·simp only [if_pos ej] at hjk
    have := lts i (by omega) k hk
    have := (hu.lt k hjk).1
    omega
   ·simp only [if_neg ej] at hjk
    exact o.oa i j (by omega) (by omega) hij k hk hjk
 ·by_cases ei : i = n
  ·rw [if_pos ei]
   exact hne hz
  ·rw [if_neg ei]
   exact o.nn hz i (by omega)
theorem LL.push (o : LL z e sz E w P v n u L c) {w1 w2 : World} {u' v' : Value} (b1 : Below w.heap.size w w1) (hu : w1.ownsRow w.heap.size e sz u' (L n) (c n)) (hne : Nz z e → u' ≠ .slice none 0 0) (hv : w2.ownsRow 0 E 1 v' (n + 1) ((List.range n).map u ++ [u'])) (g : w1.grownBy w2 v.ownBlock)
  (hv' : ∀ j, v'.ownBlock = some j → v.ownBlock = some j ∨ w1.heap.size ≤ j) {P' : Nat → Prop} (hP : ∀ k, P k → k < w.heap.size → P' k) (hP' : ∀ k, w.heap.size ≤ k → k < w2.heap.size → P' k) : LL z e sz E w2 P' v' (n + 1) (fun j => if j = n then u' else u j) L c :=
 o.pushG b1.size (fun k _ hk => b1.block k hk) hu hne hv g hv' hP hP'
theorem LL.nil (e : TypeId) (sz : Nat) (E : TypeId) (w : World) (P : Nat → Prop) (u : Nat → Value) (L : Nat → Nat) (c : Nat → List Value) : LL z e sz E w P (.slice none 0 0) 0 u L c :=
 ⟨World.ownsRow_nil _ _ _ _, fun i hi => (by omega), fun k hk => (by cases hk), fun i hi => (by omega), fun i hi => (by omega), fun i j hi => (by omega), fun _ i hi => by omega⟩
theorem LL.new (e : TypeId) (sz : Nat) (E : TypeId) (w : World) (P : Nat → Prop) (hP : P w.heap.size) (u : Nat → Value) (L : Nat → Nat) (c : Nat → List Value) : LL z e sz E (w.alloc (.cells #[] E)) P (.slice (some ⟨w.heap.size, 0, none⟩) 0 0) 0 u L c :=
 ⟨World.ownsRow_made (base := 0) (e := E) (size := 1) w #[] 0 (Nat.zero_le _) (by unfold maxLen; omega) rfl, fun i hi => (by omega), fun k hk => (by cases hk; exact hP), fun i hi => (by omega), fun i hi => (by omega), fun i j hi => (by omega), fun _ i hi => by omega⟩
theorem LL.cell (o : LL z e sz E w P v n u L c) {i : Nat} (hi : i < n) : ∃ g cap, v = .slice (some ⟨g, 0, none⟩) n cap ∧ P g ∧ g < w.heap.size ∧ w.cell? ⟨g, i, none⟩ = some (u i) ∧ ∀ j, w.frozen? ⟨g, j, none⟩ = false := by
 rcases o.row.2 with ⟨_, h0⟩ | ⟨g, cap, cur, rfl, hb, hg, hr⟩
 ·omega
 ·refine ⟨g, cap, rfl, o.rb g rfl, (o.row.lt g rfl).2, ?_, fun j => o.row.frozenAt j⟩
  rw [o.row.cellAt i (by omega)]
  simp [hi]
theorem LL.put {g cap : Nat} (o : LL z e sz E w P (.slice (some ⟨g, 0, none⟩) n cap) n u L c) {i : Nat} (hi : i < n) {w1 : World} {u' : Value} {m : Nat} {c' : List Value} (_hs : w.heap.size ≤ w1.heap.size) (g1 : ∀ k, k < w.heap.size → (u i).ownBlock ≠ some k → w1.heap[k]? = w.heap[k]?)
  (hu : w1.ownsRow 0 e sz u' m c') (hne : Nz z e → u' ≠ .slice none 0 0) (hb : ∀ k, u'.ownBlock = some k → (u i).ownBlock = some k ∨ w.heap.size ≤ k) {P' : Nat → Prop} (hP : ∀ k, P k → k < w.heap.size → P' k) (hP' : ∀ k, w.heap.size ≤ k → k < w1.heap.size → P' k) :
  LL z e sz E (w1.setCell ⟨g, i, none⟩ u') P' (.slice (some ⟨g, 0, none⟩) n cap) n (fun j => if j = i then u' else u j) (fun j => if j = i then m else L j) (fun j => if j = i then c' else c j) := by
 have hg : g < w.heap.size := (o.row.lt g rfl).2
 have hgi : (u i).ownBlock ≠ some g := fun e => o.ra i hi g e rfl
 have row1 : w1.ownsRow 0 E 1 (.slice (some ⟨g, 0, none⟩) n cap) n ((List.range n).map u) := ownsRow_blkL o.row fun k hk => by
  cases hk
  exact g1 g hg hgi
 have hu'g : u'.ownBlock ≠ some g := fun e => by
  rcases hb g e with h | h
  ·exact hgi h
  ·omega
 have lts : ∀ j, j < n → ∀ k, (u j).ownBlock = some k → k < w.heap.size := fun j hj k hk => ((o.own j hj).lt k hk).2
 refine ⟨?_, fun j hj => ?_, fun k hk => ?_, fun j hj k hk => ?_, fun j hj k hk => ?_, fun a b ha hb' hab k hk => ?_, fun hz j hj => ?_⟩
 ·have h := (World.ownsRow.stored row1 i u').1
  have e : (List.range n).map (fun j => if j = i then u' else u j) = ((List.range n).map u).set i u' := by
   apply List.ext_getElem (by simp)
   intro j h1 h2
   simp only [List.getElem_map, List.getElem_range, List.getElem_set]
   by_cases q : j = i
   ·rw [if_pos q, if_pos q.symm]
   ·rw [if_neg q, if_neg fun e => q e.symm]
  rw [e]
  exact h
 ·by_cases ej : j = i
  ·subst ej
   simp only [if_true]
   exact ownsRow_setCell_other hu hu'g _
  ·simp only [if_neg ej]
   refine ownsRow_setCell_other (ownsRow_blkL (o.own j hj) fun k hk => g1 k (lts j hj k hk) fun e => o.oa j i hj hi ej k hk e) (fun e => o.ra j hj g e rfl) _
 ·cases hk
  exact hP g (o.rb g rfl) hg
 ·by_cases ej : j = i
  ·simp only [if_pos ej] at hk
   rcases hb k hk with h | h
   ·exact hP k (o.ob i hi k h) (lts i hi k h)
   ·exact hP' k h (hu.lt k hk).2
  ·simp only [if_neg ej] at hk
   exact hP k (o.ob j hj k hk) (lts j hj k hk)
 ·intro hvk
  cases hvk
  by_cases ej : j = i
  ·simp only [if_pos ej] at hk
   exact hu'g hk
  ·simp only [if_neg ej] at hk
   exact o.ra j hj g hk rfl
 ·intro hbk
  by_cases ea : a = i
  ·have eb : b ≠ i := fun e => hab (by omega)
   simp only [if_pos ea] at hk
   simp only [if_neg eb] at hbk
   rcases hb k hk with h | h
   ·exact o.oa b i hb' hi eb k hbk h
   ·have := lts b hb' k hbk
    omega
  ·simp only [if_neg ea] at hk
   by_cases eb : b = i
   ·simp only [if_pos eb] at hbk
    rcases hb k hbk with h | h
    ·exact o.oa a i ha hi ea k hk h
    ·have := lts a ha k hk
     omega
   ·simp only [if_neg eb] at hbk
    exact o.oa a b ha hb' hab k hk hbk
 ·by_cases ej : j = i
  ·simp only [if_pos ej]
   exact hne hz
  ·simp only [if_neg ej]
   exact o.nn hz j hj
end
def flat (f : Nat → List Value) : Nat → List Value
 | 0 => []
 | n + 1 => flat f n ++ f n
theorem flat_len {f : Nat → List Value} {sz : Nat} : ∀ {n : Nat}, (∀ i, i < n → (f i).length = sz) → (flat f n).length = n * sz
 | 0, _ => by simp [flat]
 | n + 1, h => by
  rw [flat, List.length_append, flat_len (fun i hi => h i (by omega)), h n (by omega), Nat.add_mul, Nat.one_mul]
theorem flat_at {f : Nat → List Value} {sz : Nat} : ∀ {n : Nat}, (∀ i, i < n → (f i).length = sz) → ∀ {i j : Nat}, i < n → j < sz → (flat f n)[i * sz + j]? = (f i)[j]?
 | 0, _, i, j, hi, _ => by omega
 | n + 1, h, i, j, hi, hj => by
  have hl := flat_len (f := f) (sz := sz) (n := n) fun i hi => h i (by omega)
  by_cases e : i = n
  ·subst e
   rw [flat, List.getElem?_append_right (by omega), hl]
   congr 1
   omega
  ·have : i * sz + sz ≤ n * sz := by
    have := Nat.mul_le_mul_right sz (show i + 1 ≤ n by omega)
    rw [Nat.add_mul, Nat.one_mul] at this
    exact this
   rw [flat, List.getElem?_append_left (by omega)]
   exact flat_at (fun i hi => h i (by omega)) (by omega) hj
theorem flat_one {f : Nat → List Value} : ∀ {n : Nat}, (∀ i, i < n → ∀ u ∈ f i, u.oneCell' = true) → ∀ u ∈ flat f n, u.oneCell' = true
 | 0, _, u, hu => by simp [flat] at hu
 | n + 1, h, u, hu => by
  rw [flat, List.mem_append] at hu
  rcases hu with hu | hu
  ·exact flat_one (fun i hi => h i (by omega)) u hu
  ·exact h n (by omega) u hu
theorem flat_congr {f g : Nat → List Value} : ∀ {n : Nat}, (∀ i, i < n → f i = g i) → flat f n = flat g n
 | 0, _ => rfl
 | n + 1, h => by rw [flat, flat, flat_congr fun i hi => h i (by omega), h n (by omega)]
def cellsL : Value → List Value
 | .agg a => a.toList
 | _ => []
theorem StOwn.cellsL {w : World} {B : Nat} {v : Value} {p code : Int} {rs os : List Int} (h : StOwn w B v p rs os code) : (cellsL v).length = 4 ∧ ∀ u ∈ cellsL v, u.oneCell' = true := by
 obtain ⟨vr, vo, rfl, h1, h2, -⟩ := h
 obtain ⟨a1, c1, rfl, -⟩ := h1.form
 obtain ⟨a2, c2, rfl, -⟩ := h2.form
 refine ⟨rfl, fun u hu => ?_⟩
 simp [Go.Proofs.YtcplnkhdclcgfaaGreatDoor.cellsL] at hu
 rcases hu with rfl | rfl | rfl | rfl <;> rfl
structure LS (w : World) (P : Nat → Prop) (v : Value) (n : Nat) (vs : Nat → Value) (S : Nat → S4) : Prop where
 row : w.ownsRow 0 39 4 v n (flat (fun i => cellsL (vs i)) n)
 own : ∀ i, i < n → StOwn w 0 (vs i) (S i).p (S i).rs (S i).os (S i).c
 rb : ∀ k, v.ownBlock = some k → P k
 ob : ∀ i, i < n → ∀ k, hasBlock (vs i) k → P k
 ra : ∀ i, i < n → ∀ k, hasBlock (vs i) k → v.ownBlock ≠ some k
 oa : ∀ i j, i < n → j < n → i ≠ j → ∀ k, hasBlock (vs i) k → ¬ hasBlock (vs j) k
section
variable {w : World} {P : Nat → Prop} {v : Value} {n : Nat} {vs : Nat → Value} {S : Nat → S4}
theorem LS.keep (o : LS w P v n vs S) {w' : World} (hb : ∀ k, P k → k < w.heap.size → w'.heap[k]? = w.heap[k]?) : LS w' P v n vs S :=
 ⟨ownsRow_blkL o.row fun k hk => hb k (o.rb k hk) (o.row.lt k hk).2, fun i hi => (o.own i hi).blk fun k hk => hb k (o.ob i hi k hk) ((o.own i hi).lt hk).2, o.rb, o.ob, o.ra, o.oa⟩
theorem LS.below (o : LS w P v n vs S) {w' : World} (hb : Below w.heap.size w w') : LS w' P v n vs S := o.keep fun k _ hk => hb.block k hk
theorem LS.mono (o : LS w P v n vs S) {P' : Nat → Prop} (h : ∀ k, P k → k < w.heap.size → P' k) : LS w P' v n vs S :=
 ⟨o.row, o.own, fun k hk => h k (o.rb k hk) (o.row.lt k hk).2, fun i hi k hk => h k (o.ob i hi k hk) ((o.own i hi).lt hk).2, o.ra, o.oa⟩
theorem LS.nil (w : World) (P : Nat → Prop) (vs : Nat → Value) (S : Nat → S4) : LS w P (.slice none 0 0) 0 vs S :=
 ⟨World.ownsRow_nil _ _ _ _, fun i hi => (by omega), fun k hk => (by cases hk), fun i hi => (by omega), fun i hi => (by omega), fun i j hi => (by omega)⟩
theorem LS.push (o : LS w P v n vs S) {w1 w2 : World} {u' v' : Value} (b1 : Below w.heap.size w w1) (hu : StOwn w1 w.heap.size u' (S n).p (S n).rs (S n).os (S n).c) (hv : w2.ownsRow 0 39 4 v' (n + 1) (flat (fun i => cellsL (vs i)) n ++ cellsL u')) (g : w1.grownBy w2 v.ownBlock)
  (hv' : ∀ j, v'.ownBlock = some j → v.ownBlock = some j ∨ w1.heap.size ≤ j) {P' : Nat → Prop} (hP : ∀ k, P k → k < w.heap.size → P' k) (hP' : ∀ k, w.heap.size ≤ k → k < w2.heap.size → P' k) : LS w2 P' v' (n + 1) (fun j => if j = n then u' else vs j) S := by
 have hvlt : ∀ k, v.ownBlock = some k → k < w.heap.size := fun k hk => (o.row.lt k hk).2
 have lts : ∀ i, i < n → ∀ k, hasBlock (vs i) k → k < w.heap.size := fun i hi k hk => ((o.own i hi).lt hk).2
 have hu2 : StOwn w2 w.heap.size u' (S n).p (S n).rs (S n).os (S n).c := hu.blk fun k hk => g.block k (hu.lt hk).2 fun e => by
  have q1 := (hu.lt hk).1
  have q2 := hvlt k e.symm
  omega
 have ho2 : ∀ i, i < n → StOwn w2 0 (vs i) (S i).p (S i).rs (S i).os (S i).c := fun i hi => (o.own i hi).blk fun k hk => (g.block k (Nat.lt_of_lt_of_le (lts i hi k hk) b1.size) fun e => o.ra i hi k hk e.symm).trans (b1.block k (lts i hi k hk))
 refine ⟨?_, fun i hi => ?_, fun k hk => ?_, fun i hi k hk => ?_, fun i hi k hk => ?_, fun i j hi hj hij k hk => ?_⟩
 ·have e : flat (fun i => cellsL (if i = n then u' else vs i)) (n + 1) = flat (fun i => cellsL (vs i)) n ++ cellsL u' := by
   rw [flat, if_pos rfl]
   congr 1
   exact flat_congr fun i hi => by rw [if_neg (by omega)]
  rw [e]
  exact hv
 ·by_cases ei : i = n
  ·subst ei
   simp only [if_true]
   exact hu2.mono (Nat.zero_le _)
  ·simp only [if_neg ei]
   exact ho2 i (by omega)
 ·rcases hv' k hk with h | h
  ·exact hP k (o.rb k h) (hvlt k h)
  ·exact hP' k (Nat.le_trans b1.size h) (hv.lt k hk).2
 ·by_cases ei : i = n
  ·simp only [if_pos ei] at hk
   exact hP' k (hu.lt hk).1 (hu2.lt hk).2
  ·simp only [if_neg ei] at hk
   exact hP k (o.ob i (by omega) k hk) (lts i (by omega) k hk)
 ·intro hvk
  by_cases ei : i = n
  ·simp only [if_pos ei] at hk
   rcases hv' k hvk with h | h
   ·have := hvlt k h
    have := (hu.lt hk).1
    omega
   ·have := (hu.lt hk).2
    omega
  ·simp only [if_neg ei] at hk
   rcases hv' k hvk with h | h
   ·exact o.ra i (by omega) k hk h
   ·have := lts i (by omega) k hk
    have := b1.size
    omega
 ·intro hjk
  by_cases ei : i = n
  ·have ej : j ≠ n := fun e => hij (by omega)
   simp only [if_pos ei] at hk
   simp only [if_neg ej] at hjk
   have := lts j (by omega) k hjk
   have := (hu.lt hk).1
   omega
  ·simp only [if_neg ei] at hk
   by_cases ej : j = n
   ·simp only [if_pos ej] at hjk
    have := lts i (by omega) k hk
    have := (hu.lt hjk).1
    omega
   ·simp only [if_neg ej] at hjk
    exact o.oa i j (by omega) (by omega) hij k hk hjk
theorem LS.cell (o : LS w P v n vs S) {i : Nat} (hi : i < n) : ∃ g cap, v = .slice (some ⟨g, 0, none⟩) n cap ∧ P g ∧ g < w.heap.size ∧ Cel4 w g (i * 4) (S i) (vs i) ∧ ∀ j, w.frozen? ⟨g, j, none⟩ = false := by
 have hr := o.row
 rcases hr.2 with ⟨_, h0⟩ | ⟨g, cap, cur, rfl, hb, hg, hcap, _⟩
 ·omega
 ·refine ⟨g, cap, rfl, o.rb g rfl, (o.row.lt g rfl).2, ?_, fun j => o.row.frozenAt j⟩
  have hl : ∀ j, j < n → (cellsL (vs j)).length = 4 := fun j hj => (o.own j hj).cellsL.1
  have hc : ∀ j, j < 4 → w.cell? ⟨g, i * 4 + j, none⟩ = (cellsL (vs i))[j]? := fun j hj => by
   rw [o.row.cellAt (i * 4 + j) (by omega)]
   exact flat_at hl hi hj
  obtain ⟨vr, vo, e, h1, h2, -⟩ := o.own i hi
  obtain ⟨a1, c1, rfl, -⟩ := h1.form
  obtain ⟨a2, c2, rfl, -⟩ := h2.form
  rw [e] at hc
  exact ⟨a1, c1, a2, c2, e, hc 0 (by omega), hc 1 (by omega), hc 2 (by omega), hc 3 (by omega)⟩
end
open Go
section
variable {P : Program} {ops : Array Oper} {Q : Exit → Act → World → Prop} {md : Region.Mode} {S : World → Prop} {G : Nat → Bool}
def wpG (P : Program) (md : Region.Mode) (ops : Array Oper) (Q : Exit → Act → World → Prop) (S : World → Prop) (G : Nat → Bool) : Nat → Array Bool → Act → World → Prop
 | 0, listed, a, w => Region.ready md ops listed = [] ∧ Q .normal a w
 | fuel + 1, listed, a, w => (Region.ready md ops listed = [] → Q .normal a w) ∧ ∀ i ∈ Region.ready md ops listed, wpOp P ops Q i (fun a' w' => (S w → G i = false → S w') ∧ wpG P md ops Q S G fuel (listed.setIfInBounds i true) a' w') a w
theorem wpAny_of_G : ∀ (fuel : Nat) (listed : Array Bool) (a : Act) (w : World), wpG P md ops Q S G fuel listed a w → wpAny P md ops Q fuel listed a w
 | 0, _, _, _, h => h
 | fuel + 1, _, _, _, h => ⟨h.1, fun i hi => wpOp_mono (fun a' w' h' => wpAny_of_G fuel _ a' w' h'.2) (h.2 i hi)⟩
def waitG (md : Region.Mode) (ops : Array Oper) (G : Nat → Bool) (listed : Array Bool) (i : Nat) : Bool :=
 (List.range ops.size).all fun j => !G j || listed.getD j true || match ops[j]? with
  | some oj => oj.after.any fun e => Region.binds md e && e.on == i
  | none => true
theorem waitG_spec {listed : Array Bool} {i : Nat} (h : waitG md ops G listed i = true) {j : Nat} {oj : Oper} (hj : ops[j]? = some oj) (hg : G j = true) (hu : listed.getD j true = false) : ∃ e ∈ oj.after, Region.binds md e = true ∧ e.on = i := by
 simp only [waitG, List.all_eq_true, List.mem_range] at h
 have h1 := h j (Array.getElem?_eq_some_iff.1 hj).1
 simp only [hj, hg, hu, Bool.not_true, Bool.false_or] at h1
 obtain ⟨e, he, hb⟩ := Array.any_eq_true'.1 h1
 simp only [Bool.and_eq_true, beq_iff_eq] at hb
 exact ⟨e, he, hb.1, hb.2⟩
theorem wpG_first {i : Nat} {oi : Oper} {v : Value} (hi : ops[i]? = some oi) (hsel : ∀ (j : Nat) (o : Oper) cs b, ops[j]? = some o → o.op ≠ .select cs b)
  (hQ : ∀ c a w, Q (.panic c) (a.put oi.dst v) w → Q (.panic c) a w) :
  ∀ (fuel : Nat) (listed : Array Bool) (a : Act) (w : World),
   (∀ j oj, ops[j]? = some oj → j ≠ i → listed.getD j true = false → (∀ e ∈ oj.after, Region.binds md e = true → e.on ≠ i) → oi.apart ops oj = true) →
   (∀ j oj, ops[j]? = some oj → G j = true → listed.getD j true = false → ∃ e ∈ oj.after, Region.binds md e = true ∧ e.on = i) →
   i ∈ Region.ready md ops listed → YieldsIf P ops S oi v a → S w →
   wpG P md ops Q S G fuel (listed.setIfInBounds i true) (a.put oi.dst v) w → wpG P md ops Q S G (fuel + 1) listed a w := by
 intro fuel
 induction fuel with
 | zero =>
  intro listed a w _ _ hr hy hS H
  refine ⟨fun h => (by rw [h] at hr; cases hr), fun j hj => ?_⟩
  by_cases hji : j = i
  ·subst hji
   exact hy.wpOp hi hS ⟨fun _ _ => hS, H⟩
  ·have := ready_mono hj hji
   rw [H.1] at this
   cases this
 | succ fuel ih =>
  intro listed a w hfree hG hr hy hS H
  refine ⟨fun h => (by rw [h] at hr; cases hr), fun j hj => ?_⟩
  by_cases hji : j = i
  ·subst hji
   exact hy.wpOp hi hS ⟨fun _ _ => hS, H⟩
  ·obtain ⟨hjun, oj, hoj, hall⟩ := mem_ready.1 hj
   have hiun := (mem_ready.1 hr).1
   have hnot : ∀ e ∈ oj.after, Region.binds md e = true → e.on ≠ i := fun e he hb heq => by
    have h1 := hall e he hb
    rw [heq] at h1
    rcases Nat.lt_or_ge i listed.size with h' | h'
    ·simp [h'] at hiun h1
     rw [hiun] at h1
     cases h1
    ·simp [Array.getElem?_eq_none h'] at h1
   have hGj : G j = false := by
    cases hg : G j with
    | false => rfl
    | true =>
     obtain ⟨e, he, hb, heq⟩ := hG j oj hoj hg hjun
     exact absurd heq (hnot e he hb)
   have h2 := wpOp_putIf hoj (hfree j oj hoj hji hjun hnot) (fun cs b => hsel i oi cs b hi) (fun cs b => hsel j oj cs b hoj) hQ hy (H.2 j (ready_mono hj hji))
   have hun' : ∀ k, (listed.setIfInBounds j true).getD k true = false → listed.getD k true = false := fun k hk => by
    by_cases hjk : j = k
    ·subst hjk
     exact hjun
    ·rw [_root_.Go.getD_set_ne true hjk] at hk
     exact hk
   refine wpOp_mono (fun a' w' h3 => ⟨h3.2.1, ih (listed.setIfInBounds j true) a' w' (fun k ok hk hki hun hno => hfree k ok hk hki (hun' k hun) hno) (fun k ok hk hg hun => hG k ok hk hg (hun' k hun)) (ready_mono hr (Ne.symm hji)) h3.1 (h3.2.1 hS hGj) ?_⟩) h2
   rw [Array.setIfInBounds_comm _ _ hji]
   exact h3.2.2
theorem wpG_firstW {i : Nat} {oi : Oper} {v : Value} (hi : ops[i]? = some oi) (hsel : ∀ (j : Nat) (o : Oper) cs b, ops[j]? = some o → o.op ≠ .select cs b)
  (hQ : ∀ c a w, Q (.panic c) (a.put oi.dst v) w → Q (.panic c) a w) :
  ∀ (fuel : Nat) (listed : Array Bool) (a : Act) (w : World),
   (∀ j oj, ops[j]? = some oj → j ≠ i → listed.getD j true = false → (∀ e ∈ oj.after, Region.binds md e = true → e.on ≠ i) → oi.apart ops oj = true) →
   i ∈ Region.ready md ops listed → YieldsIf P ops (fun _ => True) oi v a →
   wpG P md ops Q S G fuel (listed.setIfInBounds i true) (a.put oi.dst v) w → wpG P md ops Q S G (fuel + 1) listed a w := by
 intro fuel
 induction fuel with
 | zero =>
  intro listed a w _ hr hy H
  refine ⟨fun h => (by rw [h] at hr; cases hr), fun j hj => ?_⟩
  by_cases hji : j = i
  ·subst hji
   exact hy.wpOp hi trivial ⟨fun h _ => h, H⟩
  ·have := ready_mono hj hji
   rw [H.1] at this
   cases this
 | succ fuel ih =>
  intro listed a w hfree hr hy H
  refine ⟨fun h => (by rw [h] at hr; cases hr), fun j hj => ?_⟩
  by_cases hji : j = i
  ·subst hji
   exact hy.wpOp hi trivial ⟨fun h _ => h, H⟩
  ·obtain ⟨hjun, oj, hoj, hall⟩ := mem_ready.1 hj
   have hiun := (mem_ready.1 hr).1
   have hnot : ∀ e ∈ oj.after, Region.binds md e = true → e.on ≠ i := fun e he hb heq => by
    have h1 := hall e he hb
    rw [heq] at h1
    rcases Nat.lt_or_ge i listed.size with h' | h'
    ·simp [h'] at hiun h1
     rw [hiun] at h1
     cases h1
    ·simp [Array.getElem?_eq_none h'] at h1
   have h2 := wpOp_putIf hoj (hfree j oj hoj hji hjun hnot) (fun cs b => hsel i oi cs b hi) (fun cs b => hsel j oj cs b hoj) hQ hy (H.2 j (ready_mono hj hji))
   have hun' : ∀ k, (listed.setIfInBounds j true).getD k true = false → listed.getD k true = false := fun k hk => by
    by_cases hjk : j = k
    ·subst hjk
     exact hjun
    ·rw [_root_.Go.getD_set_ne true hjk] at hk
     exact hk
   refine wpOp_mono (fun a' w' h3 => ⟨h3.2.1, ih (listed.setIfInBounds j true) a' w' (fun k ok hk hki hun hno => hfree k ok hk hki (hun' k hun) hno) (ready_mono hr (Ne.symm hji)) h3.1 ?_⟩) h2
   rw [Array.setIfInBounds_comm _ _ hji]
   exact h3.2.2
theorem wpG_takeW (i : Nat) {oi : Oper} {fuel : Nat} {listed : Array Bool} {a : Act} {w : World} (hi0 : ops.toList[i]? = some oi) (hs : Region.noSelect ops = true) (hf : Region.free md ops listed i = true) (hr : (Region.ready md ops listed).contains i = true)
  (hQ : ∀ v c a w, Q (.panic c) (a.put oi.dst v) w → Q (.panic c) a w) (hw : Region.wanted oi (yielded ops a.tmps) = true)
  (h : ∃ v, (∀ w, (execOp a.eval oi).run P w = .ok (.value v) w) ∧ wpG P md ops Q S G fuel (listed.setIfInBounds i true) (a.put oi.dst v) w) : wpG P md ops Q S G (fuel + 1) listed a w := by
 obtain ⟨v, hv, h⟩ := h
 have hi : ops[i]? = some oi := by rw [← Array.getElem?_toList]; exact hi0
 exact wpG_firstW hi (Region.noSelect_spec hs) (hQ v) fuel listed a w (Region.free_spec hi hf) (by simpa using hr) (.inl ⟨hw, fun w _ => hv w⟩) h
theorem wpG_take (i : Nat) {oi : Oper} {fuel : Nat} {listed : Array Bool} {a : Act} {w : World} (hi0 : ops.toList[i]? = some oi) (hS : S w)
  (h : ∃ v, (∀ w, S w → (execOp a.eval oi).run P w = .ok (.value v) w) ∧ wpG P md ops Q S G fuel (listed.setIfInBounds i true) (a.put oi.dst v) w) (hs : Region.noSelect ops = true := by kernel_rfl) (hf : Region.free md ops listed i = true := by kernel_rfl) (hr : (Region.ready md ops listed).contains i = true := by kernel_rfl) (hg : waitG md ops G listed i = true := by kernel_rfl)
  (hQ : ∀ v c a w, Q (.panic c) (a.put oi.dst v) w → Q (.panic c) a w := by exact fun _ _ _ _ h => h) (hw : Region.wanted oi (yielded ops a.tmps) = true := by rfl) : wpG P md ops Q S G (fuel + 1) listed a w := by
 obtain ⟨v, hv, h⟩ := h
 have hi : ops[i]? = some oi := by rw [← Array.getElem?_toList]; exact hi0
 exact wpG_first hi (Region.noSelect_spec hs) (hQ v) fuel listed a w (Region.free_spec hi hf) (fun j oj hj hgj hu => waitG_spec hg hj hgj hu) (by simpa using hr) (.inl ⟨hw, hv⟩) hS h
def wpGT (P : Program) (md : Region.Mode) (ops : Array Oper) (Q : Exit → Act → World → Prop) (S : World → Prop) (G : Nat → Bool) (_ : List Nat) (fuel : Nat) (listed : Array Bool) (a : Act) (w : World) : Prop := wpG P md ops Q S G fuel listed a w
theorem wpGT_of (is : List Nat) {fuel : Nat} {listed : Array Bool} {a : Act} {w : World} (h : wpGT P md ops Q S G is fuel listed a w) : wpG P md ops Q S G fuel listed a w := h
theorem wpGT_nil {fuel : Nat} {listed : Array Bool} {a : Act} {w : World} (h : wpG P md ops Q S G fuel listed a w) : wpGT P md ops Q S G [] fuel listed a w := h
theorem wpGT_take {i : Nat} {is : List Nat} {oi : Oper} {fuel : Nat} {listed : Array Bool} {a : Act} {w : World} (hi0 : ops.toList[i]? = some oi) (hS : S w)
  (h : ∃ v, (∀ w, S w → (execOp a.eval oi).run P w = .ok (.value v) w) ∧ wpGT P md ops Q S G is fuel (listed.setIfInBounds i true) (a.put oi.dst v) w) (hs : Region.noSelect ops = true := by kernel_rfl) (hf : Region.free md ops listed i = true := by kernel_rfl) (hr : (Region.ready md ops listed).contains i = true := by kernel_rfl) (hg : waitG md ops G listed i = true := by kernel_rfl)
  (hQ : ∀ v c a w, Q (.panic c) (a.put oi.dst v) w → Q (.panic c) a w := by exact fun _ _ _ _ h => h) (hw : Region.wanted oi (yielded ops a.tmps) = true := by rfl) : wpGT P md ops Q S G (i :: is) (fuel + 1) listed a w := wpG_take i hi0 hS h hs hf hr hg hQ hw
theorem wpG_one (i : Nat) {oi : Oper} {fuel : Nat} {listed : Array Bool} {a : Act} {w : World} (hi0 : ops.toList[i]? = some oi) (hr : Region.ready md ops listed = [i])
  (h : ∀ K' : Act → World → Prop, Shut (∀ a w, (G i = false → S w) → wpG P md ops Q S G fuel (listed.setIfInBounds i true) a w → K' a w) → if Region.wanted oi (yielded ops a.tmps) = true then Oper.wp P oi a w K' Q else K' (a.put oi.dst undef) w) : wpG P md ops Q S G (fuel + 1) listed a w :=
 ⟨fun h0 => (by rw [hr] at h0; cases h0), fun j hj => by
  rw [hr] at hj
  obtain rfl := List.mem_singleton.1 hj
  have hi : ops[j]? = some oi := by rw [← Array.getElem?_toList]; exact hi0
  exact wpOp_step hi fun K' hK => h K' fun a w h1 h2 => hK a w ⟨fun _ => h1, h2⟩⟩
theorem wpG_done {listed : Array Bool} {a : Act} {w : World} (hr : Region.ready md ops listed = []) (h : Q .normal a w) : ∀ fuel, wpG P md ops Q S G fuel listed a w
 | 0 => ⟨hr, h⟩
 | _ + 1 => ⟨fun _ => h, by rw [hr]; simp⟩
theorem wp_region_G {id : Nat} {a : Act} {w : World} (S : World → Prop) (G : Nat → Bool) (hm : P.follows .mixedOrders = true) (h : wpG P .any ops Q S G ops.size (Array.replicate ops.size false) a w.drew) : (Code.region id ops true).wp P Q a w :=
 wp_region_any hm (wpAny_of_G _ _ _ _ h)
end
end Go.Proofs.YtcplnkhdclcgfaaGreatDoor
