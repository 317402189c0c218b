/- The one listed variable: what the condition gives a walk, and a world that meets it. -/
import Derived.Test.YthdaejgmfognbabGreatDoorWd0
import Derived.Test.YthdaejgmfognbabGreatDoorWd14
import Derived.Test.YthdaejgmfognbabGreatDoorWd11
import Derived.Test.YthdaejgmfognbabGreatDoorRows
import Derived.Test.YthdaejgmfognbabGreatDoorTie
import Derived.ChangeSame
import Derived.ChangeVars
import Derived.JoinedOf
import Derived.RowKit
import Derived.RowKitTokens
import Derived.LaidLaws
import Derived.LaidHandle
import Derived.Stop.Joined
namespace Go.Proofs.YthdaejgmfognbabGreatDoor
set_option maxRecDepth 100000
set_option maxHeartbeats 1000000
open Go.ChangeShapes Go.WideShapes Go.ChangeAt Go.RowKit Go.Deep
structure I2 where
 m : Bool
 v : Int
abbrev itV (m : Bool) (v : Int) : Value := .agg #[.bool m, .int .i64 v]
def ItAt (w : World) (b off len : Nat) (h : Nat -> I2) : Prop := ∀ i, i < len ->
 w.cell? ⟨b, off + i * 2, none⟩ = some (.bool (h i).m) /\ w.cell? ⟨b, off + i * 2 + 1, none⟩ = some (.int .i64 (h i).v)
theorem ItAt.below {w w' : World} {B b off len : Nat} {h : Nat -> I2} (hh : ItAt w b off len h) (hb : Below B w w') (hB : b < B) : ItAt w' b off len h := by
 intro i hi
 obtain ⟨h0, h1⟩ := hh i hi
 exact ⟨(hb.cell hB).trans h0, (hb.cell hB).trans h1⟩
theorem infoIt : (Tryz.prog.info? 104).map (fun i => (i.zero, i.size, i.bytes)) = some (some (itV false 0), 2, 16) := by kernel_rfl
theorem run_make_it (n : Nat) (hn : n <= 1048576) (w : World) :
  (Instr.makeSlice 102 (.int .i64 (n : Int)) (.int .i64 (n : Int))).run Tryz.prog w = .ok (.slice (some ⟨w.heap.size, 0, none⟩) n n) (w.alloc (.cells (madeCells (itV false 0).cells (n * 2)) 104)) := by
 have hinfo := infoIt
 cases hi : Tryz.prog.info? 104 with
 | none => rw [hi] at hinfo; cases hinfo
 | some i =>
  rw [hi] at hinfo
  simp only [Option.map_some, Option.some.injEq, Prod.mk.injEq] at hinfo
  obtain ⟨hz, hs, hb⟩ := hinfo
  have h := run_make (P := Tryz.prog) w 102 104 i _ Tryz.underlying102 hi hz .i64 .i64 (n : Int) (n : Int) (by omega) (Int.le_refl _) (by rw [hb]; omega) (by omega)
  rw [hs] at h
  simpa using h
theorem madeIt_row (w : World) (n : Nat) : (w.alloc (.cells (madeCells (itV false 0).cells (n * 2)) 104)).rowIs w.heap.size 104 (n * 2) (fun i => if i % 2 = 0 then .bool false else .int .i64 0) := by
 refine ⟨_, blk_alloc_new _ _, size_madeCells _ _, fun i hi => ?_⟩
 have h3 : i % 2 < 2 := Nat.mod_lt _ (by omega)
 have : ∀ j, j < 2 -> (#[Value.bool false, .int .i64 0] : Array Value)[j]! = if j = 0 then .bool false else .int .i64 0 := by
  intro j hj
  match j, hj with
  | 0, _ => rfl
  | 1, _ => rfl
 simp only [madeCells, Value.cells]
 rw [Array.getElem?_map, Array.getElem?_range, if_pos hi]
 exact congrArg some (this (i % 2) h3)
def FilledT (f : Nat -> Value) (h : Nat -> I2) (k : Nat) : Prop := ∀ i, i < k ->
 f (i * 2) = .bool (h i).m /\ f (i * 2 + 1) = .int .i64 (h i).v
theorem FilledT.at {w : World} {b : Nat} {t : TypeId} {len k : Nat} {f : Nat -> Value} {h : Nat -> I2} (hh : FilledT f h k) (hr : w.rowIs b t (len * 2) f) (hk : k <= len) : ItAt w b 0 k h := by
 intro i hi
 obtain ⟨h0, h1⟩ := hh i hi
 refine ⟨?_, ?_⟩
 ·rw [hr.cell (by omega), Nat.zero_add, h0]
 ·rw [hr.cell (by omega), Nat.zero_add, h1]
theorem FilledT.step {w : World} {b : Nat} {t : TypeId} {len k : Nat} {f : Nat -> Value} {h : Nat -> I2} (hr : w.rowIs b t (len * 2) f) (hh : FilledT f h k) :
  ∃ f', ((w.setCell ⟨b, k * 2, none⟩ (.bool (h k).m)).setCell ⟨b, k * 2 + 1, none⟩ (.int .i64 (h k).v)).rowIs b t (len * 2) f' /\ FilledT f' h (k + 1) := by
 refine ⟨_, (hr.set _ _).set _ _, fun i hi => ?_⟩
 by_cases hik : i = k
 ·subst hik
  simp
 ·have hlt : i < k := by omega
  obtain ⟨h0, h1⟩ := hh i hlt
  refine ⟨?_, ?_⟩
  ·rw [if_neg (by omega), if_neg (by omega)]; exact h0
  ·rw [if_neg (by omega), if_neg (by omega)]; exact h1
theorem toItem_any (m : Bool) (v : Int) (w : World) :
  Calls Tryz.prog 104 #[itV m v] w fun e w' => e = .returned (itV m v) /\ Below w.heap.size w w' := by
 go_enter Tryz.func104, Tryz.ntmps104
 go_wp2
 refine bodyPost_ret (v := itV m v) (by simp [results, Tryz.results104, go_sem]) rfl ⟨rfl, ?_⟩
 go_grown
theorem eqItem_same (m : Bool) (v : Int) (w : World) :
  Calls Tryz.prog 129 #[itV m v, itV m v] w fun e w' => e = .returned (.bool true) /\ Below w.heap.size w w' := by
 cases m
 all_goals
  go_enter Tryz.func129, Tryz.ntmps129
  go_wp2
  go_ret
  exact ⟨rfl, by go_grown⟩
theorem szItemS_small (a0 : Option Addr) (len cap : Nat) (L : Int) (w : World) (h : (len : Int) <= L) (hL : L <= 1048576) :
  Calls Tryz.prog 54 #[.slice a0 len cap, .int .i64 L] w fun e w' => e = .returned (.int .i64 (L - (len : Int))) /\ w' = w := by
 have h1 : (len : Int) <= 1048576 := by omega
 have h2 : 0 <= L := by omega
 have h3 : ¬ (L - (len : Int) < 0) := by omega
 go_enter Tryz.func54, Tryz.ntmps54
 go_wp2
 go_ret
 exact ⟨rfl, rfl⟩
theorem szItemS_great (a0 : Option Addr) (len cap : Nat) (L : Int) (w : World) (h : L < (len : Int)) (h0 : 0 <= L) (hL : L <= 1048576) (hm : len <= maxLen) :
  Calls Tryz.prog 54 #[.slice a0 len cap, .int .i64 L] w fun e w' => e = .returned (.int .i64 (-1)) /\ w' = w := by
 unfold maxLen at hm
 have h2 : (len : Int) <= 9223372036854775807 := by omega
 have h3 : L - (len : Int) < 0 := by omega
 go_enter Tryz.func54, Tryz.ntmps54
 go_wp2
 go_ret
 exact ⟨rfl, rfl⟩
theorem toItemS_free (b off len cap : Nat) (h : Nat -> I2) (w : World) (hlen : len <= 1048576) (hb : b < w.heap.size) (hc : ItAt w b off len h) :
  Calls Tryz.prog 64 #[.slice (some ⟨b, off, none⟩) len cap] w fun e w' => e = .returned (.slice (some ⟨w.heap.size, 0, none⟩) len len) /\ ItAt w' w.heap.size 0 len h /\ w.heap.size < w'.heap.size /\ Below w.heap.size w w' /\ ∀ j, w'.frozen? ⟨w.heap.size, j, none⟩ = false := by
 have hl' : (len : Int) <= 1048576 := by omega
 have hmk := run_make_it len hlen
 have HC : Hid (ItAt w b off len h) := hc
 clear hc
 go_enter Tryz.func64, Tryz.ntmps64
 go_wp2_with fail
 clear hmk
 go_loopw [4] (fun i wr => ∃ k : Nat, k <= len /\ i = .int .i64 k /\ (∃ f, wr.rowIs w.heap.size 104 (len * 2) f /\ Hid (FilledT f h k)) /\ Below w.heap.size w wr) (fun i _ => len - (intOf i).toNat)
 case atStart => exact ⟨0, Nat.zero_le _, rfl, ⟨_, madeIt_row w len, fun i hi => by omega⟩, (Below.refl _ _).alloc (Nat.le_refl _) _⟩
 case round =>
  obtain ⟨k, hk, rfl, ⟨f, hrow, HF⟩, hbw⟩ := hrel
  have hs := hrow.lt
  by_cases hlt : k < len
  ·obtain ⟨c0, c1⟩ := HC.out.below hbw hb k hlt
   have HR : Hid (wr.rowIs w.heap.size 104 (len * 2) f) := hrow
   clear hrow
   go_wp2_with fail
   refine (toItem_any _ _ _).mono ?_
   rintro e w1 ⟨rfl, hb1⟩
   have hr1 : w1.rowIs w.heap.size 104 (len * 2) f := HR.out.of_block (hb1.block _ hs)
   have f0 := hr1.frozen (k * 2)
   have f1 := hr1.frozen (k * 2 + 1)
   have g0 := hr1.cell (i := k * 2) (by omega)
   have g1 := hr1.cell (i := k * 2 + 1) (by omega)
   have HR1 : Hid (w1.rowIs w.heap.size 104 (len * 2) f) := hr1
   clear hr1
   go_wp2_with fail
   exact ⟨⟨k + 1, by omega, by go_num, FilledT.step HR1.out HF.out, ((hbw.trans (hb1.mono (Nat.le_of_lt hs))).setCell (Nat.le_refl _) _).setCell (Nat.le_refl _) _⟩, by simp [intOf]; omega⟩
  ·have hkl : k = len := by omega
   have HI : Hid (ItAt wr w.heap.size 0 len h) := by
    have := HF.out.at hrow hk
    rw [hkl] at this
    exact this
   have HZ : Hid (∀ j, wr.frozen? ⟨w.heap.size, j, none⟩ = false) := fun j => hrow.frozen j
   clear hkl HF hrow
   go_wp2
   go_ret
   exact ⟨rfl, HI.out, hs, hbw, HZ.out⟩
theorem toItemS_freeEmpty (a0 : Option Addr) (cap : Nat) (h : Nat -> I2) (w : World) :
  Calls Tryz.prog 64 #[.slice a0 0 cap] w fun e w' => e = .returned (.slice (some ⟨w.heap.size, 0, none⟩) 0 0) /\ ItAt w' w.heap.size 0 0 h /\ w.heap.size < w'.heap.size /\ Below w.heap.size w w' /\ ∀ j, w'.frozen? ⟨w.heap.size, j, none⟩ = false := by
 have hmk : ∀ w : World, (Instr.makeSlice 102 (.int .i64 0) (.int .i64 0)).run Tryz.prog w = .ok (.slice (some ⟨w.heap.size, 0, none⟩) 0 0) (w.alloc (.cells (madeCells (itV false 0).cells (0 * 2)) 104)) := fun w => run_make_it 0 (by omega) w
 go_enter Tryz.func64, Tryz.ntmps64
 go_wp2_with fail
 clear hmk
 go_rounds 1
 go_ret
 exact ⟨rfl, fun i hi => by omega, by simp, (Below.refl _ _).alloc (Nat.le_refl _) _, fun j => yA _ _ _ j rfl⟩
def CopiesT (w : World) (a0 : Option Addr) (len cap : Nat) (h : Nat -> I2) : Prop := ∀ wx, Below w.heap.size w wx ->
 Calls Tryz.prog 64 #[.slice a0 len cap] wx fun e w' => e = .returned (.slice (some ⟨wx.heap.size, 0, none⟩) len len) /\ ItAt w' wx.heap.size 0 len h /\ wx.heap.size < w'.heap.size /\ Below wx.heap.size wx w' /\ ∀ j, w'.frozen? ⟨wx.heap.size, j, none⟩ = false
theorem copiesT_of {W : World} {a0 : Option Addr} {len cap : Nat} (hl : len <= 1048576) (hr : len = 0 \/ ∃ b off h, a0 = some ⟨b, off, none⟩ /\ b < W.heap.size /\ ItAt W b off len h) : ∃ h, CopiesT W a0 len cap h := by
 rcases hr with rfl | ⟨b, off, h, rfl, hb, hI⟩
 ·exact ⟨fun _ => ⟨false, 0⟩, fun wx _ => toItemS_freeEmpty a0 cap _ wx⟩
 ·exact ⟨h, fun wx hB => toItemS_free b off len cap h wx hl (zL hb hB.size) (hI.below hB hb)⟩
theorem eqItemS_same (b1 b2 len c1 c2 : Nat) (h : Nat -> I2) (w : World) (hlen : len <= 1048576) (hb1 : b1 < w.heap.size) (hb2 : b2 < w.heap.size) (hc1 : ItAt w b1 0 len h) (hc2 : ItAt w b2 0 len h) :
  Calls Tryz.prog 74 #[.slice (some ⟨b1, 0, none⟩) len c1, .slice (some ⟨b2, 0, none⟩) len c2] w fun e w' => e = .returned (.bool true) /\ Below w.heap.size w w' := by
 have hl' : (len : Int) <= 1048576 := by omega
 have HC1 : Hid (ItAt w b1 0 len h) := hc1
 have HC2 : Hid (ItAt w b2 0 len h) := hc2
 clear hc1 hc2
 go_enter Tryz.func74, Tryz.ntmps74
 go_wp2_with fail
 go_loopw [5] (fun i wr => ∃ k : Nat, k <= len /\ i = .int .i64 k /\ Below w.heap.size w wr) (fun i _ => len - (intOf i).toNat)
 case atStart => exact ⟨0, Nat.zero_le _, rfl, Below.refl _ _⟩
 case round =>
  obtain ⟨k, hk, rfl, hbw⟩ := hrel
  have hs := hbw.size
  by_cases hlt : k < len
  ·obtain ⟨c0, c1⟩ := HC1.out.below hbw hb1 k hlt
   obtain ⟨d0, d1⟩ := HC2.out.below hbw hb2 k hlt
   have hlt' : (k : Int) < (len : Int) := by omega
   rw [Nat.zero_add] at c0 c1 d0 d1
   go_wp2_with fail
   first | (go_region_with (go_at_call 129; refine (eqItem_same _ _ _).mono ?_; rintro e w1 ⟨rfl, hq1⟩)) | fail
   all_goals
    go_wp2
    go_roundw
    case rel => exact ⟨k + 1, by omega, by go_num, hbw.drew.trans (hq1.mono hs)⟩
    case measure => simp [intOf]; omega
  ·go_wp2
   go_ret
   exact ⟨rfl, hbw⟩
def RoomT (w : World) (b len : Nat) : Prop := (∀ i, i < len * 2 -> ∃ u, w.cell? ⟨b, i, none⟩ = some u) /\ ∀ j, w.frozen? ⟨b, j, none⟩ = false
theorem RoomT.set {w : World} {b len : Nat} (h : RoomT w b len) (p : Addr) (v : Value) : RoomT (w.setCell p v) b len :=
 ⟨fun i hi => (h.1 i hi).elim fun _ e => cell?_setCell_some e, fun j => by rw [World.frozen?_setCell]; exact h.2 j⟩
theorem RoomT.of_it {w : World} {b len : Nat} {h : Nat -> I2} (hh : ItAt w b 0 len h) (hf : ∀ j, w.frozen? ⟨b, j, none⟩ = false) : RoomT w b len := by
 refine ⟨fun i hi => ?_, hf⟩
 obtain ⟨c0, c1⟩ := hh (i / 2) (by omega)
 simp only [Nat.zero_add] at c0 c1
 have he : i = i / 2 * 2 \/ i = i / 2 * 2 + 1 := by omega
 rcases he with e | e
 ·rw [e]; exact ⟨_, c0⟩
 ·rw [e]; exact ⟨_, c1⟩
theorem markItemS_any (b len cap : Nat) (k : Int) (w : World) (hlen : len <= 1048576) (k0 : 0 <= k) (k1 : k <= 100000000) (h : RoomT w b len) :
  Calls Tryz.prog 78 #[.slice (some ⟨b, 0, none⟩) len cap, .int .i64 k] w fun e w' => e = .returned (.int .i64 (k + 2 * len)) /\ w.grownBy w' (some b) := by
 have hl' : (len : Int) <= 1048576 := by omega
 have HO : Hid (RoomT w b len) := h
 clear h
 go_enter Tryz.func78, Tryz.ntmps78
 go_wp2_with fail
 go_loopw [1, 5] (fun q i wr => ∃ j : Nat, j <= len /\ i = .int .i64 j /\ q = .int .i64 (k + 2 * j) /\ Hid (RoomT wr b len /\ w.grownBy wr (some b))) (fun _ i _ => len - (intOf i).toNat)
 case atStart => exact ⟨0, Nat.zero_le _, rfl, by simp, HO.out, World.grownBy.refl _ _⟩
 case round =>
  clear HO
  obtain ⟨j, hj, rfl, rfl, HR⟩ := hrel
  by_cases hlt : j < len
  ·have hlt' : (j : Int) < (len : Int) := by omega
   obtain ⟨u0, c0⟩ := HR.out.1.1 (j * 2) (by omega)
   obtain ⟨u1, c1⟩ := HR.out.1.1 (j * 2 + 1) (by omega)
   have fz := HR.out.1.2
   go_wp2
   go_roundw
   case rel =>
    refine ⟨j + 1, by omega, by go_num, by go_num, ?_⟩
    refine ⟨?_, ?_⟩
    ·repeat (refine RoomT.set ?_ _ _)
     exact HR.out.1
    ·repeat (refine zU ?_ (.inl rfl) _)
     exact HR.out.2
   case measure => simp [intOf]; omega
  ·have hlt' : ¬ (j : Int) < (len : Int) := by omega
   have HF : Hid (w.grownBy wr (some b)) := HR.out.2
   have hjl : (j : Int) = len := by omega
   have HJ : Hid ((j : Int) = len) := hjl
   clear HR hjl
   go_wp2
   go_ret
   exact ⟨ret_int (by rw [HJ.out]), HF.out⟩
theorem cellsLawIt : Tryz.prog.cellsOf 149 = 2 := by kernel_rfl
theorem cellsBool : Tryz.prog.cellsOf 4 = 1 := by kernel_rfl
theorem open_itCells {H : Type} {enc : TypeId × Value -> H} {w : World} {base fuel : Nat} {spare : Nat -> Bool} {held : Bool} {c0 c1 : Value} {x : DataW H × List MemPlace}
  (hf : DataW.trod enc Tryz.prog w base spare held fuel 149 [c0, c1] = some x) :
  ∃ (m : Bool) (v : Int), c0 = .bool m /\ c1 = .int .i64 v := by
 obtain ⟨xs, m, -, -, -, hl, hx⟩ := DataW.trod_struct Tryz.underlying149 hf
 have hl : xs.length = 2 := hl
 have q0 : DataW.trod enc Tryz.prog w base spare held m 4 [c0] = xs[0]? := by simpa [cellsBool] using hx 0 _ rfl
 have q1 : DataW.trod enc Tryz.prog w base spare held m 3 [c1] = xs[1]? := by simpa [cellsInt, cellsBool] using hx 1 _ rfl
 rw [List.getElem?_eq_getElem (by omega)] at q0 q1
 obtain ⟨z0, e0, -⟩ := DataW.trod_bool Tryz.underlying4 q0
 obtain ⟨z1, e1, -, -⟩ := DataW.trod_int Tryz.underlying3 q1
 simp only [List.cons.injEq, and_true] at e0 e1
 exact ⟨z0, z1, e0, e1⟩
theorem open_itRow {H : Type} {enc : TypeId × Value -> H} {w : World} {spare : Nat -> Bool} {held : Bool} {base : Nat} {a0 : Option Addr} {len cap : Nat} {d : DataW H} {p : List MemPlace}
  (h : DataW.Trod enc Tryz.prog w base spare held 92 (.slice a0 len cap) d p) :
  len <= maxLen /\ (len = 0 \/ ∃ b off h, a0 = some ⟨b, off, none⟩ /\ b < w.heap.size /\ ItAt w b off len h) := by
 obtain ⟨fuel, hf⟩ := h
 rcases Go.Deep.open_slice Tryz.underlying92 hf with ⟨hcs, _⟩ | ⟨a, len', cap', m, n, D, Pl, hcs, _, hl, hm, hmm, _, hx⟩
 ·simp [Value.cells] at hcs
  obtain ⟨_, rfl, _⟩ := hcs
  exact ⟨Nat.zero_le _, .inl rfl⟩
 ·simp [Value.cells] at hcs
  obtain ⟨rfl, rfl, rfl⟩ := hcs
  refine ⟨zO hl hm, ?_⟩
  by_cases h0 : len = 0
  ·exact .inl h0
  right
  have hle : len <= m := by rw [hmm]; split <;> omega
  rw [cellsLawIt] at hx
  obtain ⟨b, off, spot⟩ := a
  have hcell : ∀ i, i < len -> ∃ x : I2, w.cell? (Addr.add (Addr.add ⟨b, off, spot⟩ (i * 2)) 0) = some (.bool x.m) /\ w.cell? (Addr.add (Addr.add ⟨b, off, spot⟩ (i * 2)) 1) = some (.int .i64 x.v) := by
   intro i hi
   obtain ⟨cs', h1, h2⟩ := hx i (by omega)
   obtain ⟨_, hlen, hc⟩ := World.cells?_some h1
   match cs', hlen with
   | [c0, c1], _ =>
    obtain ⟨k, v, rfl, rfl⟩ := open_itCells h2
    exact ⟨⟨k, v⟩, hc 0 (by omega), hc 1 (by omega)⟩
  have hspot : spot = none := by
   obtain ⟨x, hx0, _⟩ := hcell 0 (by omega)
   simpa [Addr.add] using World.cell?_spot hx0
  subst hspot
  have inh : Inhabited I2 := ⟨⟨false, 0⟩⟩
  obtain ⟨g, hg⟩ := Go.Deep.choose_lt (α := I2) hcell
  have hI : ItAt w b off len g := by
   intro i hi
   obtain ⟨q0, q1⟩ := hg i hi
   rw [addr_addO, addr_addO] at q0 q1
   exact ⟨q0, q1⟩
  exact ⟨b, off, g, rfl, cell_lt (hI 0 (by omega)).1, hI⟩
def EvL (w : World) (a : Option Addr) (len : Nat) (h : Nat -> E3) : Prop := len = 0 \/ ∃ b off, a = some ⟨b, off, none⟩ /\ b < w.heap.size /\ EvAt w b off len h
theorem EvL.below {w w' : World} {a : Option Addr} {len : Nat} {h : Nat -> E3} (hh : EvL w a len h) (hb : Below w.heap.size w w') : EvL w' a len h := by
 rcases hh with e | ⟨b, off, e, hlt, hc⟩
 ·exact .inl e
 ·exact .inr ⟨b, off, e, zL hlt hb.size, hc.below hb hlt⟩
theorem EvL.at {w : World} {a : Option Addr} {len : Nat} {h : Nat -> E3} (hh : EvL w a len h) {k : Nat} (hk : k < len) : ∃ b off, a = some ⟨b, off, none⟩ /\ b < w.heap.size /\ w.cell? ⟨b, off + k * 3, none⟩ = some (.int .i64 (h k).k) /\ w.cell? ⟨b, off + k * 3 + 1, none⟩ = some (.int .i64 (h k).q) /\ w.cell? ⟨b, off + k * 3 + 2, none⟩ = some (.int .i64 (h k).v) := by
 rcases hh with rfl | ⟨b, off, e, hlt, hc⟩
 ·omega
 ·exact ⟨b, off, e, hlt, hc k hk⟩
theorem EvL.take {w : World} {a : Option Addr} {len : Nat} {h : Nat -> E3} (hh : EvL w a len h) {k : Nat} (hk : k <= len) : EvL w a k h := by
 rcases hh with rfl | ⟨b, off, e, hlt, hc⟩
 ·exact .inl (by omega)
 ·exact .inr ⟨b, off, e, hlt, fun i hi => hc i (by omega)⟩
theorem EvL.one {w : World} {b off len : Nat} {h : Nat -> E3} (hh : EvL w (some ⟨b, off, none⟩) len h) {k : Nat} (hk : k < len) : EvAt w b off len h /\ b < w.heap.size := by
 rcases hh with rfl | ⟨b', off', e, hlt, hc⟩
 ·omega
 ·simp only [Option.some.injEq, Addr.mk.injEq] at e
  obtain ⟨rfl, rfl, -⟩ := e
  exact ⟨hc, hlt⟩
def ItL (w : World) (a : Option Addr) (len : Nat) (h : Nat -> I2) : Prop := len = 0 \/ ∃ b off, a = some ⟨b, off, none⟩ /\ b < w.heap.size /\ ItAt w b off len h
theorem ItL.below {w w' : World} {a : Option Addr} {len : Nat} {h : Nat -> I2} (hh : ItL w a len h) (hb : Below w.heap.size w w') : ItL w' a len h := by
 rcases hh with e | ⟨b, off, e, hlt, hc⟩
 ·exact .inl e
 ·exact .inr ⟨b, off, e, zL hlt hb.size, hc.below hb hlt⟩
theorem ItL.at {w : World} {a : Option Addr} {len : Nat} {h : Nat -> I2} (hh : ItL w a len h) {k : Nat} (hk : k < len) : ∃ b off, a = some ⟨b, off, none⟩ /\ b < w.heap.size /\ w.cell? ⟨b, off + k * 2, none⟩ = some (.bool (h k).m) /\ w.cell? ⟨b, off + k * 2 + 1, none⟩ = some (.int .i64 (h k).v) := by
 rcases hh with rfl | ⟨b, off, e, hlt, hc⟩
 ·omega
 ·exact ⟨b, off, e, hlt, hc k hk⟩
theorem Tryz.et : Tryz.prog.globalNamed "errors.errorType" = some 0 := by kernel_rfl
theorem Tryz.rt : (Tryz.prog.cutTypes.find? (·.1 == "internal/reflectlite.rtype")).map (·.2) = some 269 := by kernel_rfl
theorem Tryz.oneRow : ((List.range 313).filter fun t => Tryz.prog.rowNamed t [101, 114, 114, 111, 114]) = [217] := by kernel_rfl
theorem Tryz.tsize : Tryz.prog.types.size = 313 := by kernel_rfl
theorem handle_of_laid {W : World} (h : laidMetH Tryz.prog [("errors.errorType", Rows.laid_errors_errorType)] W) : W.cell? ⟨0, 0, none⟩ = some (.iface 269 (.agg #[.pointer (some ⟨1, 217, none⟩)])) := by
 have h' : laidMet Tryz.prog [] W /\ handlesMet Tryz.prog [("errors.errorType", Rows.laid_errors_errorType)] W := h
 obtain ⟨name, u, ty, e1, e2, e3, e4, e5⟩ := h'.2 _ (List.mem_singleton.2 rfl)
 have en : name = [101, 114, 114, 111, 114] := (Option.some.inj e1).symm
 subst en
 obtain rfl := Option.some.inj (Tryz.rt.symm.trans e2)
 have hm : ty ∈ (List.range 313).filter fun t => Tryz.prog.rowNamed t [101, 114, 114, 111, 114] := List.mem_filter.2 ⟨List.mem_range.2 (by rw [<- Tryz.tsize]; exact e3), e4⟩
 rw [Tryz.oneRow] at hm
 obtain rfl := List.mem_singleton.1 hm
 have hh : typeHandle Tryz.prog 217 = .pointer (some ⟨1, 217, none⟩) := by kernel_rfl
 rw [hh] at e5
 simpa using World.var?_cell Tryz.et e5 0
noncomputable def laidWorld (os : Os) : World :=
 let w0 := World.holding Tryz.prog os ⟨#[], #[], []⟩
 { w0 with heap := w0.heap.modify 0 fun
   | .cells _ t frozen => .cells #[.iface 269 (.agg #[.pointer (some ⟨1, 217, none⟩)])] t frozen
   | o => o }
theorem laidWorld_met (os : Os) (args : Array Value) : laidMetH Tryz.prog [("errors.errorType", Rows.laid_errors_errorType)] ((laidWorld os).forCall (fun _ _ => 0) ⟨#[], args, []⟩).memory :=
 laidMetH_of_parts (laidMet_nil _ _) (by kernel_rfl)
end Go.Proofs.YthdaejgmfognbabGreatDoor
