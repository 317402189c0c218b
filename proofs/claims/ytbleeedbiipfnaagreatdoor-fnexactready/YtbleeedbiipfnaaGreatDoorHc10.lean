/- The walks of the program's doing: doingOf, state, onward, put. -/
import Derived.Test.YtbleeedbiipfnaaGreatDoorHc0
import Derived.Test.YtbleeedbiipfnaaGreatDoorHc9
import Derived.Deep.OwnRows
import Derived.Deep.RegionWith
import Derived.Test.YtbleeedbiipfnaaGreatDoorHc7
import Derived.ProofKit
import Derived.OpenShut
import Derived.ShutString
import Derived.ChangeOld
import Derived.Below
import Derived.Deep.Slices
import Derived.Deep.RegionHeld3
namespace Go.Proofs.YtbleeedbiipfnaaGreatDoor
set_option maxRecDepth 100000
set_option maxHeartbeats 1000000
open Go.RowKit Go.Deep
theorem infoIns : (Tryz.prog.info? 136).map (fun i => (i.zero, i.size, i.bytes)) = some (some (insV 0 0 0 0 0), 5, 40) := by kernel_rfl
theorem run_make_ins (n : Nat) (hn : n ≤ 1048576) (w : World) :
  (Instr.makeSlice 87 (.int .i64 (n : Int)) (.int .i64 (n : Int))).run Tryz.prog w = .ok (.slice (some ⟨w.heap.size, 0, none⟩) n n) (w.alloc (.cells (madeCells (insV 0 0 0 0 0).cells (n * 5)) 136)) := by
 have hinfo := infoIns
 cases hi : Tryz.prog.info? 136 with
 | none => rw [hi] at hinfo; cases hinfo
 | some i =>
  rw [hi] at hinfo
  simp only [Option.map_some, Option.some.injEq, Prod.mk.injEq] at hinfo
  obtain ⟨hz, hs, hb⟩ := hinfo
  have h := run_make (P := Tryz.prog) w 87 136 i _ Tryz.underlying87 hi hz .i64 .i64 (n : Int) (n : Int) (by omega) (Int.le_refl _) (by rw [hb]; omega) (by omega)
  rw [hs] at h
  simpa using h
theorem madeIns_row (w : World) (n : Nat) : (w.alloc (.cells (madeCells (insV 0 0 0 0 0).cells (n * 5)) 136)).rowIs w.heap.size 136 (n * 5) (fun _ => .int .i64 0) := by
 refine ⟨_, blk_alloc_new _ _, size_madeCells _ _, fun i hi => ?_⟩
 have h5 : i % 5 < 5 := Nat.mod_lt _ (by omega)
 have : ∀ j, j < 5 → (#[Value.int .i64 0, .int .i64 0, .int .i64 0, .int .i64 0, .int .i64 0] : Array Value)[j]! = .int .i64 0 := by
  intro j hj
  match j, hj with
  | 0, _ => rfl
  | 1, _ => rfl
  | 2, _ => rfl
  | 3, _ => rfl
  | 4, _ => rfl
 simp only [madeCells, Value.cells]
 rw [Array.getElem?_map, Array.getElem?_range, if_pos hi]
 exact congrArg some (this (i % 5) h5)
def Filled (f : Nat → Value) (g : Nat → I5) (k : Nat) : Prop := ∀ i, i < k →
 f (i * 5) = .int .i64 (g i).o ∧ f (i * 5 + 1) = .int .i64 (g i).r ∧ f (i * 5 + 2) = .int .i64 (g i).a ∧ f (i * 5 + 3) = .int .i64 (g i).b ∧ f (i * 5 + 4) = .int .i64 (g i).n
theorem Filled.at {w : World} {b : Nat} {t : TypeId} {len k : Nat} {f : Nat → Value} {g : Nat → I5} (h : Filled f g k) (hr : w.rowIs b t (len * 5) f) (hk : k ≤ len) : InsAt w b 0 k g := by
 intro i hi
 obtain ⟨h0, h1, h2, h3, h4⟩ := h i hi
 refine ⟨?_, ?_, ?_, ?_, ?_⟩
 ·rw [hr.cell (by omega), Nat.zero_add, h0]
 ·rw [hr.cell (by omega), Nat.zero_add, h1]
 ·rw [hr.cell (by omega), Nat.zero_add, h2]
 ·rw [hr.cell (by omega), Nat.zero_add, h3]
 ·rw [hr.cell (by omega), Nat.zero_add, h4]
theorem Filled.step {w : World} {b : Nat} {t : TypeId} {len k : Nat} {f : Nat → Value} {g : Nat → I5} (hr : w.rowIs b t (len * 5) f) (h : Filled f g k) :
  ∃ f', (((((w.setCell ⟨b, k * 5, none⟩ (.int .i64 (g k).o)).setCell ⟨b, k * 5 + 1, none⟩ (.int .i64 (g k).r)).setCell ⟨b, k * 5 + 2, none⟩ (.int .i64 (g k).a)).setCell ⟨b, k * 5 + 3, none⟩ (.int .i64 (g k).b)).setCell ⟨b, k * 5 + 4, none⟩ (.int .i64 (g k).n)).rowIs b t (len * 5) f' ∧ Filled f' g (k + 1) := by
 refine ⟨_, ((((hr.set _ _).set _ _).set _ _).set _ _).set _ _, fun i hi => ?_⟩
 by_cases hik : i = k
 ·subst hik
  simp
 ·have hlt : i < k := by omega
  obtain ⟨h0, h1, h2, h3, h4⟩ := h i hlt
  refine ⟨?_, ?_, ?_, ?_, ?_⟩
  ·rw [if_neg (by omega), if_neg (by omega), if_neg (by omega), if_neg (by omega), if_neg (by omega)]; exact h0
  ·rw [if_neg (by omega), if_neg (by omega), if_neg (by omega), if_neg (by omega), if_neg (by omega)]; exact h1
  ·rw [if_neg (by omega), if_neg (by omega), if_neg (by omega), if_neg (by omega), if_neg (by omega)]; exact h2
  ·rw [if_neg (by omega), if_neg (by omega), if_neg (by omega), if_neg (by omega), if_neg (by omega)]; exact h3
  ·rw [if_neg (by omega), if_neg (by omega), if_neg (by omega), if_neg (by omega), if_neg (by omega)]; exact h4
theorem eqIns_same (op r a b n : Int) (w : World) :
  Calls Tryz.prog 200 #[insV op r a b n, insV op r a b n] w fun e w' => e = .returned (.bool true) ∧ Below w.heap.size w w' := by
 go_enter Tryz.func200, Tryz.ntmps200
 go_wp2
 go_ret
 exact ⟨rfl, by go_grown⟩
theorem eqInsS_same (b1 b2 len c1 c2 : Nat) (g : Nat → I5) (w : World) (hlen : len ≤ 1048576) (hb1 : b1 < w.heap.size) (hb2 : b2 < w.heap.size) (hc1 : InsAt w b1 0 len g) (hc2 : InsAt w b2 0 len g) :
  Calls Tryz.prog 157 #[.slice (some ⟨b1, 0, none⟩) len c1, .slice (some ⟨b2, 0, none⟩) len c2] w fun e w' => e = .returned (.bool true) ∧ Below w.heap.size w w' := by
 have hl' : (len : Int) ≤ 1048576 := by omega
 have HC1 : Hid (InsAt w b1 0 len g) := hc1
 have HC2 : Hid (InsAt w b2 0 len g) := hc2
 clear hc1 hc2
 go_enter Tryz.func157, Tryz.ntmps157
 go_wp2_with fail
 go_loopw [5] (fun i wr => ∃ k : Nat, k ≤ len ∧ i = .int .i64 k ∧ Below w.heap.size w wr) (fun i _ => len - (intOf i).toNat)
 case atStart => exact ⟨0, Nat.zero_le _, rfl, Below.refl _ _⟩
 case round =>
  obtain ⟨k, hk, rfl, hbw⟩ := hrel
  have hs := hbw.size
  by_cases hlt : k < len
  ·obtain ⟨c0, c1, c2, c3, c4⟩ := HC1.out.below hbw hb1 k hlt
   obtain ⟨d0, d1, d2, d3, d4⟩ := HC2.out.below hbw hb2 k hlt
   have hlt' : (k : Int) < (len : Int) := by omega
   rw [Nat.zero_add] at c0 c1 c2 c3 c4 d0 d1 d2 d3 d4
   go_wp2_with fail
   first | (go_region_with (go_at_call 200; refine (eqIns_same _ _ _ _ _ _).mono ?_; rintro e w1 ⟨rfl, hq1⟩)) | fail
   all_goals
    go_wp2
    go_roundw
    case rel => exact ⟨k + 1, by omega, by go_num, hbw.drew.trans (hq1.mono hs)⟩
    case measure => simp [intOf]; omega
  ·go_wp2
   go_ret
   exact ⟨rfl, hbw⟩
open Go.ChangeShapes Go.WideShapes Go.ChangeAt
theorem Tryz.own : ownKnob Tryz.prog.godebug = none := by kernel_rfl
theorem Tryz.laidOut : laidOutB Tryz.prog = true := by kernel_rfl
theorem cellsLawIns : Tryz.prog.cellsOf 217 = 5 := by kernel_rfl
theorem cellsLawState : Tryz.prog.cellsOf 162 = 4 := by kernel_rfl
theorem cellsInt : Tryz.prog.cellsOf 3 = 1 := by kernel_rfl
theorem cellsInts : Tryz.prog.cellsOf 37 = 1 := by kernel_rfl
theorem array4 {cs : Array Value} (h : cs.size = 4) : ∃ c0 c1 c2 c3, cs = #[c0, c1, c2, c3] := by
 obtain ⟨l⟩ := cs
 match l, h with
 | [c0, c1, c2, c3], _ => exact ⟨c0, c1, c2, c3, rfl⟩
theorem open_insCells {H : Type} {enc : TypeId × Value → H} {w : World} {base fuel : Nat} {spare : Nat → Bool} {held : Bool} {c0 c1 c2 c3 c4 : Value} {x : DataW H × List MemPlace}
  (hf : DataW.trod enc Tryz.prog w base spare held fuel 217 [c0, c1, c2, c3, c4] = some x) :
  ∃ op r a b n : Int, c0 = .int .i64 op ∧ c1 = .int .i64 r ∧ c2 = .int .i64 a ∧ c3 = .int .i64 b ∧ c4 = .int .i64 n := by
 obtain ⟨xs, m, -, -, -, hl, hx⟩ := DataW.trod_struct Tryz.underlying217 hf
 have hl : xs.length = 5 := hl
 have q0 : DataW.trod enc Tryz.prog w base spare held m 3 [c0] = xs[0]? := by simpa [cellsInt] using hx 0 _ rfl
 have q1 : DataW.trod enc Tryz.prog w base spare held m 3 [c1] = xs[1]? := by simpa [cellsInt] using hx 1 _ rfl
 have q2 : DataW.trod enc Tryz.prog w base spare held m 3 [c2] = xs[2]? := by simpa [cellsInt] using hx 2 _ rfl
 have q3 : DataW.trod enc Tryz.prog w base spare held m 3 [c3] = xs[3]? := by simpa [cellsInt] using hx 3 _ rfl
 have q4 : DataW.trod enc Tryz.prog w base spare held m 3 [c4] = xs[4]? := by simpa [cellsInt] using hx 4 _ rfl
 rw [List.getElem?_eq_getElem (by omega)] at q0 q1 q2 q3 q4
 obtain ⟨z0, e0, -, -⟩ := DataW.trod_int Tryz.underlying3 q0
 obtain ⟨z1, e1, -, -⟩ := DataW.trod_int Tryz.underlying3 q1
 obtain ⟨z2, e2, -, -⟩ := DataW.trod_int Tryz.underlying3 q2
 obtain ⟨z3, e3, -, -⟩ := DataW.trod_int Tryz.underlying3 q3
 obtain ⟨z4, e4, -, -⟩ := DataW.trod_int Tryz.underlying3 q4
 simp only [List.cons.injEq, and_true] at e0 e1 e2 e3 e4
 exact ⟨z0, z1, z2, z3, z4, e0, e1, e2, e3, e4⟩
theorem addr_addO (b off j : Nat) : Addr.add ⟨b, off, none⟩ j = ⟨b, off + j, none⟩ := by
 unfold Addr.add
 by_cases h : j = 0
 ·rw [if_pos h, h, Nat.add_zero]
 ·rw [if_neg h]
theorem cell_lt {w : World} {p : Addr} {v : Value} (h : w.cell? p = some v) : p.block < w.heap.size := World.block_lt_of_cell? w p h
theorem open_insRow {H : Type} {enc : TypeId × Value → H} {w : World} {spare : Nat → Bool} {held : Bool} {base : Nat} {a0 : Option Addr} {len cap : Nat} {d : DataW H} {p : List MemPlace}
  (h : DataW.Trod enc Tryz.prog w base spare held 160 (.slice a0 len cap) d p) :
  len ≤ maxLen ∧ (len = 0 ∨ ∃ b off g, a0 = some ⟨b, off, none⟩ ∧ b < w.heap.size ∧ InsAt w b off len g) := by
 obtain ⟨fuel, hf⟩ := h
 rcases Go.Deep.open_slice Tryz.underlying160 hf with ⟨hcs, _⟩ | ⟨a, len', cap', m, n, D, Pl, hcs, _, hl, hm, hmm, _, hx⟩
 ·simp [Value.cells] at hcs
  obtain ⟨_, rfl, _⟩ := hcs
  exact ⟨Nat.zero_le _, .inl rfl⟩
 ·simp [Value.cells] at hcs
  obtain ⟨rfl, rfl, rfl⟩ := hcs
  refine ⟨Nat.le_trans hl hm, ?_⟩
  by_cases h0 : len = 0
  ·exact .inl h0
  right
  have hle : len ≤ m := by rw [hmm]; split <;> omega
  rw [cellsLawIns] at hx
  obtain ⟨b, off, spot⟩ := a
  have hcell : ∀ i, i < len → ∃ x : I5, w.cell? (Addr.add (Addr.add ⟨b, off, spot⟩ (i * 5)) 0) = some (.int .i64 x.o) ∧ w.cell? (Addr.add (Addr.add ⟨b, off, spot⟩ (i * 5)) 1) = some (.int .i64 x.r) ∧ w.cell? (Addr.add (Addr.add ⟨b, off, spot⟩ (i * 5)) 2) = some (.int .i64 x.a) ∧ w.cell? (Addr.add (Addr.add ⟨b, off, spot⟩ (i * 5)) 3) = some (.int .i64 x.b) ∧ w.cell? (Addr.add (Addr.add ⟨b, off, spot⟩ (i * 5)) 4) = some (.int .i64 x.n) := by
   intro i hi
   obtain ⟨cs', h1, h2⟩ := hx i (by omega)
   obtain ⟨_, hlen, hc⟩ := World.cells?_some h1
   match cs', hlen with
   | [c0, c1, c2, c3, c4], _ =>
    obtain ⟨o, r, a, b, n, rfl, rfl, rfl, rfl, rfl⟩ := open_insCells h2
    exact ⟨⟨o, r, a, b, n⟩, hc 0 (by omega), hc 1 (by omega), hc 2 (by omega), hc 3 (by omega), hc 4 (by omega)⟩
  have hspot : spot = none := by
   obtain ⟨x, hx0, _⟩ := hcell 0 (by omega)
   simpa [Addr.add] using World.cell?_spot hx0
  subst hspot
  have inh : Inhabited I5 := ⟨⟨0, 0, 0, 0, 0⟩⟩
  obtain ⟨g, hg⟩ := Go.Deep.choose_lt (α := I5) hcell
  have hI : InsAt w b off len g := by
   intro i hi
   obtain ⟨q0, q1, q2, q3, q4⟩ := hg i hi
   rw [addr_addO, addr_addO] at q0 q1 q2 q3 q4
   exact ⟨q0, q1, q2, q3, q4⟩
  exact ⟨b, off, g, rfl, cell_lt (hI 0 (by omega)).1, hI⟩
theorem open_intRow {H : Type} {enc : TypeId × Value → H} {w : World} {held : Bool} {base fuel : Nat} {v : Value} {x : DataW H × List MemPlace}
  (hf : DataW.trod enc Tryz.prog w base (fun _ => true) held fuel 37 [v] = some x) :
  ∃ a0 cap xs, v = .slice a0 xs.length cap ∧ xs.length ≤ maxLen ∧ Sl w a0 xs := by
 rcases open_ints Tryz.underlying37 Tryz.underlying3 cellsInt hf with ⟨hcs, _⟩ | ⟨a, l, c, zs, hcs, _, hl, hm, hz, _, hcell, _⟩
 ·simp at hcs
  exact ⟨none, 0, [], hcs, Nat.zero_le _, .inl rfl⟩
 ·simp at hcs
  have hz' : zs.length = c := by simpa using hz
  have hlen : (zs.take l).length = l := by simp; omega
  refine ⟨some a, c, zs.take l, by rw [hlen]; exact hcs, by rw [hlen]; exact Nat.le_trans hl hm, ?_⟩
  by_cases h0 : l = 0
  ·exact .inl (by simp [h0])
  obtain ⟨b, off, rfl, hc⟩ := ints_at hcell (by omega)
  refine .inr ⟨b, off, rfl, cell_lt (hc 0 (by omega)), fun i hi => ?_⟩
  rw [hlen] at hi
  rw [hc i (by omega)]
  unfold zi
  rw [List.getD_eq_getElem?_getD, List.getD_eq_getElem?_getD, List.getElem?_take, if_pos hi]
def Copies (w : World) (a0 : Option Addr) (len cap : Nat) (g : Nat → I5) : Prop := ∀ wx, Below w.heap.size w wx →
 Calls Tryz.prog 153 #[.slice a0 len cap] wx fun e w' => e = .returned (.slice (some ⟨wx.heap.size, 0, none⟩) len len) ∧ InsAt w' wx.heap.size 0 len g ∧ wx.heap.size < w'.heap.size ∧ Below wx.heap.size wx w'
abbrev dV (p a b c d : Int) (oa : Option Addr) (on oc : Nat) (code : Int) : Value := .agg #[.int .i64 p, .int .i64 a, .int .i64 b, .int .i64 c, .int .i64 d, .slice oa on oc, .int .i64 code]
theorem onward_any (p a b c d : Int) (oa : Option Addr) (on oc : Nat) (code : Int) (w : World) (h0 : 0 ≤ p) (h1 : p ≤ 1000000000) :
  Calls Tryz.prog 236 #[dV p a b c d oa on oc code] w fun e w' => e = .returned (dV (p + 1) a b c d oa on oc code) ∧ Below w.heap.size w w' := by
 go_enter Tryz.func236, Tryz.ntmps236
 go_wp2
 refine bodyPost_ret (v := dV (p + 1) a b c d oa on oc code) (by simp [results, Tryz.results236, go_sem]) rfl ⟨rfl, ?_⟩
 go_grown
def set4 (a b c d : Int) (j : Nat) (v : Int) : Int × Int × Int × Int := if j = 0 then (v, b, c, d) else if j = 1 then (a, v, c, d) else if j = 2 then (a, b, v, d) else (a, b, c, v)
theorem put_any (p a b c d : Int) (oa : Option Addr) (on oc : Nat) (code : Int) (j : Nat) (v : Int) (w : World) (h0 : 0 ≤ p) (h1 : p ≤ 1000000000) (hj : j < 4) :
  Calls Tryz.prog 235 #[dV p a b c d oa on oc code, .int .i64 j, .int .i64 v] w fun e w' => e = .returned (dV (p + 1) (set4 a b c d j v).1 (set4 a b c d j v).2.1 (set4 a b c d j v).2.2.1 (set4 a b c d j v).2.2.2 oa on oc code) ∧ Below w.heap.size w w' := by
 have hh : j = 0 ∨ j = 1 ∨ j = 2 ∨ j = 3 := by omega
 rcases hh with rfl | rfl | rfl | rfl
 ·go_enter Tryz.func235, Tryz.ntmps235
  go_wp2_with fail
  refine (onward_any _ _ _ _ _ _ _ _ _ _ h0 h1).mono ?_
  rintro e w1 ⟨rfl, b1⟩
  have B1 : Hid (Below w.heap.size w w1) := below_up (by go_grown) b1 (by simp; omega)
  obtain ⟨hc1, hf1⟩ := bcell b1
  clear b1
  go_wp2
  refine bodyPost_ret (v := dV (p + 1) v b c d oa on oc code) (by simp [results, Tryz.results235, go_sem, hc1]) rfl ⟨rfl, ?_⟩
  have := B1.out
  go_grown
 ·go_enter Tryz.func235, Tryz.ntmps235
  go_wp2_with fail
  refine (onward_any _ _ _ _ _ _ _ _ _ _ h0 h1).mono ?_
  rintro e w1 ⟨rfl, b1⟩
  have B1 : Hid (Below w.heap.size w w1) := below_up (by go_grown) b1 (by simp; omega)
  obtain ⟨hc1, hf1⟩ := bcell b1
  clear b1
  go_wp2
  refine bodyPost_ret (v := dV (p + 1) a v c d oa on oc code) (by simp [results, Tryz.results235, go_sem, hc1]) rfl ⟨rfl, ?_⟩
  have := B1.out
  go_grown
 ·go_enter Tryz.func235, Tryz.ntmps235
  go_wp2_with fail
  refine (onward_any _ _ _ _ _ _ _ _ _ _ h0 h1).mono ?_
  rintro e w1 ⟨rfl, b1⟩
  have B1 : Hid (Below w.heap.size w w1) := below_up (by go_grown) b1 (by simp; omega)
  obtain ⟨hc1, hf1⟩ := bcell b1
  clear b1
  go_wp2
  refine bodyPost_ret (v := dV (p + 1) a b v d oa on oc code) (by simp [results, Tryz.results235, go_sem, hc1]) rfl ⟨rfl, ?_⟩
  have := B1.out
  go_grown
 ·go_enter Tryz.func235, Tryz.ntmps235
  go_wp2_with fail
  refine (onward_any _ _ _ _ _ _ _ _ _ _ h0 h1).mono ?_
  rintro e w1 ⟨rfl, b1⟩
  have B1 : Hid (Below w.heap.size w w1) := below_up (by go_grown) b1 (by simp; omega)
  obtain ⟨hc1, hf1⟩ := bcell b1
  clear b1
  go_wp2
  refine bodyPost_ret (v := dV (p + 1) a b c v oa on oc code) (by simp [results, Tryz.results235, go_sem, hc1]) rfl ⟨rfl, ?_⟩
  have := B1.out
  go_grown
theorem doingOf_any (p code : Int) (ra oa : Option Addr) (rc oc : Nat) (a b c d : Int) (os : List Int) (w : World) (ho : os.length ≤ 1048576) (h1 : Sl w ra [a, b, c, d]) (h2 : Sl w oa os) :
  Calls Tryz.prog 185 #[stV p ra 4 rc oa os.length oc code] w fun e w' => ∃ oa' oc', e = .returned (dV p a b c d oa' os.length oc' code) ∧ OwnI w' w.heap.size (.slice oa' os.length oc') os ∧ Below w.heap.size w w' := by
 have H1 : Hid (Sl w ra [a, b, c, d]) := h1
 have H2 : Hid (Sl w oa os) := h2
 clear h1 h2
 go_enter Tryz.func185, Tryz.ntmps185
 go_wp2_with fail
 refine (registersOf_any ra rc [a, b, c, d] _ (H1.out.below (by go_grown))).mono ?_
 rintro e w1 ⟨⟨q0, q1, q2, q3, rfl, hq⟩, b1⟩
 have hq' := hq rfl
 simp only [List.cons.injEq, and_true] at hq'
 obtain ⟨rfl, rfl, rfl, rfl⟩ := hq'
 have B1 : Hid (Below w.heap.size w w1) := below_up (by go_grown) b1 (by simp; omega)
 obtain ⟨hc1, hf1⟩ := bcell b1
 have y1 : w.heap.size + 1 < w1.heap.size := by have := b1.size; simp at this; omega
 have y0 : w.heap.size < w1.heap.size := by omega
 clear b1 hq
 go_wp2_with fail
 have B2 : Hid (Below w.heap.size w (w1.alloc (.cells #[.int .i64 a, .int .i64 b, .int .i64 c, .int .i64 d] 196))) := B1.out.alloc (by omega) _
 generalize hW : w1.alloc (.cells #[.int .i64 a, .int .i64 b, .int .i64 c, .int .i64 d] 196) = W at *
 have lr : w1.heap.size < W.heap.size := by rw [← hW]; simp
 have k0 : W.cell? ⟨w1.heap.size, 0, none⟩ = some (.int .i64 a) := by rw [← hW]; simp
 have k1 : W.cell? ⟨w1.heap.size, 1, none⟩ = some (.int .i64 b) := by rw [← hW]; simp
 have k2 : W.cell? ⟨w1.heap.size, 2, none⟩ = some (.int .i64 c) := by rw [← hW]; simp
 have k3 : W.cell? ⟨w1.heap.size, 3, none⟩ = some (.int .i64 d) := by rw [← hW]; simp
 have s0 : W.cell? ⟨w.heap.size, 0, none⟩ = some (.int .i64 p) := by rw [← hW, old_cell _ _ y0, hc1 _ _ (by simp; omega)]; simp
 have s2 : W.cell? ⟨w.heap.size, 2, none⟩ = some (.slice oa os.length oc) := by rw [← hW, old_cell _ _ y0, hc1 _ _ (by simp; omega)]; simp
 have s3 : W.cell? ⟨w.heap.size, 3, none⟩ = some (.int .i64 code) := by rw [← hW, old_cell _ _ y0, hc1 _ _ (by simp; omega)]; simp
 have e0 : W.cell? ⟨w.heap.size + 1, 0, none⟩ = some (.int .i64 0) := by rw [← hW, old_cell _ _ y1, hc1 _ _ (by simp)]; simp
 have e1 : W.cell? ⟨w.heap.size + 1, 1, none⟩ = some (.int .i64 0) := by rw [← hW, old_cell _ _ y1, hc1 _ _ (by simp)]; simp
 have e2 : W.cell? ⟨w.heap.size + 1, 2, none⟩ = some (.int .i64 0) := by rw [← hW, old_cell _ _ y1, hc1 _ _ (by simp)]; simp
 have e3 : W.cell? ⟨w.heap.size + 1, 3, none⟩ = some (.int .i64 0) := by rw [← hW, old_cell _ _ y1, hc1 _ _ (by simp)]; simp
 have e4 : W.cell? ⟨w.heap.size + 1, 4, none⟩ = some (.int .i64 0) := by rw [← hW, old_cell _ _ y1, hc1 _ _ (by simp)]; simp
 have e5 : W.cell? ⟨w.heap.size + 1, 5, none⟩ = some (.slice none 0 0) := by rw [← hW, old_cell _ _ y1, hc1 _ _ (by simp)]; simp
 have e6 : W.cell? ⟨w.heap.size + 1, 6, none⟩ = some (.int .i64 0) := by rw [← hW, old_cell _ _ y1, hc1 _ _ (by simp)]; simp
 have ef : ∀ j, W.frozen? ⟨w.heap.size + 1, j, none⟩ = false := fun j => by rw [← hW, World.frozen?_of_block (Below.heap_alloc w1 _ _ y1), hf1 _ _ (by simp)]; simp
 have l0 : w.heap.size < W.heap.size := by omega
 have l1 : w.heap.size + 1 < W.heap.size := by omega
 have ne1 : w1.heap.size ≠ w.heap.size + 1 := by omega
 have ne2 : w.heap.size + 1 ≠ w1.heap.size := by omega
 clear hc1 hf1 hW B1 y0 y1
 go_region_held3 (fun w' => w'.cell? ⟨w.heap.size, 0, none⟩ = some (.int .i64 p) ∧ w'.cell? ⟨w.heap.size, 2, none⟩ = some (.slice oa os.length oc) ∧ w'.cell? ⟨w.heap.size, 3, none⟩ = some (.int .i64 code) ∧ w'.cell? ⟨w1.heap.size, 0, none⟩ = some (.int .i64 a) ∧ w'.cell? ⟨w1.heap.size, 1, none⟩ = some (.int .i64 b) ∧ w'.cell? ⟨w1.heap.size, 2, none⟩ = some (.int .i64 c) ∧ w'.cell? ⟨w1.heap.size, 3, none⟩ = some (.int .i64 d)) (go_keep)
  (first | (go_at_call 174; refine (clone_any oa oc os _ ho (by exact H2.out.below B2.out.drew)).mono ?_; rintro e w2 ⟨v2, rfl, o2, b2'⟩; have b2 : Below W.heap.size W w2 := (Below.refl W.heap.size W).drew.trans b2'; obtain ⟨oa2, oc2, rfl, -⟩ := o2.form; obtain ⟨hc2, hf2⟩ := bcell b2; have O2 : Hid (OwnI w2 W.heap.size (.slice oa2 os.length oc2) os) := o2; have B3 : Hid (Below w.heap.size w w2) := B2.out.trans (b2.mono B2.out.size); clear o2 b2 b2'))
 go_wp2
 refine bodyPost_ret (v := dV p a b c d oa2 os.length oc2 code) (by simp [results, Tryz.results185, go_sem, hc2, l1, e0, e1, e2, e3, e4, e5, e6]) rfl ⟨_, _, rfl, ?_, ?_⟩
 ·refine OwnI.mono (B := W.heap.size) ?_ (by omega)
  repeat (refine OwnI.setBelow ?_ (by simpa using by omega) _)
  exact O2.out
 ·have := B3.out
  go_grown
theorem state_any (p a b c d : Int) (oa : Option Addr) (oc : Nat) (os : List Int) (code : Int) (B : Nat) (w : World) (hB : B ≤ w.heap.size) (ho : OwnI w B (.slice oa os.length oc) os) :
  Calls Tryz.prog 188 #[dV p a b c d oa os.length oc code] w fun e w' => ∃ v, e = .returned v ∧ StOwn w' B v p [a, b, c, d] os code ∧ Below w.heap.size w w' := by
 have HO : Hid (OwnI w B (.slice oa os.length oc) os) := ho
 clear ho
 go_enter Tryz.func188, Tryz.ntmps188
 go_wp2_with fail
 have B2 : Hid (Below w.heap.size w ((w.alloc (oQ0 p a b c d oa os.length oc code)).alloc (zQ0))) := by
  show Below _ _ _
  go_grown
 have k0 : ((w.alloc (oQ0 p a b c d oa os.length oc code)).alloc (zQ0)).cell? ⟨w.heap.size, 0, none⟩ = some (.int .i64 p) := (old_cell _ _ (by simp)).trans (by simp)
 have k1 : ((w.alloc (oQ0 p a b c d oa os.length oc code)).alloc (zQ0)).cell? ⟨w.heap.size, 1, none⟩ = some (.int .i64 a) := (old_cell _ _ (by simp)).trans (by simp)
 have k2 : ((w.alloc (oQ0 p a b c d oa os.length oc code)).alloc (zQ0)).cell? ⟨w.heap.size, 2, none⟩ = some (.int .i64 b) := (old_cell _ _ (by simp)).trans (by simp)
 have k3 : ((w.alloc (oQ0 p a b c d oa os.length oc code)).alloc (zQ0)).cell? ⟨w.heap.size, 3, none⟩ = some (.int .i64 c) := (old_cell _ _ (by simp)).trans (by simp)
 have k4 : ((w.alloc (oQ0 p a b c d oa os.length oc code)).alloc (zQ0)).cell? ⟨w.heap.size, 4, none⟩ = some (.int .i64 d) := (old_cell _ _ (by simp)).trans (by simp)
 have k5 : ((w.alloc (oQ0 p a b c d oa os.length oc code)).alloc (zQ0)).cell? ⟨w.heap.size, 5, none⟩ = some (.slice oa os.length oc) := (old_cell _ _ (by simp)).trans (by simp)
 have k6 : ((w.alloc (oQ0 p a b c d oa os.length oc code)).alloc (zQ0)).cell? ⟨w.heap.size, 6, none⟩ = some (.int .i64 code) := (old_cell _ _ (by simp)).trans (by simp)
 have e0 : ((w.alloc (oQ0 p a b c d oa os.length oc code)).alloc (zQ0)).cell? ⟨w.heap.size + 1, 0, none⟩ = some (.int .i64 0) := by simp
 have e1 : ((w.alloc (oQ0 p a b c d oa os.length oc code)).alloc (zQ0)).cell? ⟨w.heap.size + 1, 1, none⟩ = some (.slice none 0 0) := by simp
 have e2 : ((w.alloc (oQ0 p a b c d oa os.length oc code)).alloc (zQ0)).cell? ⟨w.heap.size + 1, 2, none⟩ = some (.slice none 0 0) := by simp
 have e3 : ((w.alloc (oQ0 p a b c d oa os.length oc code)).alloc (zQ0)).cell? ⟨w.heap.size + 1, 3, none⟩ = some (.int .i64 0) := by simp
 have ef : ∀ j, ((w.alloc (oQ0 p a b c d oa os.length oc code)).alloc (zQ0)).frozen? ⟨w.heap.size + 1, j, none⟩ = false := fun j => by simp
 have l1 : w.heap.size + 1 < ((w.alloc (oQ0 p a b c d oa os.length oc code)).alloc (zQ0)).heap.size := by simp
 generalize (w.alloc (oQ0 p a b c d oa os.length oc code)).alloc (zQ0) = W at *
 have l0 : w.heap.size < W.heap.size := by omega
 have HS : Hid (Sl W (some ⟨w.heap.size, 1, none⟩) [a, b, c, d]) := .inr ⟨_, _, rfl, l0, fun i hi => by
  match i, hi with
  | 0, _ => exact k1
  | 1, _ => exact k2
  | 2, _ => exact k3
  | 3, _ => exact k4⟩
 have ne2 : w.heap.size + 1 ≠ w.heap.size := by omega
 have ne1 : w.heap.size ≠ w.heap.size + 1 := by omega
 go_region_held3 (fun w' => w'.cell? ⟨w.heap.size, 0, none⟩ = some (.int .i64 p) ∧ w'.cell? ⟨w.heap.size, 5, none⟩ = some (.slice oa os.length oc) ∧ w'.cell? ⟨w.heap.size, 6, none⟩ = some (.int .i64 code)) (go_keep)
  (first | (go_at_call 174; refine (clone_any _ _ [a, b, c, d] _ (by simp) (by exact HS.out.below ((Below.refl W.heap.size W).drew))).mono ?_; rintro e w2 ⟨v2, rfl, o2, b2'⟩; have b2 : Below W.heap.size W w2 := (Below.refl W.heap.size W).drew.trans b2'; obtain ⟨ra2, rc2, hv2, -⟩ := o2.form; rw [show [a, b, c, d].length = 4 from rfl] at hv2; subst hv2; obtain ⟨hc2, hf2⟩ := bcell b2; have O2 : Hid (OwnI w2 W.heap.size (.slice ra2 4 rc2) [a, b, c, d]) := o2; have P2 : Hid (OwnI w2 B (.slice oa os.length oc) os) := (HO.out.below B2.out).below b2; have B3 : Hid (Below w.heap.size w w2) := B2.out.trans (b2.mono B2.out.size); clear o2 b2 b2'))
 have lo : ∀ j, (Value.slice oa os.length oc).ownBlock = some j → j < w.heap.size := fun j hj => (HO.out.lt j hj).2
 have LO : Hid (∀ j, (Value.slice oa os.length oc).ownBlock = some j → j < w.heap.size) := lo
 clear lo HS k0 k1 k2 k3 k4 k5 k6
 go_wp2
 refine bodyPost_ret (v := stV p ra2 4 rc2 oa os.length oc code) (by simp [results, Tryz.results188, go_sem, hc2, l1, e0, e1, e2, e3]) rfl ⟨_, rfl, ⟨_, _, rfl, ?_, ?_, ?_⟩, ?_⟩
 ·refine OwnI.mono (B := W.heap.size) ?_ (by omega)
  repeat (refine OwnI.setBelow ?_ (by simpa using l1) _)
  exact O2.out
 ·repeat (refine OwnI.setOther ?_ (fun e => by have := LO.out _ e; simp at this; omega) _)
  exact P2.out
 ·intro j h1 h2
  have := (O2.out.lt j h1).1
  have := LO.out j h2
  omega
 ·have := B3.out
  go_grown
end Go.Proofs.YtbleeedbiipfnaaGreatDoor
