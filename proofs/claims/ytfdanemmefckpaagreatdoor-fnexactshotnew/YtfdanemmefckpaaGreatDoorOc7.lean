/- The walks of the model's l2Do. -/
import Derived.Test.YtfdanemmefckpaaGreatDoorOc0
import Derived.Test.YtfdanemmefckpaaGreatDoorOc6
import Derived.Deep.OwnRows
import Derived.Deep.RegionWith
import Derived.Test.YtfdanemmefckpaaGreatDoorOc2
import Derived.Deep.RegionHeld3
namespace Go.Proofs.YtfdanemmefckpaaGreatDoor
set_option maxRecDepth 100000
set_option maxHeartbeats 4000000
open Go.RowKit Go.Deep
theorem infoIns : (Tryz.prog.info? 149).map (fun i => (i.zero, i.size, i.bytes)) = some (some (insV 0 0 0 0 0), 5, 40) := by kernel_rfl
theorem run_make_ins (n : Nat) (hn : n ≤ 1048576) (w : World) :
  (Instr.makeSlice 122 (.int .i64 (n : Int)) (.int .i64 (n : Int))).run Tryz.prog w = .ok (.slice (some ⟨w.heap.size, 0, none⟩) n n) (w.alloc (.cells (madeCells (insV 0 0 0 0 0).cells (n * 5)) 149)) := by
 have hinfo := infoIns
 cases hi : Tryz.prog.info? 149 with
 | none => rw [hi] at hinfo; cases hinfo
 | some i =>
  rw [hi] at hinfo
  simp only [Option.map_some, Option.some.injEq, Prod.mk.injEq] at hinfo
  obtain ⟨hz, hs, hb⟩ := hinfo
  have h := run_make (P := Tryz.prog) w 122 149 i _ Tryz.underlying122 hi hz .i64 .i64 (n : Int) (n : Int) (by omega) (Int.le_refl _) (by rw [hb]; omega) (by omega)
  rw [hs] at h
  simpa using h
theorem madeIns_row (w : World) (n : Nat) : (w.alloc (.cells (madeCells (insV 0 0 0 0 0).cells (n * 5)) 149)).rowIs w.heap.size 149 (n * 5) (fun _ => .int .i64 0) := by
 refine ⟨_, blk_alloc_new _ _, size_madeCells _ _, fun i hi => ?_⟩
 have h5 : i % 5 < 5 := Nat.mod_lt _ (by omega)
 have : ∀ j, j < 5 → (#[Value.int .i64 0, .int .i64 0, .int .i64 0, .int .i64 0, .int .i64 0] : Array Value)[j]! = .int .i64 0 := by
  intro j hj
  match j, hj with
  | 0, _ => rfl
  | 1, _ => rfl
  | 2, _ => rfl
  | 3, _ => rfl
  | 4, _ => rfl
 simp only [madeCells, Value.cells]
 rw [Array.getElem?_map, Array.getElem?_range, if_pos hi]
 exact congrArg some (this (i % 5) h5)
def Filled (f : Nat → Value) (g : Nat → I5) (k : Nat) : Prop := ∀ i, i < k →
 f (i * 5) = .int .i64 (g i).o ∧ f (i * 5 + 1) = .int .i64 (g i).r ∧ f (i * 5 + 2) = .int .i64 (g i).a ∧ f (i * 5 + 3) = .int .i64 (g i).b ∧ f (i * 5 + 4) = .int .i64 (g i).n
theorem Filled.at {w : World} {b : Nat} {t : TypeId} {len k : Nat} {f : Nat → Value} {g : Nat → I5} (h : Filled f g k) (hr : w.rowIs b t (len * 5) f) (hk : k ≤ len) : InsAt w b 0 k g := by
 intro i hi
 obtain ⟨h0, h1, h2, h3, h4⟩ := h i hi
 refine ⟨?_, ?_, ?_, ?_, ?_⟩
 ·rw [hr.cell (by omega), Nat.zero_add, h0]
 ·rw [hr.cell (by omega), Nat.zero_add, h1]
 ·rw [hr.cell (by omega), Nat.zero_add, h2]
 ·rw [hr.cell (by omega), Nat.zero_add, h3]
 ·rw [hr.cell (by omega), Nat.zero_add, h4]
theorem Filled.step {w : World} {b : Nat} {t : TypeId} {len k : Nat} {f : Nat → Value} {g : Nat → I5} (hr : w.rowIs b t (len * 5) f) (h : Filled f g k) :
  ∃ f', (((((w.setCell ⟨b, k * 5, none⟩ (.int .i64 (g k).o)).setCell ⟨b, k * 5 + 1, none⟩ (.int .i64 (g k).r)).setCell ⟨b, k * 5 + 2, none⟩ (.int .i64 (g k).a)).setCell ⟨b, k * 5 + 3, none⟩ (.int .i64 (g k).b)).setCell ⟨b, k * 5 + 4, none⟩ (.int .i64 (g k).n)).rowIs b t (len * 5) f' ∧ Filled f' g (k + 1) := by
 refine ⟨_, ((((hr.set _ _).set _ _).set _ _).set _ _).set _ _, fun i hi => ?_⟩
 by_cases hik : i = k
 ·subst hik
  simp
 ·have hlt : i < k := by omega
  obtain ⟨h0, h1, h2, h3, h4⟩ := h i hlt
  refine ⟨?_, ?_, ?_, ?_, ?_⟩
  ·rw [if_neg (by omega), if_neg (by omega), if_neg (by omega), if_neg (by omega), if_neg (by omega)]; exact h0
  ·rw [if_neg (by omega), if_neg (by omega), if_neg (by omega), if_neg (by omega), if_neg (by omega)]; exact h1
  ·rw [if_neg (by omega), if_neg (by omega), if_neg (by omega), if_neg (by omega), if_neg (by omega)]; exact h2
  ·rw [if_neg (by omega), if_neg (by omega), if_neg (by omega), if_neg (by omega), if_neg (by omega)]; exact h3
  ·rw [if_neg (by omega), if_neg (by omega), if_neg (by omega), if_neg (by omega), if_neg (by omega)]; exact h4
theorem eqIns_same (op r a b n : Int) (w : World) :
  Calls Tryz.prog 177 #[insV op r a b n, insV op r a b n] w fun e w' => e = .returned (.bool true) ∧ Below w.heap.size w w' := by
 go_enter Tryz.func177, Tryz.ntmps177
 go_wp2
 go_ret
 exact ⟨rfl, by go_grown⟩
theorem eqInsS_same (b1 b2 len c1 c2 : Nat) (g : Nat → I5) (w : World) (hlen : len ≤ 1048576) (hb1 : b1 < w.heap.size) (hb2 : b2 < w.heap.size) (hc1 : InsAt w b1 0 len g) (hc2 : InsAt w b2 0 len g) :
  Calls Tryz.prog 102 #[.slice (some ⟨b1, 0, none⟩) len c1, .slice (some ⟨b2, 0, none⟩) len c2] w fun e w' => e = .returned (.bool true) ∧ Below w.heap.size w w' := by
 have hl' : (len : Int) ≤ 1048576 := by omega
 have HC1 : Hid (InsAt w b1 0 len g) := hc1
 have HC2 : Hid (InsAt w b2 0 len g) := hc2
 clear hc1 hc2
 go_enter Tryz.func102, Tryz.ntmps102
 go_wp2_with fail
 go_loopw [5] (fun i wr => ∃ k : Nat, k ≤ len ∧ i = .int .i64 k ∧ Below w.heap.size w wr) (fun i _ => len - (intOf i).toNat)
 case atStart => exact ⟨0, Nat.zero_le _, rfl, Below.refl _ _⟩
 case round =>
  obtain ⟨k, hk, rfl, hbw⟩ := hrel
  have hs := hbw.size
  by_cases hlt : k < len
  ·obtain ⟨c0, c1, c2, c3, c4⟩ := HC1.out.below hbw hb1 k hlt
   obtain ⟨d0, d1, d2, d3, d4⟩ := HC2.out.below hbw hb2 k hlt
   have hlt' : (k : Int) < (len : Int) := by omega
   rw [Nat.zero_add] at c0 c1 c2 c3 c4 d0 d1 d2 d3 d4
   go_wp2_with fail
   first | (go_region_with (go_at_call 177; refine (eqIns_same _ _ _ _ _ _).mono ?_; rintro e w1 ⟨rfl, hq1⟩)) | fail
   all_goals
    go_wp2
    go_roundw
    case rel => exact ⟨k + 1, by omega, by go_num, hbw.drew.trans (hq1.mono hs)⟩
    case measure => simp [intOf]; omega
  ·go_wp2
   go_ret
   exact ⟨rfl, hbw⟩
theorem inB_below (p : Int) (n : Nat) : inB p 0 ((n : Int) - 1) = belB p n := by
 rw [Bool.eq_iff_iff]; simp [inB, belB]; omega
theorem l2Next_p (b off len cap k : Nat) (g : Nat → I5) (p : Int) (code : Int) (ra oa : Option Addr) (rc on oc : Nat) (rs : List Int) (w : World) (_hl : (len : Int) ≤ 9223372036854775807) (hb : b < w.heap.size) (hI : InsAt w b off len g) (_h1 : Sl w ra rs) (_h4 : (rs.length : Int) = 4) (hk : k < len) (hp : p = k) (_a0 : 0 ≤ (g k).a) (_a3 : (g k).a ≤ 3) (ho : (g k).o = 1 ∨ (g k).o = 2 ∨ (g k).o = 3 ∨ (g k).o = 4 ∨ (g k).o = 5 ∨ (g k).o = 7 ∨ (g k).o = 9 ∨ (g k).o = 10 ∨ (g k).o = 11) :
  Calls Tryz.prog 143 #[.slice (some ⟨b, off, none⟩) len cap, stV p ra rs.length rc oa on oc code] w fun e w' => e = .returned (evV (evK (g k).o) (evP (g k).o (g k).n) (evW (g k).o (g k).a rs)) ∧ Below w.heap.size w w' := by
 subst hp
 have hk' : (k : Int) < (len : Int) := by omega
 obtain ⟨c0, c1, c2, c3, c4⟩ := hI k hk
 rcases ho with ho | ho | ho | ho | ho | ho | ho | ho | ho
 all_goals
  rw [ho] at c0 ⊢
  clear hI _h1 _a0 _a3 ho _h4
  go_enter Tryz.func143, Tryz.ntmps143
  go_wp2
  first
   | exact bodyPost_ret (v := evV 1 0 0) (by simp [results, Tryz.results143, go_sem]) rfl ⟨rfl, by go_grown⟩
   | exact bodyPost_ret (v := evV 3 (g k).n 0) (by simp [results, Tryz.results143, go_sem]) rfl ⟨rfl, by go_grown⟩
theorem l2Next_6 (b off len cap k : Nat) (g : Nat → I5) (p : Int) (code : Int) (ra oa : Option Addr) (rc on oc : Nat) (rs : List Int) (w : World) (_hl : (len : Int) ≤ 9223372036854775807) (hb : b < w.heap.size) (hI : InsAt w b off len g) (h1 : Sl w ra rs) (h4 : (rs.length : Int) = 4) (hk : k < len) (hp : p = k) (a0 : 0 ≤ (g k).a) (a3 : (g k).a ≤ 3) (ho : (g k).o = 6) :
  Calls Tryz.prog 143 #[.slice (some ⟨b, off, none⟩) len cap, stV p ra rs.length rc oa on oc code] w fun e w' => e = .returned (evV (evK 6) (evP 6 (g k).n) (evW 6 (g k).a rs)) ∧ Below w.heap.size w w' := by
 subst hp
 have hk' : (k : Int) < (len : Int) := by omega
 obtain ⟨c0, c1, c2, c3, c4⟩ := hI k hk
 rw [ho] at c0
 obtain ⟨j, hj⟩ := Int.eq_ofNat_of_zero_le a0
 rw [hj] at c2
 have hj4 : j < rs.length := by omega
 have hj4' : (j : Int) < (rs.length : Int) := by omega
 obtain ⟨b', off', rfl, hb', cr⟩ := h1.at hj4
 have hb1 : b' < w.heap.size + 1 := by omega
 have hb2 : b' < w.heap.size + 1 + 1 := by omega
 have HJ : Hid ((g k).a.toNat = j) := by show (g k).a.toNat = j; omega
 clear hI h1 a0 a3 ho hj h4
 go_enter Tryz.func143, Tryz.ntmps143
 go_wp2_with fail
 go_region
 all_goals
  go_wp2
  refine bodyPost_ret (v := evV 2 (g k).n (zi rs j)) (by simp [results, Tryz.results143, go_sem]) rfl ⟨ret_ev (by simp [evK, evP, evW, HJ.out]), ?_⟩
  go_grown
theorem l2Next_8 (b off len cap k : Nat) (g : Nat → I5) (p : Int) (code : Int) (ra oa : Option Addr) (rc on oc : Nat) (rs : List Int) (w : World) (_hl : (len : Int) ≤ 9223372036854775807) (hb : b < w.heap.size) (hI : InsAt w b off len g) (h1 : Sl w ra rs) (h4 : (rs.length : Int) = 4) (hk : k < len) (hp : p = k) (a0 : 0 ≤ (g k).a) (a3 : (g k).a ≤ 3) (ho : (g k).o = 8) :
  Calls Tryz.prog 143 #[.slice (some ⟨b, off, none⟩) len cap, stV p ra rs.length rc oa on oc code] w fun e w' => e = .returned (evV (evK 8) (evP 8 (g k).n) (evW 8 (g k).a rs)) ∧ Below w.heap.size w w' := by
 subst hp
 have hk' : (k : Int) < (len : Int) := by omega
 obtain ⟨c0, c1, c2, c3, c4⟩ := hI k hk
 rw [ho] at c0
 obtain ⟨j, hj⟩ := Int.eq_ofNat_of_zero_le a0
 rw [hj] at c2
 have hj4 : j < rs.length := by omega
 have hj4' : (j : Int) < (rs.length : Int) := by omega
 obtain ⟨b', off', rfl, hb', cr⟩ := h1.at hj4
 have hb1 : b' < w.heap.size + 1 := by omega
 have hb2 : b' < w.heap.size + 1 + 1 := by omega
 have HJ : Hid ((g k).a.toNat = j) := by show (g k).a.toNat = j; omega
 clear hI h1 a0 a3 ho hj h4
 go_enter Tryz.func143, Tryz.ntmps143
 go_wp2
 refine bodyPost_ret (v := evV 4 0 (zi rs j)) (by simp [results, Tryz.results143, go_sem]) rfl ⟨ret_ev (by simp [evK, evP, evW, HJ.out]), ?_⟩
 go_grown
theorem l2Next_any (b off len cap k : Nat) (g : Nat → I5) (code : Int) (ra oa : Option Addr) (rc on oc : Nat) (rs : List Int) (w : World) (hlen : len ≤ maxLen) (hb : b < w.heap.size) (hI : InsAt w b off len g) (h1 : Sl w ra rs) (h4 : rs.length = 4) (hk : k < len) (h2 : progOkB g len 4 = true) :
  Calls Tryz.prog 143 #[.slice (some ⟨b, off, none⟩) len cap, stV k ra rs.length rc oa on oc code] w fun e w' => e = .returned (evV (evK (g k).o) (evP (g k).o (g k).n) (evW (g k).o (g k).a rs)) ∧ Below w.heap.size w w' := by
 obtain ⟨⟨o1, o11⟩, -, ⟨a0, a3⟩, -⟩ := ins_range (right_ins h2 hk)
 have hl : (len : Int) ≤ 9223372036854775807 := by unfold maxLen at hlen; omega
 have h4' : (rs.length : Int) = 4 := by omega
 rcases opCases (g k).o with ho | ho | ho | ho | ho | ho | ho | ho | ho | ho | ho | ho
 ·omega
 ·exact l2Next_p b off len cap k g k code ra oa rc on oc rs w hl hb hI h1 h4' hk rfl a0 a3 (by omega)
 ·exact l2Next_p b off len cap k g k code ra oa rc on oc rs w hl hb hI h1 h4' hk rfl a0 a3 (by omega)
 ·exact l2Next_p b off len cap k g k code ra oa rc on oc rs w hl hb hI h1 h4' hk rfl a0 a3 (by omega)
 ·exact l2Next_p b off len cap k g k code ra oa rc on oc rs w hl hb hI h1 h4' hk rfl a0 a3 (by omega)
 ·exact l2Next_p b off len cap k g k code ra oa rc on oc rs w hl hb hI h1 h4' hk rfl a0 a3 (by omega)
 ·rw [ho]; exact l2Next_6 b off len cap k g k code ra oa rc on oc rs w hl hb hI h1 h4' hk rfl a0 a3 ho
 ·exact l2Next_p b off len cap k g k code ra oa rc on oc rs w hl hb hI h1 h4' hk rfl a0 a3 (by omega)
 ·rw [ho]; exact l2Next_8 b off len cap k g k code ra oa rc on oc rs w hl hb hI h1 h4' hk rfl a0 a3 ho
 ·exact l2Next_p b off len cap k g k code ra oa rc on oc rs w hl hb hI h1 h4' hk rfl a0 a3 (by omega)
 ·exact l2Next_p b off len cap k g k code ra oa rc on oc rs w hl hb hI h1 h4' hk rfl a0 a3 (by omega)
 ·exact l2Next_p b off len cap k g k code ra oa rc on oc rs w hl hb hI h1 h4' hk rfl a0 a3 (by omega)
theorem new_cell (w : World) (cs : Array Value) (t : TypeId) (j : Nat) {N : Nat} (h : N = w.heap.size) : (w.alloc (.cells cs t)).cell? ⟨N, j, none⟩ = cs[j]? := by
 subst h
 simp
theorem new_frozen (w : World) (cs : Array Value) (t : TypeId) (j : Nat) {N : Nat} (h : N = w.heap.size) : (w.alloc (.cells cs t)).frozen? ⟨N, j, none⟩ = false := by
 subst h
 simp
theorem StOwn.put4 {w : World} {B B' N : Nat} {v : Value} {p code : Int} {rs os : List Int} {a b c d : Value} (h : StOwn w B' v p rs os code) (hN : N < B') (hB : B ≤ B') : StOwn ((((w.setCell ⟨N, 0, none⟩ a).setCell ⟨N, 1, none⟩ b).setCell ⟨N, 2, none⟩ c).setCell ⟨N, 3, none⟩ d) B v p rs os code := by
 obtain ⟨vr, vo, e, o1, o2, ha⟩ := h
 exact ⟨vr, vo, e, ((((o1.setBelow hN _).setBelow hN _).setBelow hN _).setBelow hN _).mono hB, ((((o2.setBelow hN _).setBelow hN _).setBelow hN _).setBelow hN _).mono hB, ha⟩
structure DoBox (w : World) (N : Nat) (p vr vo code : Value) (ek eq ev : Int) : Prop where
 p0 : w.cell? ⟨N, 0, none⟩ = some p
 p1 : w.cell? ⟨N, 1, none⟩ = some vr
 p2 : w.cell? ⟨N, 2, none⟩ = some vo
 p3 : w.cell? ⟨N, 3, none⟩ = some code
 e0 : w.cell? ⟨N + 1, 0, none⟩ = some (.int .i64 ek)
 e1 : w.cell? ⟨N + 1, 1, none⟩ = some (.int .i64 eq)
 e2 : w.cell? ⟨N + 1, 2, none⟩ = some (.int .i64 ev)
 r0 : w.cell? ⟨N + 1 + 1, 0, none⟩ = some (.int .i64 0)
 r1 : w.cell? ⟨N + 1 + 1, 1, none⟩ = some (.slice none 0 0)
 r2 : w.cell? ⟨N + 1 + 1, 2, none⟩ = some (.slice none 0 0)
 r3 : w.cell? ⟨N + 1 + 1, 3, none⟩ = some (.int .i64 0)
 rf : ∀ j, w.frozen? ⟨N + 1 + 1, j, none⟩ = false
theorem DoBox.lt {w : World} {N : Nat} {p vr vo code : Value} {ek eq ev : Int} (h : DoBox w N p vr vo code ek eq ev) : N + 1 + 1 < w.heap.size := World.block_lt_of_cell? w _ h.r0
theorem DoBox.kept {w w' : World} {N : Nat} {p vr vo code : Value} {ek eq ev : Int} (h : DoBox w N p vr vo code ek eq ev) (hb : ∀ k, N ≤ k → k ≤ N + 1 + 1 → w'.heap[k]? = w.heap[k]?) : DoBox w' N p vr vo code ek eq ev :=
 ⟨(World.cell?_of_block (hb N (by omega) (by omega))).trans h.p0, (World.cell?_of_block (hb N (by omega) (by omega))).trans h.p1, (World.cell?_of_block (hb N (by omega) (by omega))).trans h.p2, (World.cell?_of_block (hb N (by omega) (by omega))).trans h.p3,
  (World.cell?_of_block (hb (N + 1) (by omega) (by omega))).trans h.e0, (World.cell?_of_block (hb (N + 1) (by omega) (by omega))).trans h.e1, (World.cell?_of_block (hb (N + 1) (by omega) (by omega))).trans h.e2,
  (World.cell?_of_block (hb (N + 1 + 1) (by omega) (by omega))).trans h.r0, (World.cell?_of_block (hb (N + 1 + 1) (by omega) (by omega))).trans h.r1, (World.cell?_of_block (hb (N + 1 + 1) (by omega) (by omega))).trans h.r2, (World.cell?_of_block (hb (N + 1 + 1) (by omega) (by omega))).trans h.r3,
  fun j => (World.frozen?_of_block (hb (N + 1 + 1) (by omega) (by omega))).trans (h.rf j)⟩
theorem DoBox.below {w w' : World} {N : Nat} {p vr vo code : Value} {ek eq ev : Int} (h : DoBox w N p vr vo code ek eq ev) (hb : Below w.heap.size w w') : DoBox w' N p vr vo code ek eq ev :=
 h.kept fun k _ hk => hb.block k (by have := h.lt; omega)
theorem DoBox.new (w : World) (p vr vo code : Value) (ek eq ev : Int) (t u v : TypeId) : DoBox (((w.alloc (.cells #[p, vr, vo, code] t)).alloc (.cells #[.int .i64 ek, .int .i64 eq, .int .i64 ev] u)).alloc (.cells #[.int .i64 0, .slice none 0 0, .slice none 0 0, .int .i64 0] v)) w.heap.size p vr vo code ek eq ev := by
 refine ⟨?_, ?_, ?_, ?_, ?_, ?_, ?_, ?_, ?_, ?_, ?_, ?_⟩
 ·rw [old_cell _ _ (by simp; omega), old_cell _ _ (by simp)]; exact new_cell w _ _ 0 rfl
 ·rw [old_cell _ _ (by simp; omega), old_cell _ _ (by simp)]; exact new_cell w _ _ 1 rfl
 ·rw [old_cell _ _ (by simp; omega), old_cell _ _ (by simp)]; exact new_cell w _ _ 2 rfl
 ·rw [old_cell _ _ (by simp; omega), old_cell _ _ (by simp)]; exact new_cell w _ _ 3 rfl
 ·rw [old_cell _ _ (by simp)]; exact new_cell _ _ _ 0 (by simp)
 ·rw [old_cell _ _ (by simp)]; exact new_cell _ _ _ 1 (by simp)
 ·rw [old_cell _ _ (by simp)]; exact new_cell _ _ _ 2 (by simp)
 ·exact new_cell _ _ _ 0 (by simp)
 ·exact new_cell _ _ _ 1 (by simp)
 ·exact new_cell _ _ _ 2 (by simp)
 ·exact new_cell _ _ _ 3 (by simp)
 ·exact fun j => new_frozen _ _ _ j (by simp)
def EvC3 (w : World) (N : Nat) (k p v : Int) : Prop := w.cell? ⟨N, 0, none⟩ = some (.int .i64 k) ∧ w.cell? ⟨N, 1, none⟩ = some (.int .i64 p) ∧ w.cell? ⟨N, 2, none⟩ = some (.int .i64 v)
theorem EvC3.below {w w' : World} {N : Nat} {k p v : Int} (h : EvC3 w N k p v) (hb : Below w.heap.size w w') : EvC3 w' N k p v := by
 obtain ⟨h0, h1, h2⟩ := h
 have hN : N < w.heap.size := World.block_lt_of_cell? w _ h0
 exact ⟨(hb.cell (p := ⟨N, 0, none⟩) hN).trans h0, (hb.cell (p := ⟨N, 1, none⟩) hN).trans h1, (hb.cell (p := ⟨N, 2, none⟩) hN).trans h2⟩
theorem EvC3.new (w : World) (k p v : Int) (t : TypeId) : EvC3 (w.alloc (.cells #[.int .i64 k, .int .i64 p, .int .i64 v] t)) w.heap.size k p v := by
 unfold EvC3
 simp
theorem StOwn.recode {w : World} {B : Nat} {p code : Int} {ra oa : Option Addr} {rn rc on oc : Nat} {rs os : List Int} (h : StOwn w B (stV p ra rn rc oa on oc code) p rs os code) (c : Int) : StOwn w B (stV p ra rn rc oa on oc c) p rs os c := by
 obtain ⟨vr, vo, e, o1, o2, ha⟩ := h
 simp only [stV, Value.agg.injEq, Array.mk.injEq, List.cons.injEq, and_true, true_and] at e
 obtain ⟨rfl, rfl⟩ := e
 exact ⟨_, _, rfl, o1, o2, ha⟩
theorem StOwn.replace {w : World} {B : Nat} {p code : Int} {ra oa : Option Addr} {rn rc on oc : Nat} {rs os : List Int} (h : StOwn w B (stV p ra rn rc oa on oc code) p rs os code) (q : Int) : StOwn w B (stV q ra rn rc oa on oc code) q rs os code := by
 obtain ⟨vr, vo, e, o1, o2, ha⟩ := h
 simp only [stV, Value.agg.injEq, Array.mk.injEq, List.cons.injEq, and_true, true_and] at e
 obtain ⟨rfl, rfl⟩ := e
 exact ⟨_, _, rfl, o1, o2, ha⟩
theorem DoBox.marked {w w' : World} {N : Nat} {p vr vo code v : Value} {ek eq ev : Int} (h : DoBox w N p vr vo code ek eq ev) (m : Marked v w w') (hv : ∀ k, hasBlock v k → N + 1 + 1 < k) : DoBox w' N p vr vo code ek eq ev :=
 h.kept fun k _ hk => m.block k (by have := h.lt; omega) (fun hh => by have := hv k hh; omega)
def evEqB (a b c a' b' c' : Int) : Bool := a == a' && (b == b' && c == c')
theorem eql_ev (a b c a' b' c' : Int) (w : World) : (binOp .eql 106 (evV a b c) (evV a' b' c')).run Tryz.prog w = .ok (.bool (evEqB a b c a' b' c')) w := by
 rw [run_eql_struct, show (10000 : Nat) = 9998 + 1 + 1 from rfl, run_equalIn_agg w (9998 + 1) 106 _ _ (by kernel_rfl) (by kernel_rfl)]
 simp only [evEqB]
 by_cases h1 : a = a' <;> by_cases h2 : b = b' <;> by_cases h3 : c = c' <;> simp [go_sem, h1, h2, h3]
theorem neq_ev (a b c a' b' c' : Int) (w : World) : (binOp .neq 106 (evV a b c) (evV a' b' c')).run Tryz.prog w = .ok (.bool (!evEqB a b c a' b' c')) w := by
 rw [run_neq_struct, show (10000 : Nat) = 9998 + 1 + 1 from rfl, run_equalIn_agg w (9998 + 1) 106 _ _ (by kernel_rfl) (by kernel_rfl)]
 simp only [evEqB]
 by_cases h1 : a = a' <;> by_cases h2 : b = b' <;> by_cases h3 : c = c' <;> simp [go_sem, h1, h2, h3]
theorem l2Do_send (b off len cap k : Nat) (g : Nat → I5) (ra oa : Option Addr) (rc oc : Nat) (rs os : List Int) (w : World) (hl : (len : Int) ≤ 30) (hb : b < w.heap.size) (hI : InsAt w b off len g) (h4 : rs.length = 4) (ho : os.length ≤ 60) (h1 : Sl w ra rs) (h2 : Sl w oa os) (hk : k < len) (hp : progOkB g len 4 = true) (np nv : Int) (HN : Hid (evK (g k).o = 2 ∧ evP (g k).o (g k).n = np ∧ evW (g k).o (g k).a rs = nv)) (H6 : Hid ((g k).o = 6)) :
  Calls Tryz.prog 144 #[.slice (some ⟨b, off, none⟩) len cap, stV k ra rs.length rc oa os.length oc 0, evV 2 np nv] w fun e w' => ∃ v, e = .returned (.tuple #[v, .bool true]) ∧ StOwn w' w.heap.size v (doneS len (g k) k rs os 0 nv).p (doneS len (g k) k rs os 0 nv).rs (doneS len (g k) k rs os 0 nv).os (doneS len (g k) k rs os 0 nv).c ∧ Below w.heap.size w w' := by
 have HI : Hid (InsAt w b off len g) := hI
 have H1 : Hid (Sl w ra rs) := h1
 have H2 : Hid (Sl w oa os) := h2
 have H4 : Hid (rs.length = 4) := h4
 have HP : Hid (progOkB g len 4 = true) := hp
 have hk' : (k : Int) < (len : Int) := by omega
 clear hI h1 h2 h4 hp
 go_enter Tryz.func144, Tryz.ntmps144
 go_wp2_with fail
 refine (l2Next_any _ _ _ _ k g _ _ _ _ _ _ rs _ (by unfold maxLen; omega) (by simp; omega) (HI.out.below (by go_grown) hb) (H1.out.below (by go_grown)) H4.out hk HP.out).mono ?_
 rintro e w1 ⟨he1, b1⟩
 rw [HN.out.1, HN.out.2.1, HN.out.2.2] at he1
 subst he1
 have B1 : Hid (Below w.heap.size w (w1.alloc (oQ0 2 np nv))) := (below_up (by go_grown) b1 (by simp; omega)).alloc (by have := b1.size; simp at this; omega) _
 have X1 : Hid (DoBox (w1.alloc (oQ0 2 np nv)) w.heap.size (.int .i64 k) (.slice ra rs.length rc) (.slice oa os.length oc) (.int .i64 0) 2 np nv) := ((DoBox.new w _ _ _ _ _ _ _ _ _ _).below b1).below (below_alloc w1 _)
 clear b1
 obtain ⟨p0, p1, p2, p3, -, -, -, -, -, -, -, -⟩ := X1.out
 go_wp2_with fail
 clear p0 p1 p2 p3
 have V1 : Hid (EvC3 (w1.alloc (oQ0 2 np nv)) w1.heap.size 2 np nv) := EvC3.new w1 _ _ _ _
 generalize w1.alloc (oQ0 2 np nv) = W1 at *
 refine (l2Copy_any _ _ _ _ _ _ rs os _ (by have := H4.out; omega) (by omega) (H1.out.below B1.out) (H2.out.below B1.out)).mono ?_
 rintro e w2 ⟨v2, rfl, o2, b2⟩
 obtain ⟨ra2, rc2, oa2, oc2, rfl, -, -⟩ := o2.read
 have bA := below_alloc w2 (oQ1 k ra2 rs.length rc2 oa2 os.length oc2 0)
 have q2 : Below W1.heap.size W1 (w2.alloc (oQ1 k ra2 rs.length rc2 oa2 os.length oc2 0)) := b2.trans (bA.mono b2.size)
 have X2 : Hid (DoBox (w2.alloc (oQ1 k ra2 rs.length rc2 oa2 os.length oc2 0)) w.heap.size (.int .i64 k) (.slice ra rs.length rc) (.slice oa os.length oc) (.int .i64 0) 2 np nv) := X1.out.below q2
 have V2 : Hid (EvC3 (w2.alloc (oQ1 k ra2 rs.length rc2 oa2 os.length oc2 0)) w1.heap.size 2 np nv) := V1.out.below q2
 have Y2 : Hid (BoxC (w2.alloc (oQ1 k ra2 rs.length rc2 oa2 os.length oc2 0)) w2.heap.size (.int .i64 k) (.slice ra2 rs.length rc2) (.slice oa2 os.length oc2) (.int .i64 0)) := BoxC.new w2 _ _ _ _ _
 have F2 : Hid (∀ j, (w2.alloc (oQ1 k ra2 rs.length rc2 oa2 os.length oc2 0)).frozen? ⟨w2.heap.size, j, none⟩ = false) := fun j => by simp
 have O2 : Hid (StOwn (w2.alloc (oQ1 k ra2 rs.length rc2 oa2 os.length oc2 0)) W1.heap.size (stV k ra2 rs.length rc2 oa2 os.length oc2 0) k rs os 0) := o2.below bA
 have L2 : Hid (∀ j, hasBlock (stV k ra2 rs.length rc2 oa2 os.length oc2 0) j → W1.heap.size ≤ j ∧ j < w2.heap.size) := fun j hj => o2.lt hj
 have B2 : Hid (Below w.heap.size w (w2.alloc (oQ1 k ra2 rs.length rc2 oa2 os.length oc2 0))) := B1.out.trans (q2.mono B1.out.size)
 have zw : w.heap.size + 1 + 1 < W1.heap.size := X1.out.lt
 have zv : w1.heap.size < W1.heap.size := World.block_lt_of_cell? W1 _ V1.out.1
 have z2 : W1.heap.size ≤ w2.heap.size := b2.size
 clear b2 o2 bA q2 X1 V1 B1
 obtain ⟨p0, p1, p2, p3, e0, e1, e2, r0, r1, r2, r3, rf⟩ := X2.out
 obtain ⟨u0, u1, u2⟩ := V2.out
 obtain ⟨t0, t1, t2, t3⟩ := Y2.out
 have tf := F2.out
 go_wp2_with fail
 clear p0 p1 p2 p3 e0 e1 e2 r0 r1 r2 r3 rf u0 u1 u2 t0 t1 t2 t3 tf
 generalize w2.alloc (oQ1 k ra2 rs.length rc2 oa2 os.length oc2 0) = W2 at *
 refine (l2Go_any _ _ _ _ _ _ _ _ _ _ _ _ (by omega) (by omega)).mono ?_
 rintro e w3 ⟨rfl, b3⟩
 have X3 : Hid (DoBox w3 w.heap.size (.int .i64 k) (.slice ra rs.length rc) (.slice oa os.length oc) (.int .i64 0) 2 np nv) := X2.out.below b3
 have O3 : Hid (StOwn w3 W1.heap.size (stV k ra2 rs.length rc2 oa2 os.length oc2 0) k rs os 0) := O2.out.below b3
 have B3 : Hid (Below w.heap.size w w3) := B2.out.trans (b3.mono B2.out.size)
 clear b3 X2 V2 Y2 F2 O2 B2
 obtain ⟨-, -, -, -, -, -, -, r0, r1, r2, r3, rf⟩ := X3.out
 go_wp2
 refine bodyPost_ret (v := .tuple #[stV (goP len k) ra2 rs.length rc2 oa2 os.length oc2 (goC len k 0), .bool true]) (by simp [results, Tryz.results144, go_sem, r0, r1, r2, r3]) rfl ⟨_, rfl, ?_, ?_⟩
 ·have hd : doneS len (g k) k rs os 0 nv = goS len k rs os 0 := by
   unfold doneS
   rw [H6.out, if_pos rfl]
  rw [hd]
  exact StOwn.put4 (B' := W1.heap.size) ((O3.out.replace _).recode _) zw (by omega)
 ·have := B3.out
  go_grown
theorem l2Do_no (b off len cap k : Nat) (g : Nat → I5) (ra oa : Option Addr) (rc oc : Nat) (rs os : List Int) (ek eq ev : Int) (w : World) (hl : (len : Int) ≤ 30) (hb : b < w.heap.size) (hI : InsAt w b off len g) (h4 : rs.length = 4) (ho : os.length ≤ 60) (h1 : Sl w ra rs) (h2 : Sl w oa os) (hk : k < len) (hp : progOkB g len 4 = true) (K np nv : Int) (hK : (K == 3) = false) (HN : Hid (evK (g k).o = K ∧ evP (g k).o (g k).n = np ∧ evW (g k).o (g k).a rs = nv)) (hE : evEqB ek eq ev K np nv = false) :
  Calls Tryz.prog 144 #[.slice (some ⟨b, off, none⟩) len cap, stV k ra rs.length rc oa os.length oc 0, evV ek eq ev] w fun e w' => ∃ v, e = .returned (.tuple #[v, .bool false]) ∧ StOwn w' w.heap.size v k rs os 0 ∧ Below w.heap.size w w' := by
 have HI : Hid (InsAt w b off len g) := hI
 have H1 : Hid (Sl w ra rs) := h1
 have H2 : Hid (Sl w oa os) := h2
 have H4 : Hid (rs.length = 4) := h4
 have HP : Hid (progOkB g len 4 = true) := hp
 have hk' : (k : Int) < (len : Int) := by omega
 clear hI h1 h2 h4 hp
 go_enter Tryz.func144, Tryz.ntmps144
 go_wp2_with fail
 refine (l2Next_any _ _ _ _ k g _ _ _ _ _ _ rs _ (by unfold maxLen; omega) (by simp; omega) (HI.out.below (by go_grown) hb) (H1.out.below (by go_grown)) H4.out hk HP.out).mono ?_
 rintro e w1 ⟨he1, b1⟩
 rw [HN.out.1, HN.out.2.1, HN.out.2.2] at he1
 subst he1
 have B1 : Hid (Below w.heap.size w (w1.alloc (oQ0 K np nv))) := (below_up (by go_grown) b1 (by simp; omega)).alloc (by have := b1.size; simp at this; omega) _
 have X1 : Hid (DoBox (w1.alloc (oQ0 K np nv)) w.heap.size (.int .i64 k) (.slice ra rs.length rc) (.slice oa os.length oc) (.int .i64 0) ek eq ev) := ((DoBox.new w _ _ _ _ _ _ _ _ _ _).below b1).below (below_alloc w1 _)
 clear b1
 obtain ⟨p0, p1, p2, p3, -, -, -, -, -, -, -, -⟩ := X1.out
 go_wp2_with fail
 clear p0 p1 p2 p3
 have V1 : Hid (EvC3 (w1.alloc (oQ0 K np nv)) w1.heap.size K np nv) := EvC3.new w1 _ _ _ _
 generalize w1.alloc (oQ0 K np nv) = W1 at *
 refine (l2Copy_any _ _ _ _ _ _ rs os _ (by have := H4.out; omega) (by omega) (H1.out.below B1.out) (H2.out.below B1.out)).mono ?_
 rintro e w2 ⟨v2, rfl, o2, b2⟩
 obtain ⟨ra2, rc2, oa2, oc2, rfl, -, -⟩ := o2.read
 have bA := below_alloc w2 (oQ1 k ra2 rs.length rc2 oa2 os.length oc2 0)
 have q2 : Below W1.heap.size W1 (w2.alloc (oQ1 k ra2 rs.length rc2 oa2 os.length oc2 0)) := b2.trans (bA.mono b2.size)
 have X2 : Hid (DoBox (w2.alloc (oQ1 k ra2 rs.length rc2 oa2 os.length oc2 0)) w.heap.size (.int .i64 k) (.slice ra rs.length rc) (.slice oa os.length oc) (.int .i64 0) ek eq ev) := X1.out.below q2
 have V2 : Hid (EvC3 (w2.alloc (oQ1 k ra2 rs.length rc2 oa2 os.length oc2 0)) w1.heap.size K np nv) := V1.out.below q2
 have Y2 : Hid (BoxC (w2.alloc (oQ1 k ra2 rs.length rc2 oa2 os.length oc2 0)) w2.heap.size (.int .i64 k) (.slice ra2 rs.length rc2) (.slice oa2 os.length oc2) (.int .i64 0)) := BoxC.new w2 _ _ _ _ _
 have F2 : Hid (∀ j, (w2.alloc (oQ1 k ra2 rs.length rc2 oa2 os.length oc2 0)).frozen? ⟨w2.heap.size, j, none⟩ = false) := fun j => by simp
 have O2 : Hid (StOwn (w2.alloc (oQ1 k ra2 rs.length rc2 oa2 os.length oc2 0)) W1.heap.size (stV k ra2 rs.length rc2 oa2 os.length oc2 0) k rs os 0) := o2.below bA
 have L2 : Hid (∀ j, hasBlock (stV k ra2 rs.length rc2 oa2 os.length oc2 0) j → W1.heap.size ≤ j ∧ j < w2.heap.size) := fun j hj => o2.lt hj
 have B2 : Hid (Below w.heap.size w (w2.alloc (oQ1 k ra2 rs.length rc2 oa2 os.length oc2 0))) := B1.out.trans (q2.mono B1.out.size)
 have zw : w.heap.size + 1 + 1 < W1.heap.size := X1.out.lt
 have zv : w1.heap.size < W1.heap.size := World.block_lt_of_cell? W1 _ V1.out.1
 have z2 : W1.heap.size ≤ w2.heap.size := b2.size
 clear b2 o2 bA q2 X1 V1 B1
 obtain ⟨p0, p1, p2, p3, e0, e1, e2, r0, r1, r2, r3, rf⟩ := X2.out
 obtain ⟨u0, u1, u2⟩ := V2.out
 obtain ⟨t0, t1, t2, t3⟩ := Y2.out
 have tf := F2.out
 have hne : ∀ wx, (binOp .neq 106 (evV ek eq ev) (evV K np nv)).run Tryz.prog wx = .ok (.bool true) wx := fun wx => by rw [neq_ev, hE]; rfl
 clear hE
 go_wp2
 refine bodyPost_ret (v := .tuple #[stV k ra2 rs.length rc2 oa2 os.length oc2 0, .bool false]) (by simp [results, Tryz.results144, go_sem, r0, r1, r2, r3]) rfl ⟨_, rfl, ?_, ?_⟩
 ·exact StOwn.put4 (B' := W1.heap.size) O2.out zw (by omega)
 ·have := B2.out
  go_grown
theorem l2Do_full (b off len cap k : Nat) (g : Nat → I5) (ra oa : Option Addr) (rc oc : Nat) (rs os : List Int) (w : World) (hl : (len : Int) ≤ 30) (hb : b < w.heap.size) (hI : InsAt w b off len g) (h4 : rs.length = 4) (ho : os.length ≤ 60) (h1 : Sl w ra rs) (h2 : Sl w oa os) (hk : k < len) (hp : progOkB g len 4 = true) (np nv : Int) (HN : Hid (evK (g k).o = 4 ∧ evP (g k).o (g k).n = np ∧ evW (g k).o (g k).a rs = nv)) (H8 : Hid ((g k).o = 8 ∧ os.length = 60)) (h60 : ((os.length : Int) == 60) = true) :
  Calls Tryz.prog 144 #[.slice (some ⟨b, off, none⟩) len cap, stV k ra rs.length rc oa os.length oc 0, evV 4 np nv] w fun e w' => ∃ v, e = .returned (.tuple #[v, .bool true]) ∧ StOwn w' w.heap.size v (doneS len (g k) k rs os 0 nv).p (doneS len (g k) k rs os 0 nv).rs (doneS len (g k) k rs os 0 nv).os (doneS len (g k) k rs os 0 nv).c ∧ Below w.heap.size w w' := by
 have HI : Hid (InsAt w b off len g) := hI
 have H1 : Hid (Sl w ra rs) := h1
 have H2 : Hid (Sl w oa os) := h2
 have H4 : Hid (rs.length = 4) := h4
 have HP : Hid (progOkB g len 4 = true) := hp
 have hk' : (k : Int) < (len : Int) := by omega
 clear hI h1 h2 h4 hp
 go_enter Tryz.func144, Tryz.ntmps144
 go_wp2_with fail
 refine (l2Next_any _ _ _ _ k g _ _ _ _ _ _ rs _ (by unfold maxLen; omega) (by simp; omega) (HI.out.below (by go_grown) hb) (H1.out.below (by go_grown)) H4.out hk HP.out).mono ?_
 rintro e w1 ⟨he1, b1⟩
 rw [HN.out.1, HN.out.2.1, HN.out.2.2] at he1
 subst he1
 have B1 : Hid (Below w.heap.size w (w1.alloc (oQ0 4 np nv))) := (below_up (by go_grown) b1 (by simp; omega)).alloc (by have := b1.size; simp at this; omega) _
 have X1 : Hid (DoBox (w1.alloc (oQ0 4 np nv)) w.heap.size (.int .i64 k) (.slice ra rs.length rc) (.slice oa os.length oc) (.int .i64 0) 4 np nv) := ((DoBox.new w _ _ _ _ _ _ _ _ _ _).below b1).below (below_alloc w1 _)
 clear b1
 obtain ⟨p0, p1, p2, p3, -, -, -, -, -, -, -, -⟩ := X1.out
 go_wp2_with fail
 clear p0 p1 p2 p3
 have V1 : Hid (EvC3 (w1.alloc (oQ0 4 np nv)) w1.heap.size 4 np nv) := EvC3.new w1 _ _ _ _
 generalize w1.alloc (oQ0 4 np nv) = W1 at *
 refine (l2Copy_any _ _ _ _ _ _ rs os _ (by have := H4.out; omega) (by omega) (H1.out.below B1.out) (H2.out.below B1.out)).mono ?_
 rintro e w2 ⟨v2, rfl, o2, b2⟩
 obtain ⟨ra2, rc2, oa2, oc2, rfl, -, -⟩ := o2.read
 have bA := below_alloc w2 (oQ1 k ra2 rs.length rc2 oa2 os.length oc2 0)
 have q2 : Below W1.heap.size W1 (w2.alloc (oQ1 k ra2 rs.length rc2 oa2 os.length oc2 0)) := b2.trans (bA.mono b2.size)
 have X2 : Hid (DoBox (w2.alloc (oQ1 k ra2 rs.length rc2 oa2 os.length oc2 0)) w.heap.size (.int .i64 k) (.slice ra rs.length rc) (.slice oa os.length oc) (.int .i64 0) 4 np nv) := X1.out.below q2
 have V2 : Hid (EvC3 (w2.alloc (oQ1 k ra2 rs.length rc2 oa2 os.length oc2 0)) w1.heap.size 4 np nv) := V1.out.below q2
 have Y2 : Hid (BoxC (w2.alloc (oQ1 k ra2 rs.length rc2 oa2 os.length oc2 0)) w2.heap.size (.int .i64 k) (.slice ra2 rs.length rc2) (.slice oa2 os.length oc2) (.int .i64 0)) := BoxC.new w2 _ _ _ _ _
 have F2 : Hid (∀ j, (w2.alloc (oQ1 k ra2 rs.length rc2 oa2 os.length oc2 0)).frozen? ⟨w2.heap.size, j, none⟩ = false) := fun j => by simp
 have O2 : Hid (StOwn (w2.alloc (oQ1 k ra2 rs.length rc2 oa2 os.length oc2 0)) W1.heap.size (stV k ra2 rs.length rc2 oa2 os.length oc2 0) k rs os 0) := o2.below bA
 have L2 : Hid (∀ j, hasBlock (stV k ra2 rs.length rc2 oa2 os.length oc2 0) j → W1.heap.size ≤ j ∧ j < w2.heap.size) := fun j hj => o2.lt hj
 have B2 : Hid (Below w.heap.size w (w2.alloc (oQ1 k ra2 rs.length rc2 oa2 os.length oc2 0))) := B1.out.trans (q2.mono B1.out.size)
 have zw : w.heap.size + 1 + 1 < W1.heap.size := X1.out.lt
 have zv : w1.heap.size < W1.heap.size := World.block_lt_of_cell? W1 _ V1.out.1
 have z2 : W1.heap.size ≤ w2.heap.size := b2.size
 clear b2 o2 bA q2 X1 V1 B1
 obtain ⟨p0, p1, p2, p3, e0, e1, e2, r0, r1, r2, r3, rf⟩ := X2.out
 obtain ⟨u0, u1, u2⟩ := V2.out
 obtain ⟨t0, t1, t2, t3⟩ := Y2.out
 have tf := F2.out
 go_wp2_with fail
 clear p0 p1 p2 p3 e0 e1 e2 r0 r1 r2 r3 rf u0 u1 u2 t0 t1 t2 t3 tf
 generalize w2.alloc (oQ1 k ra2 rs.length rc2 oa2 os.length oc2 0) = W2 at *
 refine (l2Fault_any _ _ _ _ _ _ _ _ _).mono ?_
 rintro e w3 ⟨rfl, b3⟩
 have X3 : Hid (DoBox w3 w.heap.size (.int .i64 k) (.slice ra rs.length rc) (.slice oa os.length oc) (.int .i64 0) 4 np nv) := X2.out.below b3
 have O3 : Hid (StOwn w3 W1.heap.size (stV k ra2 rs.length rc2 oa2 os.length oc2 0) k rs os 0) := O2.out.below b3
 have B3 : Hid (Below w.heap.size w w3) := B2.out.trans (b3.mono B2.out.size)
 clear b3 X2 V2 Y2 F2 O2 B2
 obtain ⟨-, -, -, -, -, -, -, r0, r1, r2, r3, rf⟩ := X3.out
 go_wp2
 refine bodyPost_ret (v := .tuple #[stV k ra2 rs.length rc2 oa2 os.length oc2 2, .bool true]) (by simp [results, Tryz.results144, go_sem, r0, r1, r2, r3]) rfl ⟨_, rfl, ?_, ?_⟩
 ·have hd : doneS len (g k) k rs os 0 nv = ⟨k, rs, os, 2⟩ := by
   unfold doneS
   rw [H8.out.1, if_neg (by decide), if_neg (by decide), if_pos rfl, if_pos H8.out.2]
  rw [hd]
  exact StOwn.put4 (B' := W1.heap.size) (O3.out.recode 2) zw (by omega)
 ·have := B3.out
  go_grown
theorem l2Do_take_no (b off len cap k : Nat) (g : Nat → I5) (ra oa : Option Addr) (rc oc : Nat) (rs os : List Int) (ek eq ev : Int) (w : World) (hl : (len : Int) ≤ 30) (hb : b < w.heap.size) (hI : InsAt w b off len g) (h4 : rs.length = 4) (ho : os.length ≤ 60) (h1 : Sl w ra rs) (h2 : Sl w oa os) (hk : k < len) (hp : progOkB g len 4 = true) (np nv : Int) (HN : Hid (evK (g k).o = 3 ∧ evP (g k).o (g k).n = np ∧ evW (g k).o (g k).a rs = nv)) (HQ : Hid ((ek != 3) = true ∨ ((ek != 3) = false ∧ inB ev (-1000000000) 1000000000 = false) ∨ ((ek != 3) = false ∧ inB ev (-1000000000) 1000000000 = true ∧ (np != 9) = true ∧ (eq != np) = true) ∨ ((ek != 3) = false ∧ inB ev (-1000000000) 1000000000 = true ∧ (np != 9) = false ∧ inB eq 0 3 = false))) :
  Calls Tryz.prog 144 #[.slice (some ⟨b, off, none⟩) len cap, stV k ra rs.length rc oa os.length oc 0, evV ek eq ev] w fun e w' => ∃ v, e = .returned (.tuple #[v, .bool false]) ∧ StOwn w' w.heap.size v k rs os 0 ∧ Below w.heap.size w w' := by
 have HI : Hid (InsAt w b off len g) := hI
 have H1 : Hid (Sl w ra rs) := h1
 have H2 : Hid (Sl w oa os) := h2
 have H4 : Hid (rs.length = 4) := h4
 have HP : Hid (progOkB g len 4 = true) := hp
 have hk' : (k : Int) < (len : Int) := by omega
 clear hI h1 h2 h4 hp
 go_enter Tryz.func144, Tryz.ntmps144
 go_wp2_with fail
 refine (l2Next_any _ _ _ _ k g _ _ _ _ _ _ rs _ (by unfold maxLen; omega) (by simp; omega) (HI.out.below (by go_grown) hb) (H1.out.below (by go_grown)) H4.out hk HP.out).mono ?_
 rintro e w1 ⟨he1, b1⟩
 rw [HN.out.1, HN.out.2.1, HN.out.2.2] at he1
 subst he1
 have B1 : Hid (Below w.heap.size w (w1.alloc (oQ0 3 np nv))) := (below_up (by go_grown) b1 (by simp; omega)).alloc (by have := b1.size; simp at this; omega) _
 have X1 : Hid (DoBox (w1.alloc (oQ0 3 np nv)) w.heap.size (.int .i64 k) (.slice ra rs.length rc) (.slice oa os.length oc) (.int .i64 0) ek eq ev) := ((DoBox.new w _ _ _ _ _ _ _ _ _ _).below b1).below (below_alloc w1 _)
 clear b1
 obtain ⟨p0, p1, p2, p3, -, -, -, -, -, -, -, -⟩ := X1.out
 go_wp2_with fail
 clear p0 p1 p2 p3
 have V1 : Hid (EvC3 (w1.alloc (oQ0 3 np nv)) w1.heap.size 3 np nv) := EvC3.new w1 _ _ _ _
 generalize w1.alloc (oQ0 3 np nv) = W1 at *
 refine (l2Copy_any _ _ _ _ _ _ rs os _ (by have := H4.out; omega) (by omega) (H1.out.below B1.out) (H2.out.below B1.out)).mono ?_
 rintro e w2 ⟨v2, rfl, o2, b2⟩
 obtain ⟨ra2, rc2, oa2, oc2, rfl, -, -⟩ := o2.read
 have bA := below_alloc w2 (oQ1 k ra2 rs.length rc2 oa2 os.length oc2 0)
 have q2 : Below W1.heap.size W1 (w2.alloc (oQ1 k ra2 rs.length rc2 oa2 os.length oc2 0)) := b2.trans (bA.mono b2.size)
 have X2 : Hid (DoBox (w2.alloc (oQ1 k ra2 rs.length rc2 oa2 os.length oc2 0)) w.heap.size (.int .i64 k) (.slice ra rs.length rc) (.slice oa os.length oc) (.int .i64 0) ek eq ev) := X1.out.below q2
 have V2 : Hid (EvC3 (w2.alloc (oQ1 k ra2 rs.length rc2 oa2 os.length oc2 0)) w1.heap.size 3 np nv) := V1.out.below q2
 have Y2 : Hid (BoxC (w2.alloc (oQ1 k ra2 rs.length rc2 oa2 os.length oc2 0)) w2.heap.size (.int .i64 k) (.slice ra2 rs.length rc2) (.slice oa2 os.length oc2) (.int .i64 0)) := BoxC.new w2 _ _ _ _ _
 have F2 : Hid (∀ j, (w2.alloc (oQ1 k ra2 rs.length rc2 oa2 os.length oc2 0)).frozen? ⟨w2.heap.size, j, none⟩ = false) := fun j => by simp
 have O2 : Hid (StOwn (w2.alloc (oQ1 k ra2 rs.length rc2 oa2 os.length oc2 0)) W1.heap.size (stV k ra2 rs.length rc2 oa2 os.length oc2 0) k rs os 0) := o2.below bA
 have L2 : Hid (∀ j, hasBlock (stV k ra2 rs.length rc2 oa2 os.length oc2 0) j → W1.heap.size ≤ j ∧ j < w2.heap.size) := fun j hj => o2.lt hj
 have B2 : Hid (Below w.heap.size w (w2.alloc (oQ1 k ra2 rs.length rc2 oa2 os.length oc2 0))) := B1.out.trans (q2.mono B1.out.size)
 have zw : w.heap.size + 1 + 1 < W1.heap.size := X1.out.lt
 have zv : w1.heap.size < W1.heap.size := World.block_lt_of_cell? W1 _ V1.out.1
 have z2 : W1.heap.size ≤ w2.heap.size := b2.size
 clear b2 o2 bA q2 X1 V1 B1
 obtain ⟨p0, p1, p2, p3, e0, e1, e2, r0, r1, r2, r3, rf⟩ := X2.out
 obtain ⟨u0, u1, u2⟩ := V2.out
 obtain ⟨t0, t1, t2, t3⟩ := Y2.out
 have tf := F2.out
 rcases HQ.out with q1 | ⟨q1, q2⟩ | ⟨q1, q2, q3, q4⟩ | ⟨q1, q2, q3, q5⟩
 all_goals
  go_wp2_with (first | (go_at_call 154; refine (l1Num_any _ _).mono ?_; rintro e w' ⟨rfl, rfl⟩) | (go_at_call 51; refine (l1In_any _ _ _ _).mono ?_; rintro e w' ⟨rfl, rfl⟩))
  refine bodyPost_ret (v := .tuple #[stV k ra2 rs.length rc2 oa2 os.length oc2 0, .bool false]) (by simp [results, Tryz.results144, go_sem, r0, r1, r2, r3]) rfl ⟨_, rfl, ?_, ?_⟩
  ·exact StOwn.put4 (B' := W1.heap.size) O2.out zw (by omega)
  ·have := B2.out
   go_grown
end Go.Proofs.YtfdanemmefckpaaGreatDoor
