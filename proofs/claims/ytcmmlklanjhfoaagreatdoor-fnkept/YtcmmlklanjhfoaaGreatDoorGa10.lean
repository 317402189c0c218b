/- The walks of the model's l2Next, l2Right and Next. -/
import Derived.Test.YtcmmlklanjhfoaaGreatDoorGa9
import Derived.Deep.OwnRows
import Derived.Deep.RegionWith
import Derived.Test.YtcmmlklanjhfoaaGreatDoorGa8
namespace Go.Proofs.YtcmmlklanjhfoaaGreatDoor
open Go.RowKit Go.Deep

theorem infoIns : (Tryz.prog.info? 97).map (fun i => (i.zero, i.size, i.bytes)) = some (some (insV 0 0 0 0 0), 5, 40) := by kernel_rfl

theorem run_make_ins (n : Nat) (hn : n ≤ 1048576) (w : World) :
    (Instr.makeSlice 24 (.int .i64 (n : Int)) (.int .i64 (n : Int))).run Tryz.prog w = .ok (.slice (some ⟨w.heap.size, 0, none⟩) n n) (w.alloc (.cells (madeCells (insV 0 0 0 0 0).cells (n * 5)) 97)) := by
  have hinfo := infoIns
  cases hi : Tryz.prog.info? 97 with
  | none => rw [hi] at hinfo; cases hinfo
  | some i =>
    rw [hi] at hinfo
    simp only [Option.map_some, Option.some.injEq, Prod.mk.injEq] at hinfo
    obtain ⟨hz, hs, hb⟩ := hinfo
    have h := run_make (P := Tryz.prog) w 24 97 i _ Tryz.underlying24 hi hz .i64 .i64 (n : Int) (n : Int) (by omega) (Int.le_refl _) (by rw [hb]; omega) (by omega)
    rw [hs] at h
    simpa using h

theorem madeIns_row (w : World) (n : Nat) : (w.alloc (.cells (madeCells (insV 0 0 0 0 0).cells (n * 5)) 97)).rowIs w.heap.size 97 (n * 5) (fun _ => .int .i64 0) := by
  refine ⟨_, blk_alloc_new _ _, size_madeCells _ _, fun i hi => ?_⟩
  have h5 : i % 5 < 5 := Nat.mod_lt _ (by omega)
  have : ∀ j, j < 5 → (#[Value.int .i64 0, .int .i64 0, .int .i64 0, .int .i64 0, .int .i64 0] : Array Value)[j]! = .int .i64 0 := by
    intro j hj
    match j, hj with
    | 0, _ => rfl
    | 1, _ => rfl
    | 2, _ => rfl
    | 3, _ => rfl
    | 4, _ => rfl
  simp only [madeCells, Value.cells]
  rw [Array.getElem?_map, Array.getElem?_range, if_pos hi]
  exact congrArg some (this (i % 5) h5)

/-- The first k places of a row that is being filled. -/
def Filled (f : Nat → Value) (g : Nat → I5) (k : Nat) : Prop := ∀ i, i < k →
  f (i * 5) = .int .i64 (g i).o ∧ f (i * 5 + 1) = .int .i64 (g i).r ∧ f (i * 5 + 2) = .int .i64 (g i).a ∧ f (i * 5 + 3) = .int .i64 (g i).b ∧ f (i * 5 + 4) = .int .i64 (g i).n

theorem Filled.at {w : World} {b : Nat} {t : TypeId} {len k : Nat} {f : Nat → Value} {g : Nat → I5} (h : Filled f g k) (hr : w.rowIs b t (len * 5) f) (hk : k ≤ len) : InsAt w b 0 k g := by
  intro i hi
  obtain ⟨h0, h1, h2, h3, h4⟩ := h i hi
  refine ⟨?_, ?_, ?_, ?_, ?_⟩
  · rw [hr.cell (by omega), Nat.zero_add, h0]
  · rw [hr.cell (by omega), Nat.zero_add, h1]
  · rw [hr.cell (by omega), Nat.zero_add, h2]
  · rw [hr.cell (by omega), Nat.zero_add, h3]
  · rw [hr.cell (by omega), Nat.zero_add, h4]

theorem Filled.step {w : World} {b : Nat} {t : TypeId} {len k : Nat} {f : Nat → Value} {g : Nat → I5} (hr : w.rowIs b t (len * 5) f) (h : Filled f g k) :
    ∃ f', (((((w.setCell ⟨b, k * 5, none⟩ (.int .i64 (g k).o)).setCell ⟨b, k * 5 + 1, none⟩ (.int .i64 (g k).r)).setCell ⟨b, k * 5 + 2, none⟩ (.int .i64 (g k).a)).setCell ⟨b, k * 5 + 3, none⟩ (.int .i64 (g k).b)).setCell ⟨b, k * 5 + 4, none⟩ (.int .i64 (g k).n)).rowIs b t (len * 5) f' ∧ Filled f' g (k + 1) := by
  refine ⟨_, ((((hr.set _ _).set _ _).set _ _).set _ _).set _ _, fun i hi => ?_⟩
  by_cases hik : i = k
  · subst hik
    simp
  · have hlt : i < k := by omega
    obtain ⟨h0, h1, h2, h3, h4⟩ := h i hlt
    refine ⟨?_, ?_, ?_, ?_, ?_⟩
    · rw [if_neg (by omega), if_neg (by omega), if_neg (by omega), if_neg (by omega), if_neg (by omega)]; exact h0
    · rw [if_neg (by omega), if_neg (by omega), if_neg (by omega), if_neg (by omega), if_neg (by omega)]; exact h1
    · rw [if_neg (by omega), if_neg (by omega), if_neg (by omega), if_neg (by omega), if_neg (by omega)]; exact h2
    · rw [if_neg (by omega), if_neg (by omega), if_neg (by omega), if_neg (by omega), if_neg (by omega)]; exact h3
    · rw [if_neg (by omega), if_neg (by omega), if_neg (by omega), if_neg (by omega), if_neg (by omega)]; exact h4

end Go.Proofs.YtcmmlklanjhfoaaGreatDoor

namespace Go.Proofs.YtcmmlklanjhfoaaGreatDoor
open Go.RowKit

set_option maxRecDepth 100000 in
set_option maxHeartbeats 1000000 in
theorem l2Right_any (b off len cap : Nat) (g : Nat → I5) (p code : Int) (ra oa : Option Addr) (rc oc : Nat) (rs os : List Int) (w : World) (hlen : len ≤ maxLen) (hb : b < w.heap.size) (hI : InsAt w b off len g) (hr : rs.length ≤ 1048576) (ho : os.length ≤ 1048576) (h1 : Sl w ra rs) (h2 : Sl w oa os) :
    Calls Tryz.prog 100 #[.slice (some ⟨b, off, none⟩) len cap, stV p ra rs.length rc oa os.length oc code] w fun e w' => e = .returned (.bool (rightB g len p rs os code)) ∧ Below w.heap.size w w' := by
  have HI : Hid (InsAt w b off len g) := hI
  have H1 : Hid (Sl w ra rs) := h1
  have H2 : Hid (Sl w oa os) := h2
  have HL : Hid (len ≤ maxLen) := hlen
  clear hI h1 h2 hlen
  rcases Bool.eq_false_or_eq_true (progOkB g len 4) with t1 | t1
  case inr =>
    have HV : Hid (rightB g len p rs os code = false) := by simp [Hid, rightB, t1]
    go_enter Tryz.func100, Tryz.ntmps100
    go_wp2_with fail
    refine (specProgOk_any _ _ _ _ g _ _ HL.out (by simp; omega) (HI.out.below ((Below.refl _ _).alloc (Nat.le_refl _) _) hb)).mono ?_
    rintro e w1 ⟨rfl, b1⟩
    have B1 : Hid (Below w.heap.size w w1) := below_up (by go_grown) b1 (by simp)
    clear b1
    go_wp2
    go_ret
    exact ⟨by rw [HV.out]; rfl, B1.out⟩
  rcases Bool.eq_false_or_eq_true (stOkB len p rs os code) with t2 | t2
  case inr =>
    have HV : Hid (rightB g len p rs os code = false) := by simp [Hid, rightB, t2]
    go_enter Tryz.func100, Tryz.ntmps100
    go_wp2_with fail
    refine (specProgOk_any _ _ _ _ g _ _ HL.out (by simp; omega) (HI.out.below ((Below.refl _ _).alloc (Nat.le_refl _) _) hb)).mono ?_
    rintro e w1 ⟨rfl, b1⟩
    have B1 : Hid (Below w.heap.size w w1) := below_up (by go_grown) b1 (by simp)
    obtain ⟨hc1, hf1⟩ := bcell b1
    clear b1
    go_wp2_with fail
    refine (specStateOk_any _ _ _ _ _ _ _ _ _ rs os _ HL.out hr ho (H1.out.below B1.out) (H2.out.below B1.out)).mono ?_
    rintro e w2 ⟨rfl, b2⟩
    have B2 : Hid (Below w.heap.size w w2) := B1.out.trans (b2.mono B1.out.size)
    clear b2
    go_wp2
    go_ret
    exact ⟨by rw [HV.out]; rfl, B2.out⟩
  have HV : Hid (rightB g len p rs os code = (code == 0)) := by simp [Hid, rightB, t1, t2]
  go_enter Tryz.func100, Tryz.ntmps100
  go_wp2_with fail
  refine (specProgOk_any _ _ _ _ g _ _ HL.out (by simp; omega) (HI.out.below ((Below.refl _ _).alloc (Nat.le_refl _) _) hb)).mono ?_
  rintro e w1 ⟨rfl, b1⟩
  have B1 : Hid (Below w.heap.size w w1) := below_up (by go_grown) b1 (by simp)
  have y0 : w.heap.size < w1.heap.size := by have := b1.size; simp at this; omega
  obtain ⟨hc1, hf1⟩ := bcell b1
  clear b1
  go_wp2_with fail
  refine (specStateOk_any _ _ _ _ _ _ _ _ _ rs os _ HL.out hr ho (H1.out.below B1.out) (H2.out.below B1.out)).mono ?_
  rintro e w2 ⟨rfl, b2⟩
  have B2 : Hid (Below w.heap.size w w2) := B1.out.trans (b2.mono B1.out.size)
  obtain ⟨hc2, hf2⟩ := bcell b2
  clear b2
  go_wp2
  go_ret
  exact ⟨by rw [HV.out]; rfl, B2.out⟩

set_option maxRecDepth 100000 in
set_option maxHeartbeats 1000000 in
theorem l2Next_1 (b off len cap k : Nat) (g : Nat → I5) (p : Int) (code : Int) (ra oa : Option Addr) (rc on oc : Nat) (rs : List Int) (w : World) (_hl : (len : Int) ≤ 9223372036854775807) (hb : b < w.heap.size) (hI : InsAt w b off len g) (_h1 : Sl w ra rs) (_h4 : (rs.length : Int) = 4) (hk : k < len) (hp : p = k) (_a0 : 0 ≤ (g k).a) (_a3 : (g k).a ≤ 3) (ho : (g k).o = 1) :
    Calls Tryz.prog 58 #[.slice (some ⟨b, off, none⟩) len cap, stV p ra rs.length rc oa on oc code] w fun e w' => e = .returned (evV (evK 1) (evP 1 (g k).n) (evW 1 (g k).a rs)) ∧ Below w.heap.size w w' := by
  subst hp
  have hk' : (k : Int) < (len : Int) := by omega
  obtain ⟨c0, c1, c2, c3, c4⟩ := hI k hk
  rw [ho] at c0
  clear hI _h1 _a0 _a3 ho _h4
  go_enter Tryz.func58, Tryz.ntmps58
  go_wp2
  refine bodyPost_ret (v := evV 1 0 0) (by simp [results, Tryz.results58, go_sem]) rfl ⟨rfl, ?_⟩
  go_grown

set_option maxRecDepth 100000 in
set_option maxHeartbeats 1000000 in
theorem l2Next_2 (b off len cap k : Nat) (g : Nat → I5) (p : Int) (code : Int) (ra oa : Option Addr) (rc on oc : Nat) (rs : List Int) (w : World) (_hl : (len : Int) ≤ 9223372036854775807) (hb : b < w.heap.size) (hI : InsAt w b off len g) (_h1 : Sl w ra rs) (_h4 : (rs.length : Int) = 4) (hk : k < len) (hp : p = k) (_a0 : 0 ≤ (g k).a) (_a3 : (g k).a ≤ 3) (ho : (g k).o = 2) :
    Calls Tryz.prog 58 #[.slice (some ⟨b, off, none⟩) len cap, stV p ra rs.length rc oa on oc code] w fun e w' => e = .returned (evV (evK 2) (evP 2 (g k).n) (evW 2 (g k).a rs)) ∧ Below w.heap.size w w' := by
  subst hp
  have hk' : (k : Int) < (len : Int) := by omega
  obtain ⟨c0, c1, c2, c3, c4⟩ := hI k hk
  rw [ho] at c0
  clear hI _h1 _a0 _a3 ho _h4
  go_enter Tryz.func58, Tryz.ntmps58
  go_wp2
  refine bodyPost_ret (v := evV 1 0 0) (by simp [results, Tryz.results58, go_sem]) rfl ⟨rfl, ?_⟩
  go_grown

set_option maxRecDepth 100000 in
set_option maxHeartbeats 1000000 in
theorem l2Next_3 (b off len cap k : Nat) (g : Nat → I5) (p : Int) (code : Int) (ra oa : Option Addr) (rc on oc : Nat) (rs : List Int) (w : World) (_hl : (len : Int) ≤ 9223372036854775807) (hb : b < w.heap.size) (hI : InsAt w b off len g) (_h1 : Sl w ra rs) (_h4 : (rs.length : Int) = 4) (hk : k < len) (hp : p = k) (_a0 : 0 ≤ (g k).a) (_a3 : (g k).a ≤ 3) (ho : (g k).o = 3) :
    Calls Tryz.prog 58 #[.slice (some ⟨b, off, none⟩) len cap, stV p ra rs.length rc oa on oc code] w fun e w' => e = .returned (evV (evK 3) (evP 3 (g k).n) (evW 3 (g k).a rs)) ∧ Below w.heap.size w w' := by
  subst hp
  have hk' : (k : Int) < (len : Int) := by omega
  obtain ⟨c0, c1, c2, c3, c4⟩ := hI k hk
  rw [ho] at c0
  clear hI _h1 _a0 _a3 ho _h4
  go_enter Tryz.func58, Tryz.ntmps58
  go_wp2
  refine bodyPost_ret (v := evV 1 0 0) (by simp [results, Tryz.results58, go_sem]) rfl ⟨rfl, ?_⟩
  go_grown

set_option maxRecDepth 100000 in
set_option maxHeartbeats 1000000 in
theorem l2Next_4 (b off len cap k : Nat) (g : Nat → I5) (p : Int) (code : Int) (ra oa : Option Addr) (rc on oc : Nat) (rs : List Int) (w : World) (_hl : (len : Int) ≤ 9223372036854775807) (hb : b < w.heap.size) (hI : InsAt w b off len g) (_h1 : Sl w ra rs) (_h4 : (rs.length : Int) = 4) (hk : k < len) (hp : p = k) (_a0 : 0 ≤ (g k).a) (_a3 : (g k).a ≤ 3) (ho : (g k).o = 4) :
    Calls Tryz.prog 58 #[.slice (some ⟨b, off, none⟩) len cap, stV p ra rs.length rc oa on oc code] w fun e w' => e = .returned (evV (evK 4) (evP 4 (g k).n) (evW 4 (g k).a rs)) ∧ Below w.heap.size w w' := by
  subst hp
  have hk' : (k : Int) < (len : Int) := by omega
  obtain ⟨c0, c1, c2, c3, c4⟩ := hI k hk
  rw [ho] at c0
  clear hI _h1 _a0 _a3 ho _h4
  go_enter Tryz.func58, Tryz.ntmps58
  go_wp2
  refine bodyPost_ret (v := evV 1 0 0) (by simp [results, Tryz.results58, go_sem]) rfl ⟨rfl, ?_⟩
  go_grown

set_option maxRecDepth 100000 in
set_option maxHeartbeats 1000000 in
theorem l2Next_5 (b off len cap k : Nat) (g : Nat → I5) (p : Int) (code : Int) (ra oa : Option Addr) (rc on oc : Nat) (rs : List Int) (w : World) (_hl : (len : Int) ≤ 9223372036854775807) (hb : b < w.heap.size) (hI : InsAt w b off len g) (_h1 : Sl w ra rs) (_h4 : (rs.length : Int) = 4) (hk : k < len) (hp : p = k) (_a0 : 0 ≤ (g k).a) (_a3 : (g k).a ≤ 3) (ho : (g k).o = 5) :
    Calls Tryz.prog 58 #[.slice (some ⟨b, off, none⟩) len cap, stV p ra rs.length rc oa on oc code] w fun e w' => e = .returned (evV (evK 5) (evP 5 (g k).n) (evW 5 (g k).a rs)) ∧ Below w.heap.size w w' := by
  subst hp
  have hk' : (k : Int) < (len : Int) := by omega
  obtain ⟨c0, c1, c2, c3, c4⟩ := hI k hk
  rw [ho] at c0
  clear hI _h1 _a0 _a3 ho _h4
  go_enter Tryz.func58, Tryz.ntmps58
  go_wp2
  refine bodyPost_ret (v := evV 1 0 0) (by simp [results, Tryz.results58, go_sem]) rfl ⟨rfl, ?_⟩
  go_grown

set_option maxRecDepth 100000 in
set_option maxHeartbeats 1000000 in
theorem l2Next_6 (b off len cap k : Nat) (g : Nat → I5) (p : Int) (code : Int) (ra oa : Option Addr) (rc on oc : Nat) (rs : List Int) (w : World) (_hl : (len : Int) ≤ 9223372036854775807) (hb : b < w.heap.size) (hI : InsAt w b off len g) (h1 : Sl w ra rs) (h4 : (rs.length : Int) = 4) (hk : k < len) (hp : p = k) (a0 : 0 ≤ (g k).a) (a3 : (g k).a ≤ 3) (ho : (g k).o = 6) :
    Calls Tryz.prog 58 #[.slice (some ⟨b, off, none⟩) len cap, stV p ra rs.length rc oa on oc code] w fun e w' => e = .returned (evV (evK 6) (evP 6 (g k).n) (evW 6 (g k).a rs)) ∧ Below w.heap.size w w' := by
  subst hp
  have hk' : (k : Int) < (len : Int) := by omega
  obtain ⟨c0, c1, c2, c3, c4⟩ := hI k hk
  rw [ho] at c0
  obtain ⟨j, hj⟩ := Int.eq_ofNat_of_zero_le a0
  rw [hj] at c2
  have hj4 : j < rs.length := by omega
  have hj4' : (j : Int) < (rs.length : Int) := by omega
  obtain ⟨b', off', rfl, hb', cr⟩ := h1.at hj4
  have hb1 : b' < w.heap.size + 1 := by omega
  have hb2 : b' < w.heap.size + 1 + 1 := by omega
  have HJ : Hid ((g k).a.toNat = j) := by show (g k).a.toNat = j; omega
  clear hI h1 a0 a3 ho hj h4
  go_enter Tryz.func58, Tryz.ntmps58
  go_wp2_with fail
  go_region
  all_goals
    go_wp2
    refine bodyPost_ret (v := evV 2 (g k).n (zi rs j)) (by simp [results, Tryz.results58, go_sem]) rfl ⟨ret_ev (by simp [evK, evP, evW, HJ.out]), ?_⟩
    go_grown

set_option maxRecDepth 100000 in
set_option maxHeartbeats 1000000 in
theorem l2Next_7 (b off len cap k : Nat) (g : Nat → I5) (p : Int) (code : Int) (ra oa : Option Addr) (rc on oc : Nat) (rs : List Int) (w : World) (_hl : (len : Int) ≤ 9223372036854775807) (hb : b < w.heap.size) (hI : InsAt w b off len g) (_h1 : Sl w ra rs) (_h4 : (rs.length : Int) = 4) (hk : k < len) (hp : p = k) (_a0 : 0 ≤ (g k).a) (_a3 : (g k).a ≤ 3) (ho : (g k).o = 7) :
    Calls Tryz.prog 58 #[.slice (some ⟨b, off, none⟩) len cap, stV p ra rs.length rc oa on oc code] w fun e w' => e = .returned (evV (evK 7) (evP 7 (g k).n) (evW 7 (g k).a rs)) ∧ Below w.heap.size w w' := by
  subst hp
  have hk' : (k : Int) < (len : Int) := by omega
  obtain ⟨c0, c1, c2, c3, c4⟩ := hI k hk
  rw [ho] at c0
  clear hI _h1 _a0 _a3 ho _h4
  go_enter Tryz.func58, Tryz.ntmps58
  go_wp2
  refine bodyPost_ret (v := evV 3 (g k).n 0) (by simp [results, Tryz.results58, go_sem]) rfl ⟨rfl, ?_⟩
  go_grown

set_option maxRecDepth 100000 in
set_option maxHeartbeats 1000000 in
theorem l2Next_8 (b off len cap k : Nat) (g : Nat → I5) (p : Int) (code : Int) (ra oa : Option Addr) (rc on oc : Nat) (rs : List Int) (w : World) (_hl : (len : Int) ≤ 9223372036854775807) (hb : b < w.heap.size) (hI : InsAt w b off len g) (h1 : Sl w ra rs) (h4 : (rs.length : Int) = 4) (hk : k < len) (hp : p = k) (a0 : 0 ≤ (g k).a) (a3 : (g k).a ≤ 3) (ho : (g k).o = 8) :
    Calls Tryz.prog 58 #[.slice (some ⟨b, off, none⟩) len cap, stV p ra rs.length rc oa on oc code] w fun e w' => e = .returned (evV (evK 8) (evP 8 (g k).n) (evW 8 (g k).a rs)) ∧ Below w.heap.size w w' := by
  subst hp
  have hk' : (k : Int) < (len : Int) := by omega
  obtain ⟨c0, c1, c2, c3, c4⟩ := hI k hk
  rw [ho] at c0
  obtain ⟨j, hj⟩ := Int.eq_ofNat_of_zero_le a0
  rw [hj] at c2
  have hj4 : j < rs.length := by omega
  have hj4' : (j : Int) < (rs.length : Int) := by omega
  obtain ⟨b', off', rfl, hb', cr⟩ := h1.at hj4
  have hb1 : b' < w.heap.size + 1 := by omega
  have hb2 : b' < w.heap.size + 1 + 1 := by omega
  have HJ : Hid ((g k).a.toNat = j) := by show (g k).a.toNat = j; omega
  clear hI h1 a0 a3 ho hj h4
  go_enter Tryz.func58, Tryz.ntmps58
  go_wp2
  refine bodyPost_ret (v := evV 4 0 (zi rs j)) (by simp [results, Tryz.results58, go_sem]) rfl ⟨ret_ev (by simp [evK, evP, evW, HJ.out]), ?_⟩
  go_grown

set_option maxRecDepth 100000 in
set_option maxHeartbeats 1000000 in
theorem l2Next_9 (b off len cap k : Nat) (g : Nat → I5) (p : Int) (code : Int) (ra oa : Option Addr) (rc on oc : Nat) (rs : List Int) (w : World) (_hl : (len : Int) ≤ 9223372036854775807) (hb : b < w.heap.size) (hI : InsAt w b off len g) (_h1 : Sl w ra rs) (_h4 : (rs.length : Int) = 4) (hk : k < len) (hp : p = k) (_a0 : 0 ≤ (g k).a) (_a3 : (g k).a ≤ 3) (ho : (g k).o = 9) :
    Calls Tryz.prog 58 #[.slice (some ⟨b, off, none⟩) len cap, stV p ra rs.length rc oa on oc code] w fun e w' => e = .returned (evV (evK 9) (evP 9 (g k).n) (evW 9 (g k).a rs)) ∧ Below w.heap.size w w' := by
  subst hp
  have hk' : (k : Int) < (len : Int) := by omega
  obtain ⟨c0, c1, c2, c3, c4⟩ := hI k hk
  rw [ho] at c0
  clear hI _h1 _a0 _a3 ho _h4
  go_enter Tryz.func58, Tryz.ntmps58
  go_wp2
  refine bodyPost_ret (v := evV 1 0 0) (by simp [results, Tryz.results58, go_sem]) rfl ⟨rfl, ?_⟩
  go_grown

set_option maxRecDepth 100000 in
set_option maxHeartbeats 1000000 in
theorem l2Next_10 (b off len cap k : Nat) (g : Nat → I5) (p : Int) (code : Int) (ra oa : Option Addr) (rc on oc : Nat) (rs : List Int) (w : World) (_hl : (len : Int) ≤ 9223372036854775807) (hb : b < w.heap.size) (hI : InsAt w b off len g) (_h1 : Sl w ra rs) (_h4 : (rs.length : Int) = 4) (hk : k < len) (hp : p = k) (_a0 : 0 ≤ (g k).a) (_a3 : (g k).a ≤ 3) (ho : (g k).o = 10) :
    Calls Tryz.prog 58 #[.slice (some ⟨b, off, none⟩) len cap, stV p ra rs.length rc oa on oc code] w fun e w' => e = .returned (evV (evK 10) (evP 10 (g k).n) (evW 10 (g k).a rs)) ∧ Below w.heap.size w w' := by
  subst hp
  have hk' : (k : Int) < (len : Int) := by omega
  obtain ⟨c0, c1, c2, c3, c4⟩ := hI k hk
  rw [ho] at c0
  clear hI _h1 _a0 _a3 ho _h4
  go_enter Tryz.func58, Tryz.ntmps58
  go_wp2
  refine bodyPost_ret (v := evV 1 0 0) (by simp [results, Tryz.results58, go_sem]) rfl ⟨rfl, ?_⟩
  go_grown

set_option maxRecDepth 100000 in
set_option maxHeartbeats 1000000 in
theorem l2Next_11 (b off len cap k : Nat) (g : Nat → I5) (p : Int) (code : Int) (ra oa : Option Addr) (rc on oc : Nat) (rs : List Int) (w : World) (_hl : (len : Int) ≤ 9223372036854775807) (hb : b < w.heap.size) (hI : InsAt w b off len g) (_h1 : Sl w ra rs) (_h4 : (rs.length : Int) = 4) (hk : k < len) (hp : p = k) (_a0 : 0 ≤ (g k).a) (_a3 : (g k).a ≤ 3) (ho : (g k).o = 11) :
    Calls Tryz.prog 58 #[.slice (some ⟨b, off, none⟩) len cap, stV p ra rs.length rc oa on oc code] w fun e w' => e = .returned (evV (evK 11) (evP 11 (g k).n) (evW 11 (g k).a rs)) ∧ Below w.heap.size w w' := by
  subst hp
  have hk' : (k : Int) < (len : Int) := by omega
  obtain ⟨c0, c1, c2, c3, c4⟩ := hI k hk
  rw [ho] at c0
  clear hI _h1 _a0 _a3 ho _h4
  go_enter Tryz.func58, Tryz.ntmps58
  go_wp2
  refine bodyPost_ret (v := evV 1 0 0) (by simp [results, Tryz.results58, go_sem]) rfl ⟨rfl, ?_⟩
  go_grown

/-- The model's l2Next, where the program and the state are right. -/
theorem l2Next_any (b off len cap k : Nat) (g : Nat → I5) (code : Int) (ra oa : Option Addr) (rc on oc : Nat) (rs : List Int) (w : World) (hlen : len ≤ maxLen) (hb : b < w.heap.size) (hI : InsAt w b off len g) (h1 : Sl w ra rs) (h4 : rs.length = 4) (hk : k < len) (h2 : progOkB g len 4 = true) :
    Calls Tryz.prog 58 #[.slice (some ⟨b, off, none⟩) len cap, stV k ra rs.length rc oa on oc code] w fun e w' => e = .returned (evV (evK (g k).o) (evP (g k).o (g k).n) (evW (g k).o (g k).a rs)) ∧ Below w.heap.size w w' := by
  obtain ⟨⟨o1, o11⟩, -, ⟨a0, a3⟩, -⟩ := ins_range (right_ins h2 hk)
  have hl : (len : Int) ≤ 9223372036854775807 := by unfold maxLen at hlen; omega
  have h4' : (rs.length : Int) = 4 := by omega
  rcases opCases (g k).o with ho | ho | ho | ho | ho | ho | ho | ho | ho | ho | ho | ho
  · omega
  · rw [ho]; exact l2Next_1 b off len cap k g k code ra oa rc on oc rs w hl hb hI h1 h4' hk rfl a0 a3 ho
  · rw [ho]; exact l2Next_2 b off len cap k g k code ra oa rc on oc rs w hl hb hI h1 h4' hk rfl a0 a3 ho
  · rw [ho]; exact l2Next_3 b off len cap k g k code ra oa rc on oc rs w hl hb hI h1 h4' hk rfl a0 a3 ho
  · rw [ho]; exact l2Next_4 b off len cap k g k code ra oa rc on oc rs w hl hb hI h1 h4' hk rfl a0 a3 ho
  · rw [ho]; exact l2Next_5 b off len cap k g k code ra oa rc on oc rs w hl hb hI h1 h4' hk rfl a0 a3 ho
  · rw [ho]; exact l2Next_6 b off len cap k g k code ra oa rc on oc rs w hl hb hI h1 h4' hk rfl a0 a3 ho
  · rw [ho]; exact l2Next_7 b off len cap k g k code ra oa rc on oc rs w hl hb hI h1 h4' hk rfl a0 a3 ho
  · rw [ho]; exact l2Next_8 b off len cap k g k code ra oa rc on oc rs w hl hb hI h1 h4' hk rfl a0 a3 ho
  · rw [ho]; exact l2Next_9 b off len cap k g k code ra oa rc on oc rs w hl hb hI h1 h4' hk rfl a0 a3 ho
  · rw [ho]; exact l2Next_10 b off len cap k g k code ra oa rc on oc rs w hl hb hI h1 h4' hk rfl a0 a3 ho
  · rw [ho]; exact l2Next_11 b off len cap k g k code ra oa rc on oc rs w hl hb hI h1 h4' hk rfl a0 a3 ho

set_option maxRecDepth 100000 in
set_option maxHeartbeats 1000000 in
theorem specNext_any (b off len cap : Nat) (g : Nat → I5) (p code : Int) (ra oa : Option Addr) (rc oc : Nat) (rs os : List Int) (w : World) (hlen : len ≤ maxLen) (hb : b < w.heap.size) (hI : InsAt w b off len g) (hr : rs.length ≤ 1048576) (ho : os.length ≤ 1048576) (h1 : Sl w ra rs) (h2 : Sl w oa os) :
    Calls Tryz.prog 67 #[.slice (some ⟨b, off, none⟩) len cap, stV p ra rs.length rc oa os.length oc code] w fun e w' => e = .returned (evV (nxK g len p rs os code) (nxP g len p rs os code) (nxW g len p rs os code)) ∧ Below w.heap.size w w' := by
  have HI : Hid (InsAt w b off len g) := hI
  have H1 : Hid (Sl w ra rs) := h1
  have H2 : Hid (Sl w oa os) := h2
  have HL : Hid (len ≤ maxLen) := hlen
  clear hI h1 h2 hlen
  rcases Bool.eq_false_or_eq_true (rightB g len p rs os code) with t0 | t0
  case inr =>
    rw [next_wrong t0]
    go_enter Tryz.func67, Tryz.ntmps67
    go_wp2_with fail
    refine (l2Right_any _ _ _ _ g _ _ _ _ _ _ rs os _ HL.out (by simp; omega) (HI.out.below (by go_grown) hb) hr ho (H1.out.below (by go_grown)) (H2.out.below (by go_grown))).mono ?_
    rintro e w1 ⟨rfl, b1⟩
    have B1 : Hid (Below w.heap.size w w1) := below_up (by go_grown) b1 (by simp; omega)
    obtain ⟨hc1, hf1⟩ := bcell b1
    clear b1
    go_wp2
    refine bodyPost_ret (v := evV 0 0 0) (by simp [results, Tryz.results67, go_sem, hc1]) rfl ⟨rfl, ?_⟩
    have := B1.out
    go_grown
  obtain ⟨h3, h4, rfl⟩ := right_parts t0
  obtain ⟨⟨r0, r1, r2, r3, hrs, _⟩, ⟨k, rfl, hk⟩, _⟩ := st_parts h4
  have hr4 : rs.length = 4 := by rw [hrs]; rfl
  have H4 : Hid (rs.length = 4) := hr4
  rw [next_right t0]
  clear hrs h4 hr4
  go_enter Tryz.func67, Tryz.ntmps67
  go_wp2_with fail
  refine (l2Right_any _ _ _ _ g _ _ _ _ _ _ rs os _ HL.out (by simp; omega) (HI.out.below (by go_grown) hb) hr ho (H1.out.below (by go_grown)) (H2.out.below (by go_grown))).mono ?_
  rintro e w1 ⟨rfl, b1⟩
  have B1 : Hid (Below w.heap.size w w1) := below_up (by go_grown) b1 (by simp; omega)
  have y1 : w.heap.size + 1 < w1.heap.size := by have := b1.size; simp at this; omega
  obtain ⟨hc1, hf1⟩ := bcell b1
  clear b1
  go_wp2_with fail
  refine (l2Next_any _ _ _ _ k g _ _ _ _ _ _ rs _ HL.out (by have := B1.out.size; omega) (HI.out.below B1.out hb) (H1.out.below B1.out) H4.out hk h3).mono ?_
  rintro e w2 ⟨rfl, b2⟩
  have B2 : Hid (Below w.heap.size w w2) := B1.out.trans (b2.mono B1.out.size)
  obtain ⟨hc2, hf2⟩ := bcell b2
  clear b2
  go_wp2
  refine bodyPost_ret (v := evV (evK (g k).o) (evP (g k).o (g k).n) (evW (g k).o (g k).a rs)) (by simp [results, Tryz.results67, go_sem, hc2, y1, hc1]) rfl ⟨rfl, ?_⟩
  have := B2.out
  go_grown

end Go.Proofs.YtcmmlklanjhfoaaGreatDoor
