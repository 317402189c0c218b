/- The walks of the model's l2Next, l2Right and Next. -/
import Derived.Test.YtnfdnnmddadmkaaGreatDoorNc0
import Derived.Test.YtnfdnnmddadmkaaGreatDoorNc11
import Derived.Test.YtnfdnnmddadmkaaGreatDoorNc13
namespace Go.Proofs.YtnfdnnmddadmkaaGreatDoor
set_option maxRecDepth 100000
set_option maxHeartbeats 1000000
open Go.RowKit
theorem inB_below (p : Int) (n : Nat) : inB p 0 ((n : Int) - 1) = belB p n := by
 rw [Bool.eq_iff_iff]; simp [inB, belB]; omega
theorem l2Next_1 (b off len cap k : Nat) (g : Nat → I5) (p : Int) (code : Int) (ra oa : Option Addr) (rc on oc : Nat) (rs : List Int) (w : World) (_hl : (len : Int) ≤ 9223372036854775807) (hb : b < w.heap.size) (hI : InsAt w b off len g) (_h1 : Sl w ra rs) (_h4 : (rs.length : Int) = 4) (hk : k < len) (hp : p = k) (_a0 : 0 ≤ (g k).a) (_a3 : (g k).a ≤ 3) (ho : (g k).o = 1) :
  Calls Tryz.prog 106 #[.slice (some ⟨b, off, none⟩) len cap, stV p ra rs.length rc oa on oc code] w fun e w' => e = .returned (evV (evK 1) (evP 1 (g k).n) (evW 1 (g k).a rs)) ∧ Below w.heap.size w w' := by
 subst hp
 have hk' : (k : Int) < (len : Int) := by omega
 obtain ⟨c0, c1, c2, c3, c4⟩ := hI k hk
 rw [ho] at c0
 clear hI _h1 _a0 _a3 ho _h4
 go_enter Tryz.func106, Tryz.ntmps106
 go_wp2
 refine bodyPost_ret (v := evV 1 0 0) (by simp [results, Tryz.results106, go_sem]) rfl ⟨rfl, ?_⟩
 go_grown
theorem l2Next_2 (b off len cap k : Nat) (g : Nat → I5) (p : Int) (code : Int) (ra oa : Option Addr) (rc on oc : Nat) (rs : List Int) (w : World) (_hl : (len : Int) ≤ 9223372036854775807) (hb : b < w.heap.size) (hI : InsAt w b off len g) (_h1 : Sl w ra rs) (_h4 : (rs.length : Int) = 4) (hk : k < len) (hp : p = k) (_a0 : 0 ≤ (g k).a) (_a3 : (g k).a ≤ 3) (ho : (g k).o = 2) :
  Calls Tryz.prog 106 #[.slice (some ⟨b, off, none⟩) len cap, stV p ra rs.length rc oa on oc code] w fun e w' => e = .returned (evV (evK 2) (evP 2 (g k).n) (evW 2 (g k).a rs)) ∧ Below w.heap.size w w' := by
 subst hp
 have hk' : (k : Int) < (len : Int) := by omega
 obtain ⟨c0, c1, c2, c3, c4⟩ := hI k hk
 rw [ho] at c0
 clear hI _h1 _a0 _a3 ho _h4
 go_enter Tryz.func106, Tryz.ntmps106
 go_wp2
 refine bodyPost_ret (v := evV 1 0 0) (by simp [results, Tryz.results106, go_sem]) rfl ⟨rfl, ?_⟩
 go_grown
theorem l2Next_3 (b off len cap k : Nat) (g : Nat → I5) (p : Int) (code : Int) (ra oa : Option Addr) (rc on oc : Nat) (rs : List Int) (w : World) (_hl : (len : Int) ≤ 9223372036854775807) (hb : b < w.heap.size) (hI : InsAt w b off len g) (_h1 : Sl w ra rs) (_h4 : (rs.length : Int) = 4) (hk : k < len) (hp : p = k) (_a0 : 0 ≤ (g k).a) (_a3 : (g k).a ≤ 3) (ho : (g k).o = 3) :
  Calls Tryz.prog 106 #[.slice (some ⟨b, off, none⟩) len cap, stV p ra rs.length rc oa on oc code] w fun e w' => e = .returned (evV (evK 3) (evP 3 (g k).n) (evW 3 (g k).a rs)) ∧ Below w.heap.size w w' := by
 subst hp
 have hk' : (k : Int) < (len : Int) := by omega
 obtain ⟨c0, c1, c2, c3, c4⟩ := hI k hk
 rw [ho] at c0
 clear hI _h1 _a0 _a3 ho _h4
 go_enter Tryz.func106, Tryz.ntmps106
 go_wp2
 refine bodyPost_ret (v := evV 1 0 0) (by simp [results, Tryz.results106, go_sem]) rfl ⟨rfl, ?_⟩
 go_grown
theorem l2Next_4 (b off len cap k : Nat) (g : Nat → I5) (p : Int) (code : Int) (ra oa : Option Addr) (rc on oc : Nat) (rs : List Int) (w : World) (_hl : (len : Int) ≤ 9223372036854775807) (hb : b < w.heap.size) (hI : InsAt w b off len g) (_h1 : Sl w ra rs) (_h4 : (rs.length : Int) = 4) (hk : k < len) (hp : p = k) (_a0 : 0 ≤ (g k).a) (_a3 : (g k).a ≤ 3) (ho : (g k).o = 4) :
  Calls Tryz.prog 106 #[.slice (some ⟨b, off, none⟩) len cap, stV p ra rs.length rc oa on oc code] w fun e w' => e = .returned (evV (evK 4) (evP 4 (g k).n) (evW 4 (g k).a rs)) ∧ Below w.heap.size w w' := by
 subst hp
 have hk' : (k : Int) < (len : Int) := by omega
 obtain ⟨c0, c1, c2, c3, c4⟩ := hI k hk
 rw [ho] at c0
 clear hI _h1 _a0 _a3 ho _h4
 go_enter Tryz.func106, Tryz.ntmps106
 go_wp2
 refine bodyPost_ret (v := evV 1 0 0) (by simp [results, Tryz.results106, go_sem]) rfl ⟨rfl, ?_⟩
 go_grown
theorem l2Next_5 (b off len cap k : Nat) (g : Nat → I5) (p : Int) (code : Int) (ra oa : Option Addr) (rc on oc : Nat) (rs : List Int) (w : World) (_hl : (len : Int) ≤ 9223372036854775807) (hb : b < w.heap.size) (hI : InsAt w b off len g) (_h1 : Sl w ra rs) (_h4 : (rs.length : Int) = 4) (hk : k < len) (hp : p = k) (_a0 : 0 ≤ (g k).a) (_a3 : (g k).a ≤ 3) (ho : (g k).o = 5) :
  Calls Tryz.prog 106 #[.slice (some ⟨b, off, none⟩) len cap, stV p ra rs.length rc oa on oc code] w fun e w' => e = .returned (evV (evK 5) (evP 5 (g k).n) (evW 5 (g k).a rs)) ∧ Below w.heap.size w w' := by
 subst hp
 have hk' : (k : Int) < (len : Int) := by omega
 obtain ⟨c0, c1, c2, c3, c4⟩ := hI k hk
 rw [ho] at c0
 clear hI _h1 _a0 _a3 ho _h4
 go_enter Tryz.func106, Tryz.ntmps106
 go_wp2
 refine bodyPost_ret (v := evV 1 0 0) (by simp [results, Tryz.results106, go_sem]) rfl ⟨rfl, ?_⟩
 go_grown
theorem l2Next_6 (b off len cap k : Nat) (g : Nat → I5) (p : Int) (code : Int) (ra oa : Option Addr) (rc on oc : Nat) (rs : List Int) (w : World) (_hl : (len : Int) ≤ 9223372036854775807) (hb : b < w.heap.size) (hI : InsAt w b off len g) (h1 : Sl w ra rs) (h4 : (rs.length : Int) = 4) (hk : k < len) (hp : p = k) (a0 : 0 ≤ (g k).a) (a3 : (g k).a ≤ 3) (ho : (g k).o = 6) :
  Calls Tryz.prog 106 #[.slice (some ⟨b, off, none⟩) len cap, stV p ra rs.length rc oa on oc code] w fun e w' => e = .returned (evV (evK 6) (evP 6 (g k).n) (evW 6 (g k).a rs)) ∧ Below w.heap.size w w' := by
 subst hp
 have hk' : (k : Int) < (len : Int) := by omega
 obtain ⟨c0, c1, c2, c3, c4⟩ := hI k hk
 rw [ho] at c0
 obtain ⟨j, hj⟩ := Int.eq_ofNat_of_zero_le a0
 rw [hj] at c2
 have hj4 : j < rs.length := by omega
 have hj4' : (j : Int) < (rs.length : Int) := by omega
 obtain ⟨b', off', rfl, hb', cr⟩ := h1.at hj4
 have hb1 : b' < w.heap.size + 1 := by omega
 have hb2 : b' < w.heap.size + 1 + 1 := by omega
 have HJ : Hid ((g k).a.toNat = j) := by show (g k).a.toNat = j; omega
 clear hI h1 a0 a3 ho hj h4
 go_enter Tryz.func106, Tryz.ntmps106
 go_wp2_with fail
 go_region
 all_goals
  go_wp2
  refine bodyPost_ret (v := evV 2 (g k).n (zi rs j)) (by simp [results, Tryz.results106, go_sem]) rfl ⟨ret_ev (by simp [evK, evP, evW, HJ.out]), ?_⟩
  go_grown
theorem l2Next_7 (b off len cap k : Nat) (g : Nat → I5) (p : Int) (code : Int) (ra oa : Option Addr) (rc on oc : Nat) (rs : List Int) (w : World) (_hl : (len : Int) ≤ 9223372036854775807) (hb : b < w.heap.size) (hI : InsAt w b off len g) (_h1 : Sl w ra rs) (_h4 : (rs.length : Int) = 4) (hk : k < len) (hp : p = k) (_a0 : 0 ≤ (g k).a) (_a3 : (g k).a ≤ 3) (ho : (g k).o = 7) :
  Calls Tryz.prog 106 #[.slice (some ⟨b, off, none⟩) len cap, stV p ra rs.length rc oa on oc code] w fun e w' => e = .returned (evV (evK 7) (evP 7 (g k).n) (evW 7 (g k).a rs)) ∧ Below w.heap.size w w' := by
 subst hp
 have hk' : (k : Int) < (len : Int) := by omega
 obtain ⟨c0, c1, c2, c3, c4⟩ := hI k hk
 rw [ho] at c0
 clear hI _h1 _a0 _a3 ho _h4
 go_enter Tryz.func106, Tryz.ntmps106
 go_wp2
 refine bodyPost_ret (v := evV 3 (g k).n 0) (by simp [results, Tryz.results106, go_sem]) rfl ⟨rfl, ?_⟩
 go_grown
theorem l2Next_8 (b off len cap k : Nat) (g : Nat → I5) (p : Int) (code : Int) (ra oa : Option Addr) (rc on oc : Nat) (rs : List Int) (w : World) (_hl : (len : Int) ≤ 9223372036854775807) (hb : b < w.heap.size) (hI : InsAt w b off len g) (h1 : Sl w ra rs) (h4 : (rs.length : Int) = 4) (hk : k < len) (hp : p = k) (a0 : 0 ≤ (g k).a) (a3 : (g k).a ≤ 3) (ho : (g k).o = 8) :
  Calls Tryz.prog 106 #[.slice (some ⟨b, off, none⟩) len cap, stV p ra rs.length rc oa on oc code] w fun e w' => e = .returned (evV (evK 8) (evP 8 (g k).n) (evW 8 (g k).a rs)) ∧ Below w.heap.size w w' := by
 subst hp
 have hk' : (k : Int) < (len : Int) := by omega
 obtain ⟨c0, c1, c2, c3, c4⟩ := hI k hk
 rw [ho] at c0
 obtain ⟨j, hj⟩ := Int.eq_ofNat_of_zero_le a0
 rw [hj] at c2
 have hj4 : j < rs.length := by omega
 have hj4' : (j : Int) < (rs.length : Int) := by omega
 obtain ⟨b', off', rfl, hb', cr⟩ := h1.at hj4
 have hb1 : b' < w.heap.size + 1 := by omega
 have hb2 : b' < w.heap.size + 1 + 1 := by omega
 have HJ : Hid ((g k).a.toNat = j) := by show (g k).a.toNat = j; omega
 clear hI h1 a0 a3 ho hj h4
 go_enter Tryz.func106, Tryz.ntmps106
 go_wp2
 refine bodyPost_ret (v := evV 4 0 (zi rs j)) (by simp [results, Tryz.results106, go_sem]) rfl ⟨ret_ev (by simp [evK, evP, evW, HJ.out]), ?_⟩
 go_grown
theorem l2Next_9 (b off len cap k : Nat) (g : Nat → I5) (p : Int) (code : Int) (ra oa : Option Addr) (rc on oc : Nat) (rs : List Int) (w : World) (_hl : (len : Int) ≤ 9223372036854775807) (hb : b < w.heap.size) (hI : InsAt w b off len g) (_h1 : Sl w ra rs) (_h4 : (rs.length : Int) = 4) (hk : k < len) (hp : p = k) (_a0 : 0 ≤ (g k).a) (_a3 : (g k).a ≤ 3) (ho : (g k).o = 9) :
  Calls Tryz.prog 106 #[.slice (some ⟨b, off, none⟩) len cap, stV p ra rs.length rc oa on oc code] w fun e w' => e = .returned (evV (evK 9) (evP 9 (g k).n) (evW 9 (g k).a rs)) ∧ Below w.heap.size w w' := by
 subst hp
 have hk' : (k : Int) < (len : Int) := by omega
 obtain ⟨c0, c1, c2, c3, c4⟩ := hI k hk
 rw [ho] at c0
 clear hI _h1 _a0 _a3 ho _h4
 go_enter Tryz.func106, Tryz.ntmps106
 go_wp2
 refine bodyPost_ret (v := evV 1 0 0) (by simp [results, Tryz.results106, go_sem]) rfl ⟨rfl, ?_⟩
 go_grown
theorem l2Next_10 (b off len cap k : Nat) (g : Nat → I5) (p : Int) (code : Int) (ra oa : Option Addr) (rc on oc : Nat) (rs : List Int) (w : World) (_hl : (len : Int) ≤ 9223372036854775807) (hb : b < w.heap.size) (hI : InsAt w b off len g) (_h1 : Sl w ra rs) (_h4 : (rs.length : Int) = 4) (hk : k < len) (hp : p = k) (_a0 : 0 ≤ (g k).a) (_a3 : (g k).a ≤ 3) (ho : (g k).o = 10) :
  Calls Tryz.prog 106 #[.slice (some ⟨b, off, none⟩) len cap, stV p ra rs.length rc oa on oc code] w fun e w' => e = .returned (evV (evK 10) (evP 10 (g k).n) (evW 10 (g k).a rs)) ∧ Below w.heap.size w w' := by
 subst hp
 have hk' : (k : Int) < (len : Int) := by omega
 obtain ⟨c0, c1, c2, c3, c4⟩ := hI k hk
 rw [ho] at c0
 clear hI _h1 _a0 _a3 ho _h4
 go_enter Tryz.func106, Tryz.ntmps106
 go_wp2
 refine bodyPost_ret (v := evV 1 0 0) (by simp [results, Tryz.results106, go_sem]) rfl ⟨rfl, ?_⟩
 go_grown
theorem l2Next_11 (b off len cap k : Nat) (g : Nat → I5) (p : Int) (code : Int) (ra oa : Option Addr) (rc on oc : Nat) (rs : List Int) (w : World) (_hl : (len : Int) ≤ 9223372036854775807) (hb : b < w.heap.size) (hI : InsAt w b off len g) (_h1 : Sl w ra rs) (_h4 : (rs.length : Int) = 4) (hk : k < len) (hp : p = k) (_a0 : 0 ≤ (g k).a) (_a3 : (g k).a ≤ 3) (ho : (g k).o = 11) :
  Calls Tryz.prog 106 #[.slice (some ⟨b, off, none⟩) len cap, stV p ra rs.length rc oa on oc code] w fun e w' => e = .returned (evV (evK 11) (evP 11 (g k).n) (evW 11 (g k).a rs)) ∧ Below w.heap.size w w' := by
 subst hp
 have hk' : (k : Int) < (len : Int) := by omega
 obtain ⟨c0, c1, c2, c3, c4⟩ := hI k hk
 rw [ho] at c0
 clear hI _h1 _a0 _a3 ho _h4
 go_enter Tryz.func106, Tryz.ntmps106
 go_wp2
 refine bodyPost_ret (v := evV 1 0 0) (by simp [results, Tryz.results106, go_sem]) rfl ⟨rfl, ?_⟩
 go_grown
theorem l2Next_any (b off len cap k : Nat) (g : Nat → I5) (code : Int) (ra oa : Option Addr) (rc on oc : Nat) (rs : List Int) (w : World) (hlen : len ≤ maxLen) (hb : b < w.heap.size) (hI : InsAt w b off len g) (h1 : Sl w ra rs) (h4 : rs.length = 4) (hk : k < len) (h2 : progOkB g len 4 = true) :
  Calls Tryz.prog 106 #[.slice (some ⟨b, off, none⟩) len cap, stV k ra rs.length rc oa on oc code] w fun e w' => e = .returned (evV (evK (g k).o) (evP (g k).o (g k).n) (evW (g k).o (g k).a rs)) ∧ Below w.heap.size w w' := by
 obtain ⟨⟨o1, o11⟩, -, ⟨a0, a3⟩, -⟩ := ins_range (right_ins h2 hk)
 have hl : (len : Int) ≤ 9223372036854775807 := by unfold maxLen at hlen; omega
 have h4' : (rs.length : Int) = 4 := by omega
 rcases opCases (g k).o with ho | ho | ho | ho | ho | ho | ho | ho | ho | ho | ho | ho
 ·omega
 ·rw [ho]; exact l2Next_1 b off len cap k g k code ra oa rc on oc rs w hl hb hI h1 h4' hk rfl a0 a3 ho
 ·rw [ho]; exact l2Next_2 b off len cap k g k code ra oa rc on oc rs w hl hb hI h1 h4' hk rfl a0 a3 ho
 ·rw [ho]; exact l2Next_3 b off len cap k g k code ra oa rc on oc rs w hl hb hI h1 h4' hk rfl a0 a3 ho
 ·rw [ho]; exact l2Next_4 b off len cap k g k code ra oa rc on oc rs w hl hb hI h1 h4' hk rfl a0 a3 ho
 ·rw [ho]; exact l2Next_5 b off len cap k g k code ra oa rc on oc rs w hl hb hI h1 h4' hk rfl a0 a3 ho
 ·rw [ho]; exact l2Next_6 b off len cap k g k code ra oa rc on oc rs w hl hb hI h1 h4' hk rfl a0 a3 ho
 ·rw [ho]; exact l2Next_7 b off len cap k g k code ra oa rc on oc rs w hl hb hI h1 h4' hk rfl a0 a3 ho
 ·rw [ho]; exact l2Next_8 b off len cap k g k code ra oa rc on oc rs w hl hb hI h1 h4' hk rfl a0 a3 ho
 ·rw [ho]; exact l2Next_9 b off len cap k g k code ra oa rc on oc rs w hl hb hI h1 h4' hk rfl a0 a3 ho
 ·rw [ho]; exact l2Next_10 b off len cap k g k code ra oa rc on oc rs w hl hb hI h1 h4' hk rfl a0 a3 ho
 ·rw [ho]; exact l2Next_11 b off len cap k g k code ra oa rc on oc rs w hl hb hI h1 h4' hk rfl a0 a3 ho
end Go.Proofs.YtnfdnnmddadmkaaGreatDoor
