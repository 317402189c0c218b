/- The walk of the model's StateOk: it answers what stOkB says. -/
import Derived.Test.YtkpbdcahpkpobaaGreatDoorT13
namespace Go.Proofs.YtkpbdcahpkpobaaGreatDoor
open Go.RowKit

theorem inB_below (p : Int) (n : Nat) : inB p 0 ((n : Int) - 1) = belB p n := by
  rw [Bool.eq_iff_iff]; simp [inB, belB]; omega

set_option maxRecDepth 100000 in
set_option maxHeartbeats 1000000 in
theorem specStateOk_any (la : Option Addr) (n lc : Nat) (p code : Int) (ra oa : Option Addr) (rc oc : Nat) (rs os : List Int) (w : World) (hn : n ≤ maxLen) (_hr : rs.length ≤ 1048576) (ho : os.length ≤ 1048576) (h1 : Sl w ra rs) (h2 : Sl w oa os) :
    Calls Tryz.prog 190 #[.slice la n lc, stV p ra rs.length rc oa os.length oc code] w fun e w' => e = .returned (.bool (stOkB n p rs os code)) ∧ Below w.heap.size w w' := by
  unfold maxLen at hn
  have hn' : (n : Int) ≤ 9223372036854775807 := by omega
  have H1 : Hid (Sl w ra rs) := h1
  have H2 : Hid (Sl w oa os) := h2
  clear h1 h2
  have go1 := inB_below p n
  rcases Bool.eq_false_or_eq_true ((rs.length : Int) != 4) with t0 | t0
  · have HV : Hid (stOkB n p rs os code = false) := by
      have : ((rs.length : Int) == 4) = false := by simpa using t0
      simp [Hid, stOkB, regsB, this]
    clear go1
    go_enter Tryz.func190, Tryz.ntmps190
    go_wp2
    go_ret
    exact ⟨by rw [HV.out]; rfl, by go_grown⟩
  have h4 : (rs.length : Int) = 4 := by simpa using t0
  have H4 : Hid ((rs.length : Int) = 4) := h4
  clear h4
  rcases Bool.eq_false_or_eq_true (inB code 0 2) with t2 | t2
  case inr =>
    have HV : Hid (stOkB n p rs os code = false) := by simp [Hid, stOkB, t2]
    clear go1
    go_enter Tryz.func190, Tryz.ntmps190
    go_wp2_with (go_at_call 86; refine (l1In_any _ _ _ _).mono ?_; rintro e w' ⟨rfl, rfl⟩)
    go_ret
    exact ⟨by rw [HV.out]; rfl, by go_grown⟩
  rcases Bool.eq_false_or_eq_true (belB p n) with t3 | t3
  case inr =>
    have HV : Hid (stOkB n p rs os code = false) := by simp [Hid, stOkB, t3]
    go_enter Tryz.func190, Tryz.ntmps190
    go_wp2_with (go_at_call 86; refine (l1In_any _ _ _ _).mono ?_; rintro e w' ⟨rfl, rfl⟩)
    go_ret
    exact ⟨by rw [HV.out]; rfl, by go_grown⟩
  by_cases h60 : (os.length : Int) ≤ 60
  case neg =>
    have hg : 60 < (os.length : Int) := by omega
    have HV : Hid (stOkB n p rs os code = false) := by simp [Hid, stOkB, outB, h60]
    clear h60
    go_enter Tryz.func190, Tryz.ntmps190
    go_wp2_with (go_at_call 86; refine (l1In_any _ _ _ _).mono ?_; rintro e w' ⟨rfl, rfl⟩)
    go_ret
    exact ⟨by rw [HV.out]; rfl, by go_grown⟩
  have hg : ¬ 60 < (os.length : Int) := by omega
  have HV : Hid (stOkB n p rs os code = (allN rs && allN os)) := by
    have e : ((rs.length : Int) == 4) = true := by simpa using H4.out
    simp [Hid, stOkB, regsB, outB, h60, e, t2, t3]
  clear h60
  go_enter Tryz.func190, Tryz.ntmps190
  go_wp2_with (go_at_call 86; refine (l1In_any _ _ _ _).mono ?_; rintro e w' ⟨rfl, rfl⟩)
  go_loop [5] (fun i => ∃ k : Nat, k ≤ 4 ∧ i = .int .i64 k ∧ Hid (∀ t, t < k → numB (zi rs t) = true)) (fun i => 4 - (intOf i).toNat)
  case atStart => exact ⟨0, Nat.zero_le _, rfl, fun t ht => by omega⟩
  case round =>
    obtain ⟨k, hk, rfl, HK⟩ := hrel
    have hl4 : rs.length = 4 := by have := H4.out; omega
    have HL4 : Hid (rs.length = 4) := hl4
    by_cases hlt : k < 4
    · have hlt' : (k : Int) < 4 := by omega
      have hlr : (k : Int) < (rs.length : Int) := by omega
      obtain ⟨b, off, rfl, hbl, ck0⟩ := H1.out.at (k := k) (by omega)
      have ck : (w.alloc (.cells #[.int .i64 p, .slice (some ⟨b, off, none⟩) rs.length rc, .slice oa os.length oc, .int .i64 code] 30)).cell? ⟨b, off + k, none⟩ = some (.int .i64 (zi rs k)) := (old_cell _ _ hbl).trans ck0
      clear hl4 ck0
      rcases Bool.eq_false_or_eq_true (numB (zi rs k)) with s0 | s0
      · have T0 : Hid (numB (zi rs k) = true) := s0
        have s1 : inB (zi rs k) (-1000000000) 1000000000 = true := s0
        clear s0
        go_wp2_with (go_at_call 140; refine (l1Num_any _ _).mono ?_; rintro e w' ⟨rfl, rfl⟩)
        go_round
        case rel =>
          refine ⟨k + 1, by omega, by go_num, fun t ht => ?_⟩
          by_cases htk : t = k
          · subst htk; exact T0.out
          · exact HK.out t (by omega)
        case measure => simp [intOf]; omega
      · have T0 : Hid (allN rs = false) := allN_false (by rw [HL4.out]; exact hlt) s0
        have s1 : inB (zi rs k) (-1000000000) 1000000000 = false := s0
        clear s0
        go_wp2_with (go_at_call 140; refine (l1Num_any _ _).mono ?_; rintro e w' ⟨rfl, rfl⟩)
        go_ret
        exact ⟨by rw [HV.out, T0.out]; rfl, by go_grown⟩
    · have hlt' : ¬ (k : Int) < 4 := by omega
      have T0 : Hid (stOkB n p rs os code = allN os) := by
        rw [Hid, HV.out, allN_true fun t ht => HK.out t (by omega)]; rfl
      clear HK HV hl4
      go_wp2_with fail
      go_loop [6] (fun i => ∃ k : Nat, k ≤ os.length ∧ i = .int .i64 k ∧ Hid (∀ t, t < k → numB (zi os t) = true)) (fun i => os.length - (intOf i).toNat)
      case atStart => exact ⟨0, Nat.zero_le _, rfl, fun t ht => by omega⟩
      case round =>
        obtain ⟨j, hj, rfl, HJ⟩ := hrel
        by_cases hjl : j < os.length
        · have hjl' : (j : Int) < (os.length : Int) := by omega
          obtain ⟨b, off, rfl, hbl, ck0⟩ := H2.out.at (k := j) hjl
          have ck : (w.alloc (.cells #[.int .i64 p, .slice ra rs.length rc, .slice (some ⟨b, off, none⟩) os.length oc, .int .i64 code] 30)).cell? ⟨b, off + j, none⟩ = some (.int .i64 (zi os j)) := (old_cell _ _ hbl).trans ck0
          clear ck0
          rcases Bool.eq_false_or_eq_true (numB (zi os j)) with s0 | s0
          · have T1 : Hid (numB (zi os j) = true) := s0
            have s1 : inB (zi os j) (-1000000000) 1000000000 = true := s0
            clear s0
            go_wp2_with (go_at_call 140; refine (l1Num_any _ _).mono ?_; rintro e w' ⟨rfl, rfl⟩)
            go_round
            case rel =>
              refine ⟨j + 1, by omega, by go_num, fun t ht => ?_⟩
              by_cases htk : t = j
              · subst htk; exact T1.out
              · exact HJ.out t (by omega)
            case measure => simp [intOf]; omega
          · have T1 : Hid (allN os = false) := allN_false hjl s0
            have s1 : inB (zi os j) (-1000000000) 1000000000 = false := s0
            clear s0
            go_wp2_with (go_at_call 140; refine (l1Num_any _ _).mono ?_; rintro e w' ⟨rfl, rfl⟩)
            go_ret
            exact ⟨by rw [T0.out, T1.out]; rfl, by go_grown⟩
        · have hjl' : ¬ (j : Int) < (os.length : Int) := by omega
          have T1 : Hid (allN os = true) := allN_true fun t ht => HJ.out t (by omega)
          clear HJ
          go_wp2
          go_ret
          exact ⟨by rw [T0.out, T1.out]; rfl, by go_grown⟩

end Go.Proofs.YtkpbdcahpkpobaaGreatDoor
