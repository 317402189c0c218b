/- The walk of the model's InsText. -/
import Derived.Test.YtdlfdelngolkgaaDoorTextD
namespace Go.Proofs.YtdlfdelngolkgaaDoor
open Go.RowKit Go.Sort

set_option maxRecDepth 100000 in
set_option maxHeartbeats 1000000 in
theorem l1Names_any (w : World) :
    Calls Tryd.prog 21 #[] w fun e w' => e = .returned (.slice (some ⟨w.heap.size, 0, none⟩) 12 12) ∧ (∀ i, i < 12 → w'.cell? ⟨w.heap.size, i, none⟩ = some (.string (wordT i))) ∧ w.heap.size < w'.heap.size ∧ Below w.heap.size w w' := by
  go_enter Tryd.func21, Tryd.ntmps21
  go_wp2
  go_ret
  refine ⟨rfl, fun i hi => ?_, by simp, (Below.refl _ _).alloc (Nat.le_refl _) _⟩
  match i, hi with
  | 0, _ => simp [wordT]
  | 1, _ => simp [wordT]
  | 2, _ => simp [wordT]
  | 3, _ => simp [wordT]
  | 4, _ => simp [wordT]
  | 5, _ => simp [wordT]
  | 6, _ => simp [wordT]
  | 7, _ => simp [wordT]
  | 8, _ => simp [wordT]
  | 9, _ => simp [wordT]
  | 10, _ => simp [wordT]
  | 11, _ => simp [wordT]

set_option maxRecDepth 100000 in
set_option maxHeartbeats 1000000 in
theorem specInsText_no (op r a b n : Int) (w : World) (hok : insOkB op r a b n 30 4 = false) :
    Calls Tryd.prog 8 #[insV op r a b n] w fun e w' => e = .returned (.string ⟨#[]⟩) ∧ Below w.heap.size w w' := by
  go_enter Tryd.func8, Tryd.ntmps8
  go_wp2_with (go_at_call 20; refine (specInsOk_any _ _ _ _ _ _ _ _).mono ?_; rintro e w1 ⟨rfl, hb1⟩)
  go_ret
  exact ⟨rfl, ((Below.refl _ _).alloc (Nat.le_refl _) _).trans (hb1.mono (by simp))⟩

theorem any_text (x : ByteArray) : x ++ (⟨#[32, 97, 110, 121]⟩ : ByteArray) = x ++ ⟨#[32]⟩ ++ ⟨#[97, 110, 121]⟩ := by
  apply ByteArray.ext
  simp
theorem textT_7a (r a b n : Int) (h : (n == 9) = true) : wordT 7 ++ (⟨#[32]⟩ ++ numT r) ++ ⟨#[32, 97, 110, 121]⟩ = textT ((7 : Nat) : Int) r a b n := by
  have h9 : n = 9 := by simpa using h
  rw [any_text, show textT ((7 : Nat) : Int) r a b n = (if n = 9 then lineTo 7 (nums [r]) 1 ++ ⟨#[32]⟩ ++ ⟨#[97, 110, 121]⟩ else lineTo 7 (nums [r, n]) 2) from rfl, if_pos h9]
  rfl
theorem textT_7b (r a b n : Int) (h : (n == 9) = false) : wordT 7 ++ (⟨#[32]⟩ ++ numT r) ++ (⟨#[32]⟩ ++ numT n) = textT ((7 : Nat) : Int) r a b n := by
  have h9 : ¬ n = 9 := by simpa using h
  rw [show textT ((7 : Nat) : Int) r a b n = (if n = 9 then lineTo 7 (nums [r]) 1 ++ ⟨#[32]⟩ ++ ⟨#[97, 110, 121]⟩ else lineTo 7 (nums [r, n]) 2) from rfl, if_neg h9]
  rfl

set_option maxRecDepth 100000 in
set_option maxHeartbeats 1000000 in
theorem specInsText_yes (o : Nat) (r a b n : Int) (w : World) (hok : insOkB o r a b n 30 4 = true) :
    Calls Tryd.prog 8 #[insV o r a b n] w fun e w' => e = .returned (.string (textT o r a b n)) ∧ Below w.heap.size w w' := by
  obtain ⟨fr, fa, fb, fn, o1', o2'⟩ := ok_fit hok
  have o1 : 1 ≤ o := by omega
  have o2 : o ≤ 11 := by omega
  clear o1' o2'
  have o3 : (o : Int) < 12 := by omega
  have sr := numT_size r fr.1 fr.2
  have sa := numT_size a fa.1 fa.2
  have sb := numT_size b fb.1 fb.2
  have sn := numT_size n fn.1 fn.2
  have so := wordT_size o (by omega)
  have HFT : Hid (Fit r ∧ Fit a ∧ Fit b ∧ Fit n) := ⟨fr, fa, fb, fn⟩
  clear fr fa fb fn
  go_enter Tryd.func8, Tryd.ntmps8
  go_wp2_with fail
  refine (specInsOk_any _ _ _ _ _ _ _ _).mono ?_
  rintro e w1 ⟨rfl, hb1⟩
  have hz1 : w.heap.size < w1.heap.size := by have := hb1.size; simp at this; omega
  have c0 : w1.cell? ⟨w.heap.size, 0, none⟩ = some (.int .i64 o) := by rw [hb1.cell (by simp)]; simp
  have c1 : w1.cell? ⟨w.heap.size, 1, none⟩ = some (.int .i64 r) := by rw [hb1.cell (by simp)]; simp
  have c2 : w1.cell? ⟨w.heap.size, 2, none⟩ = some (.int .i64 a) := by rw [hb1.cell (by simp)]; simp
  have c3 : w1.cell? ⟨w.heap.size, 3, none⟩ = some (.int .i64 b) := by rw [hb1.cell (by simp)]; simp
  have c4 : w1.cell? ⟨w.heap.size, 4, none⟩ = some (.int .i64 n) := by rw [hb1.cell (by simp)]; simp
  have B1 : Hid (Below w.heap.size w w1) := ((Below.refl _ _).alloc (Nat.le_refl _) _).trans (hb1.mono (by simp))
  clear hb1
  go_wp2_with fail
  first | (go_region_with (go_at_call 21; refine (l1Names_any _).mono ?_; rintro e w2 ⟨rfl, hn, hz2, hb2⟩; have HB2 : Hid (Below w1.heap.size w1 w2) := ((Below.refl w1.heap.size w1).drew).trans hb2; have cw : w2.cell? ⟨w1.heap.size, o, none⟩ = some (.string (wordT o)) := hn o (by omega); have d0 := hb2.cell (p := ⟨w.heap.size, 0, none⟩) (by simpa using hz1); clear hn hb2)) | fail
  all_goals
    have e0 : w2.cell? ⟨w.heap.size, 0, none⟩ = some (.int .i64 o) := (HB2.out.cell hz1).trans c0
    have e1 : w2.cell? ⟨w.heap.size, 1, none⟩ = some (.int .i64 r) := (HB2.out.cell hz1).trans c1
    have e2 : w2.cell? ⟨w.heap.size, 2, none⟩ = some (.int .i64 a) := (HB2.out.cell hz1).trans c2
    have e3 : w2.cell? ⟨w.heap.size, 3, none⟩ = some (.int .i64 b) := (HB2.out.cell hz1).trans c3
    have e4 : w2.cell? ⟨w.heap.size, 4, none⟩ = some (.int .i64 n) := (HB2.out.cell hz1).trans c4
    have hz3 : w.heap.size < w2.heap.size := by have := HB2.out.size; omega
    have B2 : Hid (Below w.heap.size w w2) := B1.out.trans (HB2.out.mono (Nat.le_of_lt hz1))
    clear c0 c1 c2 c3 c4 d0 hz1 hz2 B1 HB2
    go_wp2_with fail
    have k1 := cell_regrown e1
    have k2 := cell_regrown e2
    have k3 := cell_regrown e3
    have k4 := cell_regrown e4
    have cR : ∀ d os, Calls Tryd.prog 22 #[.int .i64 r] (grow (redrawn w2 d) os) fun e w'' => e = .returned (.string (numT r)) ∧ ∃ p : Regrown, w'' = grow (redrawn w2 p.d) p.os := fun d os => Calls.regrown_of (l1Digits_any r _ HFT.out.1.1 HFT.out.1.2)
    have cA : ∀ d os, Calls Tryd.prog 22 #[.int .i64 a] (grow (redrawn w2 d) os) fun e w'' => e = .returned (.string (numT a)) ∧ ∃ p : Regrown, w'' = grow (redrawn w2 p.d) p.os := fun d os => Calls.regrown_of (l1Digits_any a _ HFT.out.2.1.1 HFT.out.2.1.2)
    have cB : ∀ d os, Calls Tryd.prog 22 #[.int .i64 b] (grow (redrawn w2 d) os) fun e w'' => e = .returned (.string (numT b)) ∧ ∃ p : Regrown, w'' = grow (redrawn w2 p.d) p.os := fun d os => Calls.regrown_of (l1Digits_any b _ HFT.out.2.2.1.1 HFT.out.2.2.1.2)
    have cN : ∀ d os, Calls Tryd.prog 22 #[.int .i64 n] (grow (redrawn w2 d) os) fun e w'' => e = .returned (.string (numT n)) ∧ ∃ p : Regrown, w'' = grow (redrawn w2 p.d) p.os := fun d os => Calls.regrown_of (l1Digits_any n _ HFT.out.2.2.2.1 HFT.out.2.2.2.2)
    have nr : ¬ 9223372036854775807 < 1 + (numT r).size := by omega
    have na : ¬ 9223372036854775807 < 1 + (numT a).size := by omega
    have nb : ¬ 9223372036854775807 < 1 + (numT b).size := by omega
    have nn : ¬ 9223372036854775807 < 1 + (numT n).size := by omega
    refine wp_region_quiet_below (by kernel_rfl) (by kernel_rfl) ?_
    repeat (quiet_step (first | (go_at_call_of 22 (Value.int IntKind.i64 r); exact cR _ _) | (go_at_call_of 22 (Value.int IntKind.i64 a); exact cA _ _) | (go_at_call_of 22 (Value.int IntKind.i64 b); exact cB _ _) | (go_at_call_of 22 (Value.int IntKind.i64 n); exact cN _ _)))
    refine wpQuiet_nil ?_
    intro _ hw'
    obtain ⟨⟨dq, osq⟩, hw''⟩ := hw'
    subst hw''
    clear k1 k2 k3 k4 cR cA cB cN nr na nb nn
    have hb3 := below_regrown w2 dq osq
    generalize grow (redrawn w2 dq) osq = w3 at *
    have f0 : w3.cell? ⟨w.heap.size, 0, none⟩ = some (.int .i64 o) := (hb3.cell hz3).trans e0
    have f4 : w3.cell? ⟨w.heap.size, 4, none⟩ = some (.int .i64 n) := (hb3.cell hz3).trans e4
    have B3 : Hid (Below w.heap.size w w3) := B2.out.trans (hb3.mono (Nat.le_of_lt hz3))
    clear e0 e1 e2 e3 e4 hb3 hz3 B2 cw HFT
    have ho : o = 1 ∨ o = 2 ∨ o = 3 ∨ o = 4 ∨ o = 5 ∨ o = 6 ∨ o = 7 ∨ o = 8 ∨ o = 9 ∨ o = 10 ∨ o = 11 := by omega
    clear o1 o2 o3 hok
    rcases ho with rfl | rfl | rfl | rfl | rfl | rfl | rfl | rfl | rfl | rfl | rfl
    case inr.inr.inr.inr.inr.inr.inl =>
      rcases Bool.eq_false_or_eq_true (n == 9) with t9 | t9
      · have HT : Hid (_) := textT_7a r a b n t9
        go_wp2
        go_ret
        exact ⟨ret_string HT.out, B3.out⟩
      · have HT : Hid (_) := textT_7b r a b n t9
        go_wp2
        go_ret
        exact ⟨ret_string HT.out, B3.out⟩
    all_goals
      go_wp2
      go_ret
      exact ⟨ret_string rfl, B3.out⟩

theorem specInsText_any (op r a b n : Int) (w : World) :
    Calls Tryd.prog 8 #[insV op r a b n] w fun e w' => e = .returned (.string (insTextB op r a b n)) ∧ Below w.heap.size w w' := by
  rcases Bool.eq_false_or_eq_true (insOkB op r a b n 30 4) with h | h
  · rw [insTextB, if_pos h]
    obtain ⟨_, _, _, _, o1, _⟩ := ok_fit h
    obtain ⟨k, rfl⟩ := Int.eq_ofNat_of_zero_le (show 0 ≤ op by omega)
    exact specInsText_yes k r a b n w h
  · rw [insTextB, if_neg (by rw [h]; decide)]
    exact specInsText_no op r a b n w h

end Go.Proofs.YtdlfdelngolkgaaDoor
