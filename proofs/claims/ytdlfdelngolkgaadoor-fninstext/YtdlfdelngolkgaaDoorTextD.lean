/- InsText, the program's and the model's: both answer what insTextB says, for every place. -/
import Derived.Test.YtdlfdelngolkgaaDoorTextC
namespace Go.Proofs.YtdlfdelngolkgaaDoor
open Go.RowKit Go.Sort

def textT (op r a b n : Int) : ByteArray :=
  if op = 1 then lineTo 1 (nums [r, n]) 2
  else if op = 6 then lineTo 6 (nums [n, a]) 2
  else if op = 7 then (if n = 9 then lineTo 7 (nums [r]) 1 ++ ⟨#[32]⟩ ++ ⟨#[97, 110, 121]⟩ else lineTo 7 (nums [r, n]) 2)
  else if op = 8 then lineTo 8 (nums [a]) 1
  else if op = 9 then lineTo 9 (nums [n]) 1
  else if op = 10 then lineTo 10 (nums [a, n]) 2
  else if op = 11 then lineTo 11 (nums []) 0
  else lineTo op.toNat (nums [r, a, b]) 3
def insTextB (op r a b n : Int) : ByteArray := if insOkB op r a b n 30 4 = true then textT op r a b n else ⟨#[]⟩

theorem ok_fit {op r a b n : Int} (h : insOkB op r a b n 30 4 = true) : Fit r ∧ Fit a ∧ Fit b ∧ Fit n ∧ 1 ≤ op ∧ op ≤ 11 := by
  simp only [insOkB, Bool.and_eq_true] at h
  obtain ⟨⟨⟨⟨h1, h2⟩, h3⟩, _⟩, h5⟩ := h
  simp only [inB, decide_eq_true_eq] at h1 h2 h3
  rcases opCases op with g | rfl | rfl | rfl | rfl | rfl | rfl | rfl | rfl | rfl | rfl | rfl
  · rw [opOkB_none _ _ _ _ _ _ _ g] at h5
    cases h5
  all_goals
    simp [opOkB, inB, belB] at h5
    refine ⟨⟨by omega, by omega⟩, ⟨by omega, by omega⟩, ⟨by omega, by omega⟩, ⟨by omega, by omega⟩, by omega, by omega⟩


set_option maxRecDepth 100000 in
set_option maxHeartbeats 1000000 in
theorem implInsText_no (op r a b n : Int) (w : World) (hok : insOkB op r a b n 30 4 = false) :
    Calls Tryd.prog 7 #[insV op r a b n] w fun e w' => e = .returned (.string ⟨#[]⟩) ∧ Below w.heap.size w w' := by
  go_enter Tryd.func7, Tryd.ntmps7
  go_wp2_with (go_at_call 9; refine (implInsOk_any _ _ _ _ _ _ _ _).mono ?_; rintro e w1 ⟨rfl, hb1⟩)
  go_ret
  exact ⟨rfl, ((Below.refl _ _).alloc (Nat.le_refl _) _).trans (hb1.mono (by simp))⟩


set_option maxRecDepth 100000 in
set_option maxHeartbeats 1000000 in
theorem implInsText_1 (r a b n : Int) (w : World) (hE : Env w) (hok : insOkB 1 r a b n 30 4 = true) :
    Calls Tryd.prog 7 #[insV 1 r a b n] w fun e w' => e = .returned (.string (textT 1 r a b n)) ∧ Below w.heap.size w w' := by
  have HE : Hid (Env w) := hE
  obtain ⟨fr, fa, fb, fn, _, _⟩ := ok_fit hok
  have HFT : Hid (Fit r ∧ Fit a ∧ Fit b ∧ Fit n) := ⟨fr, fa, fb, fn⟩
  clear hE fr fa fb fn
  go_enter Tryd.func7, Tryd.ntmps7
  go_wp2_with fail
  refine (implInsOk_any _ _ _ _ _ _ _ _).mono ?_
  rintro e w1 ⟨rfl, hb1⟩
  have c0 : w1.cell? ⟨w.heap.size, 0, none⟩ = some (.int .i64 1) := by rw [hb1.cell (by simp)]; simp
  have c1 : w1.cell? ⟨w.heap.size, 1, none⟩ = some (.int .i64 r) := by rw [hb1.cell (by simp)]; simp
  have c2 : w1.cell? ⟨w.heap.size, 2, none⟩ = some (.int .i64 a) := by rw [hb1.cell (by simp)]; simp
  have c3 : w1.cell? ⟨w.heap.size, 3, none⟩ = some (.int .i64 b) := by rw [hb1.cell (by simp)]; simp
  have c4 : w1.cell? ⟨w.heap.size, 4, none⟩ = some (.int .i64 n) := by rw [hb1.cell (by simp)]; simp
  have HB1 : Hid (Below (w.alloc (.cells #[.int .i64 1, .int .i64 r, .int .i64 a, .int .i64 b, .int .i64 n] 25)).heap.size (w.alloc (.cells #[.int .i64 1, .int .i64 r, .int .i64 a, .int .i64 b, .int .i64 n] 25)) w1) := hb1
  clear hb1
  go_wp2_with fail
  refine (placeOf_set _ _ _ _ _).mono ?_
  rintro e w2 ⟨rfl, hb2⟩
  clear c0 c1 c2 c3 c4
  go_wp2_with fail
  refine (placeText_set r n _ (((env_alloc HE.out _).self HB1.out).self hb2) HFT.out.1 HFT.out.2.2.2).mono ?_
  rintro e w3 ⟨rfl, hb3⟩
  have s1 := HB1.out.size
  have s2 := hb2.size
  rw [World.size_alloc] at s1
  go_wp2
  go_ret
  refine ⟨ret_string ?_, ((((Below.refl _ _).alloc (Nat.le_refl _) _).trans (HB1.out.mono (by simp))).trans (hb2.mono (by omega))).trans (hb3.mono (by omega))⟩
  rfl


set_option maxRecDepth 100000 in
set_option maxHeartbeats 1000000 in
theorem implInsText_2 (r a b n : Int) (w : World) (hE : Env w) (hok : insOkB 2 r a b n 30 4 = true) :
    Calls Tryd.prog 7 #[insV 2 r a b n] w fun e w' => e = .returned (.string (textT 2 r a b n)) ∧ Below w.heap.size w w' := by
  have HE : Hid (Env w) := hE
  obtain ⟨fr, fa, fb, fn, _, _⟩ := ok_fit hok
  have HFT : Hid (Fit r ∧ Fit a ∧ Fit b ∧ Fit n) := ⟨fr, fa, fb, fn⟩
  clear hE fr fa fb fn
  go_enter Tryd.func7, Tryd.ntmps7
  go_wp2_with fail
  refine (implInsOk_any _ _ _ _ _ _ _ _).mono ?_
  rintro e w1 ⟨rfl, hb1⟩
  have c0 : w1.cell? ⟨w.heap.size, 0, none⟩ = some (.int .i64 2) := by rw [hb1.cell (by simp)]; simp
  have c1 : w1.cell? ⟨w.heap.size, 1, none⟩ = some (.int .i64 r) := by rw [hb1.cell (by simp)]; simp
  have c2 : w1.cell? ⟨w.heap.size, 2, none⟩ = some (.int .i64 a) := by rw [hb1.cell (by simp)]; simp
  have c3 : w1.cell? ⟨w.heap.size, 3, none⟩ = some (.int .i64 b) := by rw [hb1.cell (by simp)]; simp
  have c4 : w1.cell? ⟨w.heap.size, 4, none⟩ = some (.int .i64 n) := by rw [hb1.cell (by simp)]; simp
  have HB1 : Hid (Below (w.alloc (.cells #[.int .i64 2, .int .i64 r, .int .i64 a, .int .i64 b, .int .i64 n] 25)).heap.size (w.alloc (.cells #[.int .i64 2, .int .i64 r, .int .i64 a, .int .i64 b, .int .i64 n] 25)) w1) := hb1
  clear hb1
  go_wp2_with fail
  refine (placeOf_calc2 _ _ _ _ _).mono ?_
  rintro e w2 ⟨rfl, hb2⟩
  clear c0 c1 c2 c3 c4
  go_wp2_with fail
  refine (placeText_calc 2 r a b _ (((env_alloc HE.out _).self HB1.out).self hb2) HFT.out.1 HFT.out.2.1 HFT.out.2.2.1 (by omega) (by omega)).mono ?_
  rintro e w3 ⟨rfl, hb3⟩
  have s1 := HB1.out.size
  have s2 := hb2.size
  rw [World.size_alloc] at s1
  go_wp2
  go_ret
  refine ⟨ret_string ?_, ((((Below.refl _ _).alloc (Nat.le_refl _) _).trans (HB1.out.mono (by simp))).trans (hb2.mono (by omega))).trans (hb3.mono (by omega))⟩
  rfl


set_option maxRecDepth 100000 in
set_option maxHeartbeats 1000000 in
theorem implInsText_3 (r a b n : Int) (w : World) (hE : Env w) (hok : insOkB 3 r a b n 30 4 = true) :
    Calls Tryd.prog 7 #[insV 3 r a b n] w fun e w' => e = .returned (.string (textT 3 r a b n)) ∧ Below w.heap.size w w' := by
  have HE : Hid (Env w) := hE
  obtain ⟨fr, fa, fb, fn, _, _⟩ := ok_fit hok
  have HFT : Hid (Fit r ∧ Fit a ∧ Fit b ∧ Fit n) := ⟨fr, fa, fb, fn⟩
  clear hE fr fa fb fn
  go_enter Tryd.func7, Tryd.ntmps7
  go_wp2_with fail
  refine (implInsOk_any _ _ _ _ _ _ _ _).mono ?_
  rintro e w1 ⟨rfl, hb1⟩
  have c0 : w1.cell? ⟨w.heap.size, 0, none⟩ = some (.int .i64 3) := by rw [hb1.cell (by simp)]; simp
  have c1 : w1.cell? ⟨w.heap.size, 1, none⟩ = some (.int .i64 r) := by rw [hb1.cell (by simp)]; simp
  have c2 : w1.cell? ⟨w.heap.size, 2, none⟩ = some (.int .i64 a) := by rw [hb1.cell (by simp)]; simp
  have c3 : w1.cell? ⟨w.heap.size, 3, none⟩ = some (.int .i64 b) := by rw [hb1.cell (by simp)]; simp
  have c4 : w1.cell? ⟨w.heap.size, 4, none⟩ = some (.int .i64 n) := by rw [hb1.cell (by simp)]; simp
  have HB1 : Hid (Below (w.alloc (.cells #[.int .i64 3, .int .i64 r, .int .i64 a, .int .i64 b, .int .i64 n] 25)).heap.size (w.alloc (.cells #[.int .i64 3, .int .i64 r, .int .i64 a, .int .i64 b, .int .i64 n] 25)) w1) := hb1
  clear hb1
  go_wp2_with fail
  refine (placeOf_calc3 _ _ _ _ _).mono ?_
  rintro e w2 ⟨rfl, hb2⟩
  clear c0 c1 c2 c3 c4
  go_wp2_with fail
  refine (placeText_calc 3 r a b _ (((env_alloc HE.out _).self HB1.out).self hb2) HFT.out.1 HFT.out.2.1 HFT.out.2.2.1 (by omega) (by omega)).mono ?_
  rintro e w3 ⟨rfl, hb3⟩
  have s1 := HB1.out.size
  have s2 := hb2.size
  rw [World.size_alloc] at s1
  go_wp2
  go_ret
  refine ⟨ret_string ?_, ((((Below.refl _ _).alloc (Nat.le_refl _) _).trans (HB1.out.mono (by simp))).trans (hb2.mono (by omega))).trans (hb3.mono (by omega))⟩
  rfl


set_option maxRecDepth 100000 in
set_option maxHeartbeats 1000000 in
theorem implInsText_4 (r a b n : Int) (w : World) (hE : Env w) (hok : insOkB 4 r a b n 30 4 = true) :
    Calls Tryd.prog 7 #[insV 4 r a b n] w fun e w' => e = .returned (.string (textT 4 r a b n)) ∧ Below w.heap.size w w' := by
  have HE : Hid (Env w) := hE
  obtain ⟨fr, fa, fb, fn, _, _⟩ := ok_fit hok
  have HFT : Hid (Fit r ∧ Fit a ∧ Fit b ∧ Fit n) := ⟨fr, fa, fb, fn⟩
  clear hE fr fa fb fn
  go_enter Tryd.func7, Tryd.ntmps7
  go_wp2_with fail
  refine (implInsOk_any _ _ _ _ _ _ _ _).mono ?_
  rintro e w1 ⟨rfl, hb1⟩
  have c0 : w1.cell? ⟨w.heap.size, 0, none⟩ = some (.int .i64 4) := by rw [hb1.cell (by simp)]; simp
  have c1 : w1.cell? ⟨w.heap.size, 1, none⟩ = some (.int .i64 r) := by rw [hb1.cell (by simp)]; simp
  have c2 : w1.cell? ⟨w.heap.size, 2, none⟩ = some (.int .i64 a) := by rw [hb1.cell (by simp)]; simp
  have c3 : w1.cell? ⟨w.heap.size, 3, none⟩ = some (.int .i64 b) := by rw [hb1.cell (by simp)]; simp
  have c4 : w1.cell? ⟨w.heap.size, 4, none⟩ = some (.int .i64 n) := by rw [hb1.cell (by simp)]; simp
  have HB1 : Hid (Below (w.alloc (.cells #[.int .i64 4, .int .i64 r, .int .i64 a, .int .i64 b, .int .i64 n] 25)).heap.size (w.alloc (.cells #[.int .i64 4, .int .i64 r, .int .i64 a, .int .i64 b, .int .i64 n] 25)) w1) := hb1
  clear hb1
  go_wp2_with fail
  refine (placeOf_calc4 _ _ _ _ _).mono ?_
  rintro e w2 ⟨rfl, hb2⟩
  clear c0 c1 c2 c3 c4
  go_wp2_with fail
  refine (placeText_calc 4 r a b _ (((env_alloc HE.out _).self HB1.out).self hb2) HFT.out.1 HFT.out.2.1 HFT.out.2.2.1 (by omega) (by omega)).mono ?_
  rintro e w3 ⟨rfl, hb3⟩
  have s1 := HB1.out.size
  have s2 := hb2.size
  rw [World.size_alloc] at s1
  go_wp2
  go_ret
  refine ⟨ret_string ?_, ((((Below.refl _ _).alloc (Nat.le_refl _) _).trans (HB1.out.mono (by simp))).trans (hb2.mono (by omega))).trans (hb3.mono (by omega))⟩
  rfl


set_option maxRecDepth 100000 in
set_option maxHeartbeats 1000000 in
theorem implInsText_5 (r a b n : Int) (w : World) (hE : Env w) (hok : insOkB 5 r a b n 30 4 = true) :
    Calls Tryd.prog 7 #[insV 5 r a b n] w fun e w' => e = .returned (.string (textT 5 r a b n)) ∧ Below w.heap.size w w' := by
  have HE : Hid (Env w) := hE
  obtain ⟨fr, fa, fb, fn, _, _⟩ := ok_fit hok
  have HFT : Hid (Fit r ∧ Fit a ∧ Fit b ∧ Fit n) := ⟨fr, fa, fb, fn⟩
  clear hE fr fa fb fn
  go_enter Tryd.func7, Tryd.ntmps7
  go_wp2_with fail
  refine (implInsOk_any _ _ _ _ _ _ _ _).mono ?_
  rintro e w1 ⟨rfl, hb1⟩
  have c0 : w1.cell? ⟨w.heap.size, 0, none⟩ = some (.int .i64 5) := by rw [hb1.cell (by simp)]; simp
  have c1 : w1.cell? ⟨w.heap.size, 1, none⟩ = some (.int .i64 r) := by rw [hb1.cell (by simp)]; simp
  have c2 : w1.cell? ⟨w.heap.size, 2, none⟩ = some (.int .i64 a) := by rw [hb1.cell (by simp)]; simp
  have c3 : w1.cell? ⟨w.heap.size, 3, none⟩ = some (.int .i64 b) := by rw [hb1.cell (by simp)]; simp
  have c4 : w1.cell? ⟨w.heap.size, 4, none⟩ = some (.int .i64 n) := by rw [hb1.cell (by simp)]; simp
  have HB1 : Hid (Below (w.alloc (.cells #[.int .i64 5, .int .i64 r, .int .i64 a, .int .i64 b, .int .i64 n] 25)).heap.size (w.alloc (.cells #[.int .i64 5, .int .i64 r, .int .i64 a, .int .i64 b, .int .i64 n] 25)) w1) := hb1
  clear hb1
  go_wp2_with fail
  refine (placeOf_calc5 _ _ _ _ _).mono ?_
  rintro e w2 ⟨rfl, hb2⟩
  clear c0 c1 c2 c3 c4
  go_wp2_with fail
  refine (placeText_calc 5 r a b _ (((env_alloc HE.out _).self HB1.out).self hb2) HFT.out.1 HFT.out.2.1 HFT.out.2.2.1 (by omega) (by omega)).mono ?_
  rintro e w3 ⟨rfl, hb3⟩
  have s1 := HB1.out.size
  have s2 := hb2.size
  rw [World.size_alloc] at s1
  go_wp2
  go_ret
  refine ⟨ret_string ?_, ((((Below.refl _ _).alloc (Nat.le_refl _) _).trans (HB1.out.mono (by simp))).trans (hb2.mono (by omega))).trans (hb3.mono (by omega))⟩
  rfl


set_option maxRecDepth 100000 in
set_option maxHeartbeats 1000000 in
theorem implInsText_6 (r a b n : Int) (w : World) (hE : Env w) (hok : insOkB 6 r a b n 30 4 = true) :
    Calls Tryd.prog 7 #[insV 6 r a b n] w fun e w' => e = .returned (.string (textT 6 r a b n)) ∧ Below w.heap.size w w' := by
  have HE : Hid (Env w) := hE
  obtain ⟨fr, fa, fb, fn, _, _⟩ := ok_fit hok
  have HFT : Hid (Fit r ∧ Fit a ∧ Fit b ∧ Fit n) := ⟨fr, fa, fb, fn⟩
  clear hE fr fa fb fn
  go_enter Tryd.func7, Tryd.ntmps7
  go_wp2_with fail
  refine (implInsOk_any _ _ _ _ _ _ _ _).mono ?_
  rintro e w1 ⟨rfl, hb1⟩
  have c0 : w1.cell? ⟨w.heap.size, 0, none⟩ = some (.int .i64 6) := by rw [hb1.cell (by simp)]; simp
  have c1 : w1.cell? ⟨w.heap.size, 1, none⟩ = some (.int .i64 r) := by rw [hb1.cell (by simp)]; simp
  have c2 : w1.cell? ⟨w.heap.size, 2, none⟩ = some (.int .i64 a) := by rw [hb1.cell (by simp)]; simp
  have c3 : w1.cell? ⟨w.heap.size, 3, none⟩ = some (.int .i64 b) := by rw [hb1.cell (by simp)]; simp
  have c4 : w1.cell? ⟨w.heap.size, 4, none⟩ = some (.int .i64 n) := by rw [hb1.cell (by simp)]; simp
  have HB1 : Hid (Below (w.alloc (.cells #[.int .i64 6, .int .i64 r, .int .i64 a, .int .i64 b, .int .i64 n] 25)).heap.size (w.alloc (.cells #[.int .i64 6, .int .i64 r, .int .i64 a, .int .i64 b, .int .i64 n] 25)) w1) := hb1
  clear hb1
  go_wp2_with fail
  refine (placeOf_send _ _ _ _ _).mono ?_
  rintro e w2 ⟨rfl, hb2⟩
  clear c0 c1 c2 c3 c4
  go_wp2_with fail
  refine (placeText_send n a _ (((env_alloc HE.out _).self HB1.out).self hb2) HFT.out.2.2.2 HFT.out.2.1).mono ?_
  rintro e w3 ⟨rfl, hb3⟩
  have s1 := HB1.out.size
  have s2 := hb2.size
  rw [World.size_alloc] at s1
  go_wp2
  go_ret
  refine ⟨ret_string ?_, ((((Below.refl _ _).alloc (Nat.le_refl _) _).trans (HB1.out.mono (by simp))).trans (hb2.mono (by omega))).trans (hb3.mono (by omega))⟩
  rfl


set_option maxRecDepth 100000 in
set_option maxHeartbeats 1000000 in
theorem implInsText_7_any (r a b n : Int) (w : World) (hE : Env w) (hok : insOkB 7 r a b n 30 4 = true) (t9 : (n == 9) = true) :
    Calls Tryd.prog 7 #[insV 7 r a b n] w fun e w' => e = .returned (.string (textT 7 r a b n)) ∧ Below w.heap.size w w' := by
  have HE : Hid (Env w) := hE
  obtain ⟨fr, fa, fb, fn, _, _⟩ := ok_fit hok
  have HFT : Hid (Fit r ∧ Fit a ∧ Fit b ∧ Fit n) := ⟨fr, fa, fb, fn⟩
  clear hE fr fa fb fn
  go_enter Tryd.func7, Tryd.ntmps7
  go_wp2_with fail
  refine (implInsOk_any _ _ _ _ _ _ _ _).mono ?_
  rintro e w1 ⟨rfl, hb1⟩
  have c0 : w1.cell? ⟨w.heap.size, 0, none⟩ = some (.int .i64 7) := by rw [hb1.cell (by simp)]; simp
  have c1 : w1.cell? ⟨w.heap.size, 1, none⟩ = some (.int .i64 r) := by rw [hb1.cell (by simp)]; simp
  have c2 : w1.cell? ⟨w.heap.size, 2, none⟩ = some (.int .i64 a) := by rw [hb1.cell (by simp)]; simp
  have c3 : w1.cell? ⟨w.heap.size, 3, none⟩ = some (.int .i64 b) := by rw [hb1.cell (by simp)]; simp
  have c4 : w1.cell? ⟨w.heap.size, 4, none⟩ = some (.int .i64 n) := by rw [hb1.cell (by simp)]; simp
  have HB1 : Hid (Below (w.alloc (.cells #[.int .i64 7, .int .i64 r, .int .i64 a, .int .i64 b, .int .i64 n] 25)).heap.size (w.alloc (.cells #[.int .i64 7, .int .i64 r, .int .i64 a, .int .i64 b, .int .i64 n] 25)) w1) := hb1
  clear hb1
  go_wp2_with fail
  refine (placeOf_take _ _ _ _ _).mono ?_
  rintro e w2 ⟨rfl, hb2⟩
  clear c0 c1 c2 c3 c4
  go_wp2_with fail
  refine (placeText_take_any r n _ (((env_alloc HE.out _).self HB1.out).self hb2) HFT.out.1 t9).mono ?_
  rintro e w3 ⟨rfl, hb3⟩
  have s1 := HB1.out.size
  have s2 := hb2.size
  rw [World.size_alloc] at s1
  go_wp2
  go_ret
  refine ⟨ret_string ?_, ((((Below.refl _ _).alloc (Nat.le_refl _) _).trans (HB1.out.mono (by simp))).trans (hb2.mono (by omega))).trans (hb3.mono (by omega))⟩
  simp only [beq_iff_eq] at t9
  simp [textT, t9]

set_option maxRecDepth 100000 in
set_option maxHeartbeats 1000000 in
theorem implInsText_7_num (r a b n : Int) (w : World) (hE : Env w) (hok : insOkB 7 r a b n 30 4 = true) (t9 : (n == 9) = false) :
    Calls Tryd.prog 7 #[insV 7 r a b n] w fun e w' => e = .returned (.string (textT 7 r a b n)) ∧ Below w.heap.size w w' := by
  have HE : Hid (Env w) := hE
  obtain ⟨fr, fa, fb, fn, _, _⟩ := ok_fit hok
  have HFT : Hid (Fit r ∧ Fit a ∧ Fit b ∧ Fit n) := ⟨fr, fa, fb, fn⟩
  clear hE fr fa fb fn
  go_enter Tryd.func7, Tryd.ntmps7
  go_wp2_with fail
  refine (implInsOk_any _ _ _ _ _ _ _ _).mono ?_
  rintro e w1 ⟨rfl, hb1⟩
  have c0 : w1.cell? ⟨w.heap.size, 0, none⟩ = some (.int .i64 7) := by rw [hb1.cell (by simp)]; simp
  have c1 : w1.cell? ⟨w.heap.size, 1, none⟩ = some (.int .i64 r) := by rw [hb1.cell (by simp)]; simp
  have c2 : w1.cell? ⟨w.heap.size, 2, none⟩ = some (.int .i64 a) := by rw [hb1.cell (by simp)]; simp
  have c3 : w1.cell? ⟨w.heap.size, 3, none⟩ = some (.int .i64 b) := by rw [hb1.cell (by simp)]; simp
  have c4 : w1.cell? ⟨w.heap.size, 4, none⟩ = some (.int .i64 n) := by rw [hb1.cell (by simp)]; simp
  have HB1 : Hid (Below (w.alloc (.cells #[.int .i64 7, .int .i64 r, .int .i64 a, .int .i64 b, .int .i64 n] 25)).heap.size (w.alloc (.cells #[.int .i64 7, .int .i64 r, .int .i64 a, .int .i64 b, .int .i64 n] 25)) w1) := hb1
  clear hb1
  go_wp2_with fail
  refine (placeOf_take _ _ _ _ _).mono ?_
  rintro e w2 ⟨rfl, hb2⟩
  clear c0 c1 c2 c3 c4
  go_wp2_with fail
  refine (placeText_take_num r n _ (((env_alloc HE.out _).self HB1.out).self hb2) HFT.out.1 HFT.out.2.2.2 t9).mono ?_
  rintro e w3 ⟨rfl, hb3⟩
  have s1 := HB1.out.size
  have s2 := hb2.size
  rw [World.size_alloc] at s1
  go_wp2
  go_ret
  refine ⟨ret_string ?_, ((((Below.refl _ _).alloc (Nat.le_refl _) _).trans (HB1.out.mono (by simp))).trans (hb2.mono (by omega))).trans (hb3.mono (by omega))⟩
  simp only [beq_eq_false_iff_ne] at t9
  simp [textT, t9]


set_option maxRecDepth 100000 in
set_option maxHeartbeats 1000000 in
theorem implInsText_8 (r a b n : Int) (w : World) (hE : Env w) (hok : insOkB 8 r a b n 30 4 = true) :
    Calls Tryd.prog 7 #[insV 8 r a b n] w fun e w' => e = .returned (.string (textT 8 r a b n)) ∧ Below w.heap.size w w' := by
  have HE : Hid (Env w) := hE
  obtain ⟨fr, fa, fb, fn, _, _⟩ := ok_fit hok
  have HFT : Hid (Fit r ∧ Fit a ∧ Fit b ∧ Fit n) := ⟨fr, fa, fb, fn⟩
  clear hE fr fa fb fn
  go_enter Tryd.func7, Tryd.ntmps7
  go_wp2_with fail
  refine (implInsOk_any _ _ _ _ _ _ _ _).mono ?_
  rintro e w1 ⟨rfl, hb1⟩
  have c0 : w1.cell? ⟨w.heap.size, 0, none⟩ = some (.int .i64 8) := by rw [hb1.cell (by simp)]; simp
  have c1 : w1.cell? ⟨w.heap.size, 1, none⟩ = some (.int .i64 r) := by rw [hb1.cell (by simp)]; simp
  have c2 : w1.cell? ⟨w.heap.size, 2, none⟩ = some (.int .i64 a) := by rw [hb1.cell (by simp)]; simp
  have c3 : w1.cell? ⟨w.heap.size, 3, none⟩ = some (.int .i64 b) := by rw [hb1.cell (by simp)]; simp
  have c4 : w1.cell? ⟨w.heap.size, 4, none⟩ = some (.int .i64 n) := by rw [hb1.cell (by simp)]; simp
  have HB1 : Hid (Below (w.alloc (.cells #[.int .i64 8, .int .i64 r, .int .i64 a, .int .i64 b, .int .i64 n] 25)).heap.size (w.alloc (.cells #[.int .i64 8, .int .i64 r, .int .i64 a, .int .i64 b, .int .i64 n] 25)) w1) := hb1
  clear hb1
  go_wp2_with fail
  refine (placeOf_print _ _ _ _ _).mono ?_
  rintro e w2 ⟨rfl, hb2⟩
  clear c0 c1 c2 c3 c4
  go_wp2_with fail
  refine (placeText_print a _ (((env_alloc HE.out _).self HB1.out).self hb2) HFT.out.2.1).mono ?_
  rintro e w3 ⟨rfl, hb3⟩
  have s1 := HB1.out.size
  have s2 := hb2.size
  rw [World.size_alloc] at s1
  go_wp2
  go_ret
  refine ⟨ret_string ?_, ((((Below.refl _ _).alloc (Nat.le_refl _) _).trans (HB1.out.mono (by simp))).trans (hb2.mono (by omega))).trans (hb3.mono (by omega))⟩
  rfl


set_option maxRecDepth 100000 in
set_option maxHeartbeats 1000000 in
theorem implInsText_9 (r a b n : Int) (w : World) (hE : Env w) (hok : insOkB 9 r a b n 30 4 = true) :
    Calls Tryd.prog 7 #[insV 9 r a b n] w fun e w' => e = .returned (.string (textT 9 r a b n)) ∧ Below w.heap.size w w' := by
  have HE : Hid (Env w) := hE
  obtain ⟨fr, fa, fb, fn, _, _⟩ := ok_fit hok
  have HFT : Hid (Fit r ∧ Fit a ∧ Fit b ∧ Fit n) := ⟨fr, fa, fb, fn⟩
  clear hE fr fa fb fn
  go_enter Tryd.func7, Tryd.ntmps7
  go_wp2_with fail
  refine (implInsOk_any _ _ _ _ _ _ _ _).mono ?_
  rintro e w1 ⟨rfl, hb1⟩
  have c0 : w1.cell? ⟨w.heap.size, 0, none⟩ = some (.int .i64 9) := by rw [hb1.cell (by simp)]; simp
  have c1 : w1.cell? ⟨w.heap.size, 1, none⟩ = some (.int .i64 r) := by rw [hb1.cell (by simp)]; simp
  have c2 : w1.cell? ⟨w.heap.size, 2, none⟩ = some (.int .i64 a) := by rw [hb1.cell (by simp)]; simp
  have c3 : w1.cell? ⟨w.heap.size, 3, none⟩ = some (.int .i64 b) := by rw [hb1.cell (by simp)]; simp
  have c4 : w1.cell? ⟨w.heap.size, 4, none⟩ = some (.int .i64 n) := by rw [hb1.cell (by simp)]; simp
  have HB1 : Hid (Below (w.alloc (.cells #[.int .i64 9, .int .i64 r, .int .i64 a, .int .i64 b, .int .i64 n] 25)).heap.size (w.alloc (.cells #[.int .i64 9, .int .i64 r, .int .i64 a, .int .i64 b, .int .i64 n] 25)) w1) := hb1
  clear hb1
  go_wp2_with fail
  refine (placeOf_jump _ _ _ _ _).mono ?_
  rintro e w2 ⟨rfl, hb2⟩
  clear c0 c1 c2 c3 c4
  go_wp2_with fail
  refine (placeText_jump n _ (((env_alloc HE.out _).self HB1.out).self hb2) HFT.out.2.2.2).mono ?_
  rintro e w3 ⟨rfl, hb3⟩
  have s1 := HB1.out.size
  have s2 := hb2.size
  rw [World.size_alloc] at s1
  go_wp2
  go_ret
  refine ⟨ret_string ?_, ((((Below.refl _ _).alloc (Nat.le_refl _) _).trans (HB1.out.mono (by simp))).trans (hb2.mono (by omega))).trans (hb3.mono (by omega))⟩
  rfl


set_option maxRecDepth 100000 in
set_option maxHeartbeats 1000000 in
theorem implInsText_10 (r a b n : Int) (w : World) (hE : Env w) (hok : insOkB 10 r a b n 30 4 = true) :
    Calls Tryd.prog 7 #[insV 10 r a b n] w fun e w' => e = .returned (.string (textT 10 r a b n)) ∧ Below w.heap.size w w' := by
  have HE : Hid (Env w) := hE
  obtain ⟨fr, fa, fb, fn, _, _⟩ := ok_fit hok
  have HFT : Hid (Fit r ∧ Fit a ∧ Fit b ∧ Fit n) := ⟨fr, fa, fb, fn⟩
  clear hE fr fa fb fn
  go_enter Tryd.func7, Tryd.ntmps7
  go_wp2_with fail
  refine (implInsOk_any _ _ _ _ _ _ _ _).mono ?_
  rintro e w1 ⟨rfl, hb1⟩
  have c0 : w1.cell? ⟨w.heap.size, 0, none⟩ = some (.int .i64 10) := by rw [hb1.cell (by simp)]; simp
  have c1 : w1.cell? ⟨w.heap.size, 1, none⟩ = some (.int .i64 r) := by rw [hb1.cell (by simp)]; simp
  have c2 : w1.cell? ⟨w.heap.size, 2, none⟩ = some (.int .i64 a) := by rw [hb1.cell (by simp)]; simp
  have c3 : w1.cell? ⟨w.heap.size, 3, none⟩ = some (.int .i64 b) := by rw [hb1.cell (by simp)]; simp
  have c4 : w1.cell? ⟨w.heap.size, 4, none⟩ = some (.int .i64 n) := by rw [hb1.cell (by simp)]; simp
  have HB1 : Hid (Below (w.alloc (.cells #[.int .i64 10, .int .i64 r, .int .i64 a, .int .i64 b, .int .i64 n] 25)).heap.size (w.alloc (.cells #[.int .i64 10, .int .i64 r, .int .i64 a, .int .i64 b, .int .i64 n] 25)) w1) := hb1
  clear hb1
  go_wp2_with fail
  refine (placeOf_zero _ _ _ _ _).mono ?_
  rintro e w2 ⟨rfl, hb2⟩
  clear c0 c1 c2 c3 c4
  go_wp2_with fail
  refine (placeText_zero a n _ (((env_alloc HE.out _).self HB1.out).self hb2) HFT.out.2.1 HFT.out.2.2.2).mono ?_
  rintro e w3 ⟨rfl, hb3⟩
  have s1 := HB1.out.size
  have s2 := hb2.size
  rw [World.size_alloc] at s1
  go_wp2
  go_ret
  refine ⟨ret_string ?_, ((((Below.refl _ _).alloc (Nat.le_refl _) _).trans (HB1.out.mono (by simp))).trans (hb2.mono (by omega))).trans (hb3.mono (by omega))⟩
  rfl


set_option maxRecDepth 100000 in
set_option maxHeartbeats 1000000 in
theorem implInsText_11 (r a b n : Int) (w : World) (hE : Env w) (hok : insOkB 11 r a b n 30 4 = true) :
    Calls Tryd.prog 7 #[insV 11 r a b n] w fun e w' => e = .returned (.string (textT 11 r a b n)) ∧ Below w.heap.size w w' := by
  have HE : Hid (Env w) := hE
  obtain ⟨fr, fa, fb, fn, _, _⟩ := ok_fit hok
  have HFT : Hid (Fit r ∧ Fit a ∧ Fit b ∧ Fit n) := ⟨fr, fa, fb, fn⟩
  clear hE fr fa fb fn
  go_enter Tryd.func7, Tryd.ntmps7
  go_wp2_with fail
  refine (implInsOk_any _ _ _ _ _ _ _ _).mono ?_
  rintro e w1 ⟨rfl, hb1⟩
  have c0 : w1.cell? ⟨w.heap.size, 0, none⟩ = some (.int .i64 11) := by rw [hb1.cell (by simp)]; simp
  have c1 : w1.cell? ⟨w.heap.size, 1, none⟩ = some (.int .i64 r) := by rw [hb1.cell (by simp)]; simp
  have c2 : w1.cell? ⟨w.heap.size, 2, none⟩ = some (.int .i64 a) := by rw [hb1.cell (by simp)]; simp
  have c3 : w1.cell? ⟨w.heap.size, 3, none⟩ = some (.int .i64 b) := by rw [hb1.cell (by simp)]; simp
  have c4 : w1.cell? ⟨w.heap.size, 4, none⟩ = some (.int .i64 n) := by rw [hb1.cell (by simp)]; simp
  have HB1 : Hid (Below (w.alloc (.cells #[.int .i64 11, .int .i64 r, .int .i64 a, .int .i64 b, .int .i64 n] 25)).heap.size (w.alloc (.cells #[.int .i64 11, .int .i64 r, .int .i64 a, .int .i64 b, .int .i64 n] 25)) w1) := hb1
  clear hb1
  go_wp2_with fail
  refine (placeOf_end _ _ _ _ _).mono ?_
  rintro e w2 ⟨rfl, hb2⟩
  clear c0 c1 c2 c3 c4
  go_wp2_with fail
  refine (placeText_end _ (((env_alloc HE.out _).self HB1.out).self hb2)).mono ?_
  rintro e w3 ⟨rfl, hb3⟩
  have s1 := HB1.out.size
  have s2 := hb2.size
  rw [World.size_alloc] at s1
  go_wp2
  go_ret
  refine ⟨ret_string ?_, ((((Below.refl _ _).alloc (Nat.le_refl _) _).trans (HB1.out.mono (by simp))).trans (hb2.mono (by omega))).trans (hb3.mono (by omega))⟩
  rfl


theorem implInsText_any (op r a b n : Int) (w : World) (hE : Env w) :
    Calls Tryd.prog 7 #[insV op r a b n] w fun e w' => e = .returned (.string (insTextB op r a b n)) ∧ Below w.heap.size w w' := by
  rcases Bool.eq_false_or_eq_true (insOkB op r a b n 30 4) with h | h
  · rw [insTextB, if_pos h]
    rcases opCases op with g | rfl | rfl | rfl | rfl | rfl | rfl | rfl | rfl | rfl | rfl | rfl
    · exact absurd (ok_fit h).2.2.2.2 (by omega)
    · exact implInsText_1 r a b n w hE h
    · exact implInsText_2 r a b n w hE h
    · exact implInsText_3 r a b n w hE h
    · exact implInsText_4 r a b n w hE h
    · exact implInsText_5 r a b n w hE h
    · exact implInsText_6 r a b n w hE h
    · rcases Bool.eq_false_or_eq_true (n == 9) with t | t
      · exact implInsText_7_any r a b n w hE h t
      · exact implInsText_7_num r a b n w hE h t
    · exact implInsText_8 r a b n w hE h
    · exact implInsText_9 r a b n w hE h
    · exact implInsText_10 r a b n w hE h
    · exact implInsText_11 r a b n w hE h
  · rw [insTextB, if_neg (by rw [h]; decide)]
    exact implInsText_no op r a b n w h


end Go.Proofs.YtdlfdelngolkgaaDoor
