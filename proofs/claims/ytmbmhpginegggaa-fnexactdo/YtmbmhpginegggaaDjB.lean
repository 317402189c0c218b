/- The law of Do, walked, where all is small enough. -/
import Derived.Test.YtmbmhpginegggaaDjL
import Derived.Test.YtmbmhpginegggaaDiJ
import Derived.Test.YtmbmhpginegggaaNxLaw
import Derived.Deep.RegionHeld3
namespace Go.Proofs.Ytmbmhpginegggaa
open Go.ChangeShapes Go.WideShapes Go.ChangeAt Go.RowKit

set_option maxRecDepth 100000 in
set_option maxHeartbeats 16000000 in
theorem doLaw_small (a0 : Option Addr) (len cap : Nat) (g : Nat → I5) (p code : Int) (ra oa : Option Addr) (rc oc : Nat) (rs os : List Int) (ek eq ev : Int) (w : World) (hs : (len : Int) + rs.length + os.length ≤ 1048576) (HT : Hid (CopiesF w a0 len cap g)) (h1 : Sl w ra rs) (h2 : Sl w oa os) :
    Calls Try.prog 6 #[.slice a0 len cap, stV p ra rs.length rc oa os.length oc code, evV ek eq ev] w fun e w' => e = .returned (.bool true) ∧ Below w.heap.size w w' := by
  have hm : len ≤ maxLen := by unfold maxLen; omega
  have HM : Hid (len ≤ maxLen) := hm
  have hl : len ≤ 1048576 := by omega
  have hr : rs.length ≤ 1048576 := by omega
  have ho : os.length ≤ 1048576 := by omega
  have n1 : ¬ (1048576 - (len : Int) < 0) := by omega
  have n2 : ¬ (1048576 - (len : Int) - rs.length - os.length < 0) := by omega
  have n3 : (rs.length : Int) + os.length ≤ 1048576 - len := by omega
  have H1 : Hid (Sl w ra rs) := h1
  have H2 : Hid (Sl w oa os) := h2
  clear h1 h2 hm
  generalize hK : doS g len p rs os code ek eq ev = S
  generalize hP : doB g len p rs os code ek eq ev = T
  have HN : Hid (doS g len p rs os code ek eq ev = S ∧ doB g len p rs os code ek eq ev = T) := ⟨hK, hP⟩
  clear hK hP
  go_enter Try.func6, Try.ntmps6
  go_wp2_with fail
  refine (szInsS_small _ _ _ _ hl).mono ?_
  rintro e w0 ⟨rfl, rfl⟩
  go_wp2_with fail
  refine (szState_small _ _ _ _ _ _ _ _ _ _ n3 (by omega)).mono ?_
  rintro e w1 ⟨rfl, b1⟩
  have X1 : Hid (Dx w w1 p code ra rs.length rc oa os.length oc ek eq ev) := (Dx.new w _ _ _ _ _ _ _ _ _ _ _ _ _).step b1
  clear b1
  obtain ⟨c0, c1, c2, c3⟩ := X1.out.2.1
  obtain ⟨e0, e1, e2⟩ := X1.out.2.2
  have g1 := X1.out.lt
  go_wp2_with fail
  have g0 : w.heap.size < w1.heap.size := by omega
  have d1 : w1.heap.size ≠ w.heap.size := by omega
  have d2 : w1.heap.size ≠ w.heap.size + 1 := by omega
  go_cut [8, 9] from 29 to 38 (fun s t wx => ∃ N : Nat, s = .pointer (some ⟨N, 0, none⟩) ∧ t = .bool T ∧ Hid (Dx w wx p code ra rs.length rc oa os.length oc ek eq ev ∧ Told wx w.heap.size N S))
  case first =>
    go_region_held3 (fun w' => w'.cell? ⟨w.heap.size, 0, none⟩ = some (.int .i64 p) ∧ w'.cell? ⟨w.heap.size, 1, none⟩ = some (.slice ra rs.length rc) ∧ w'.cell? ⟨w.heap.size, 2, none⟩ = some (.slice oa os.length oc) ∧ w'.cell? ⟨w.heap.size, 3, none⟩ = some (.int .i64 code) ∧ w'.cell? ⟨w.heap.size + 1, 0, none⟩ = some (.int .i64 ek) ∧ w'.cell? ⟨w.heap.size + 1, 1, none⟩ = some (.int .i64 eq) ∧ w'.cell? ⟨w.heap.size + 1, 2, none⟩ = some (.int .i64 ev)) (go_keep)
      (first
        | (go_at_call 25; refine (HT.out _ (by have := X1.out.1; go_grown)).mono ?_; rintro e w2 ⟨rfl, i2, z2, b2, -⟩; have q2 : Below w1.heap.size w1 w2 := below_up (by go_grown) b2 (by simp); have X2 : Hid (Dx w w2 p code ra rs.length rc oa os.length oc ek eq ev) := X1.out.step q2; obtain ⟨m0, m1, m2, m3⟩ := X2.out.2.1; obtain ⟨m4, m5, m6⟩ := X2.out.2.2; have k12 : w1.heap.size < w2.heap.size := Nat.lt_of_le_of_lt (by simp) z2; (try simp only [World.size_alloc, World.size_drew] at i2 z2); have I2 : Hid (_ ∧ _) := ⟨z2, i2⟩; obtain ⟨hc2, hf2⟩ := bcell b2; have g2 := X2.out.lt; have d21 : w2.heap.size ≠ w.heap.size := (by omega); have d22 : w2.heap.size ≠ w.heap.size + 1 := (by omega); have k2 := b2.size; (try simp only [World.size_alloc, World.size_drew, Nat.add_one_le_iff] at k2); clear i2 z2 b2 q2)
        | (go_at_call 26; refine (toState_any _ _ _ _ _ _ rs os _ hr ho (H1.out.below (by have := X2.out.1; go_grown)) (H2.out.below (by have := X2.out.1; go_grown))).mono ?_; rintro e w3 ⟨v3, rfl, o3, b3⟩; obtain ⟨ra3, rc3, oa3, oc3, rfl, s3, s3'⟩ := o3.read; have q3 : Below w2.heap.size w2 w3 := below_up (by go_grown) b3 (by simp); have X3 : Hid (Dx w w3 p code ra rs.length rc oa os.length oc ek eq ev) := X2.out.step q3; obtain ⟨l0, l1, l2, l3⟩ := X3.out.2.1; obtain ⟨l4, l5, l6⟩ := X3.out.2.2; have I3 : Hid (_ ∧ _) := ⟨Nat.lt_of_lt_of_le I2.out.1 q3.size, I2.out.2.below q3 I2.out.1⟩; have S3 : Hid (Sl w3 ra3 rs ∧ Sl w3 oa3 os) := ⟨s3, s3'⟩; obtain ⟨hc3, hf3⟩ := bcell b3; have g3 := X3.out.lt; have d31 : w3.heap.size ≠ w.heap.size := (by omega); have d32 : w3.heap.size ≠ w.heap.size + 1 := (by omega); have k3 := b3.size; (try simp only [World.size_alloc, Nat.add_one_le_iff] at k3); have k13 : w1.heap.size < w3.heap.size := (by omega); clear o3 b3 q3 s3 s3')
        | (go_at_call 30; refine (toEvent_any _ _ _ _).mono ?_; rintro e w4 ⟨rfl, b4⟩; have q4 : Below w3.heap.size w3 w4 := below_up (by go_grown) b4 (by simp); have X4 : Hid (Dx w w4 p code ra rs.length rc oa os.length oc ek eq ev) := X3.out.step q4; obtain ⟨u0, u1, u2, u3⟩ := X4.out.2.1; obtain ⟨u4, u5, u6⟩ := X4.out.2.2; have I4 : Hid (_ ∧ _) := ⟨Nat.lt_of_lt_of_le I3.out.1 q4.size, I3.out.2.below q4 I3.out.1⟩; have S4 : Hid (Sl w4 ra3 rs ∧ Sl w4 oa3 os) := ⟨S3.out.1.below q4, S3.out.2.below q4⟩; obtain ⟨hc4, hf4⟩ := bcell b4; have g4 := X4.out.lt; have d41 : w4.heap.size ≠ w.heap.size := (by omega); have d42 : w4.heap.size ≠ w.heap.size + 1 := (by omega); have k4 := b4.size; (try simp only [World.size_alloc, Nat.add_one_le_iff] at k4); have k14 : w1.heap.size < w4.heap.size := (by omega); have k24 : w2.heap.size < w3.heap.size → w2.heap.size < w4.heap.size := (fun h => by omega); clear b4 q4)
        | (go_at_call 10; refine (specDo_any _ 0 len _ g p code ra3 oa3 rc3 oc3 rs os ek eq ev _ HM.out (by first | exact I4.out.1 | (rw [World.size_alloc]; exact Nat.lt_succ_of_lt I4.out.1)) (by first | exact I4.out.2 | exact I4.out.2.below ((Below.refl _ _).alloc (Nat.le_refl _) _) I4.out.1) hr ho (by first | exact S4.out.1 | exact S4.out.1.below ((Below.refl _ _).alloc (Nat.le_refl _) _)) (by first | exact S4.out.2 | exact S4.out.2.below ((Below.refl _ _).alloc (Nat.le_refl _) _))).mono ?_; rintro e w5 hd; rw [HN.out.1, HN.out.2] at hd; obtain ⟨v5, rfl, o5, b5⟩ := hd; obtain ⟨ra5, rc5, oa5, oc5, rfl, s5, s5'⟩ := o5.read; have q5 : Below w4.heap.size w4 w5 := below_up (by go_grown) b5 (by simp); have X5 : Hid (Dx w w5 p code ra rs.length rc oa os.length oc ek eq ev) := X4.out.step q5; obtain ⟨y0, y1, y2, y3⟩ := X5.out.2.1; obtain ⟨y4, y5, y6⟩ := X5.out.2.2; (try simp only [World.size_alloc] at o5); have O5 : Hid (StOwn w5 _ (stV S.p ra5 S.rs.length rc5 oa5 S.os.length oc5 S.c) S.p S.rs S.os S.c) := o5; obtain ⟨hc5, hf5⟩ := bcell b5; have g5 := X5.out.lt; have k5 := b5.size; (try simp only [World.size_alloc, Nat.add_one_le_iff] at k5); clear o5 b5 q5 s5 s5'))
    all_goals
      go_wp2_with fail
      go_meet
      case rel =>
        first
        | (refine ⟨w5.heap.size, by with_reducible rfl, rfl, ?_⟩
           exact ⟨X5.out.step (below_alloc _ _), Told.of_alloc O5.out (by omega) (by omega) _⟩)
        | (refine ⟨w4.heap.size, by with_reducible rfl, rfl, ?_⟩
           exact ⟨X5.out.put g4 _ _ _ _, Told.of_put (z0 := .int .i64 0) (z1 := .slice none 0 0) (z2 := .slice none 0 0) (z3 := .int .i64 0) O5.out (by omega) (by omega) (by omega) ⟨by rw [hc5 _ _ (by simp)]; simp, by rw [hc5 _ _ (by simp)]; simp, by rw [hc5 _ _ (by simp)]; simp, by rw [hc5 _ _ (by simp)]; simp⟩⟩)
        | (refine ⟨w3.heap.size, by with_reducible rfl, rfl, ?_⟩
           exact ⟨X5.out.put g3 _ _ _ _, Told.of_put (z0 := .int .i64 0) (z1 := .slice none 0 0) (z2 := .slice none 0 0) (z3 := .int .i64 0) O5.out (by omega) (by omega) (by omega) ⟨by rw [hc5 _ _ k4, hc4 _ _ (by simp)]; simp, by rw [hc5 _ _ k4, hc4 _ _ (by simp)]; simp, by rw [hc5 _ _ k4, hc4 _ _ (by simp)]; simp, by rw [hc5 _ _ k4, hc4 _ _ (by simp)]; simp⟩⟩)
        | (refine ⟨w2.heap.size, by with_reducible rfl, rfl, ?_⟩
           exact ⟨X5.out.put g2 _ _ _ _, Told.of_put (z0 := .int .i64 0) (z1 := .slice none 0 0) (z2 := .slice none 0 0) (z3 := .int .i64 0) O5.out (by omega) (by omega) (by omega) ⟨by rw [hc5 _ _ (k24 k3), hc4 _ _ k3, hc3 _ _ (by simp)]; simp, by rw [hc5 _ _ (k24 k3), hc4 _ _ k3, hc3 _ _ (by simp)]; simp, by rw [hc5 _ _ (k24 k3), hc4 _ _ k3, hc3 _ _ (by simp)]; simp, by rw [hc5 _ _ (k24 k3), hc4 _ _ k3, hc3 _ _ (by simp)]; simp⟩⟩)
        | (refine ⟨w1.heap.size, by with_reducible rfl, rfl, ?_⟩
           exact ⟨X5.out.put g1 _ _ _ _, Told.of_put (z0 := .int .i64 0) (z1 := .slice none 0 0) (z2 := .slice none 0 0) (z3 := .int .i64 0) O5.out (by omega) (by omega) (by omega) ⟨by rw [hc5 _ _ k14, hc4 _ _ k13, hc3 _ _ k12, hc2 _ _ (by simp)]; simp, by rw [hc5 _ _ k14, hc4 _ _ k13, hc3 _ _ k12, hc2 _ _ (by simp)]; simp, by rw [hc5 _ _ k14, hc4 _ _ k13, hc3 _ _ k12, hc2 _ _ (by simp)]; simp, by rw [hc5 _ _ k14, hc4 _ _ k13, hc3 _ _ k12, hc2 _ _ (by simp)]; simp⟩⟩)
  case rest =>
    obtain ⟨N, rfl, rfl, HX⟩ := hcut
    have XC : Hid (Dx w wc p code ra rs.length rc oa os.length oc ek eq ev) := HX.out.1
    obtain ⟨rw0, cw0, ow0, dw0, TW⟩ := HX.out.2.tl
    have WC : Hid (Tl wc w.heap.size wc.heap.size N S.p S.c rw0 S.rs.length cw0 ow0 S.os.length dw0 S.rs S.os) := TW
    have HSL : Hid (S.rs.length ≤ 1048576 ∧ S.os.length ≤ 1048576) := by
      have := doS_len g len p rs os code ek eq ev hr ho
      rw [HN.out.1] at this
      exact this
    have ZN : Hid (w.heap.size + 2 ≤ wc.heap.size) := XC.out.lt
    clear HX TW X1 c0 c1 c2 c3 e0 e1 e2 g1 g0 d1 d2 n1 n2 n3
    go_wp2_with fail
    refine (HT.out _ XC.out.1).mono ?_
    rintro e w5 ⟨rfl, i5, z5, b5, f5⟩
    have X5 : Hid (Dx w w5 p code ra rs.length rc oa os.length oc ek eq ev) := XC.out.step b5
    have W5 : Hid (Tl w5 w.heap.size wc.heap.size N S.p S.c rw0 S.rs.length cw0 ow0 S.os.length dw0 S.rs S.os) := WC.out.below b5
    have I5 : Hid (InsAt w5 wc.heap.size 0 len g ∧ ∀ j, w5.frozen? ⟨wc.heap.size, j, none⟩ = false) := ⟨i5, f5⟩
    clear XC WC b5 i5 f5
    obtain ⟨c0, c1, c2, c3⟩ := X5.out.2.1
    go_wp2_with fail
    refine (toState_any _ _ _ _ _ _ rs os _ hr ho (H1.out.below X5.out.1) (H2.out.below X5.out.1)).mono ?_
    rintro e w6 ⟨v6, rfl, o6, b6⟩
    obtain ⟨ra6, rc6, oa6, oc6, rfl, -, -⟩ := o6.read
    have z6 : wc.heap.size < w6.heap.size := by have := b6.size; omega
    have Y7 : Hid (Tl (w6.alloc (.cells #[.int .i64 p, .slice ra6 rs.length rc6, .slice oa6 os.length oc6, .int .i64 code] 27)) w5.heap.size (w6.heap.size + 1) w6.heap.size p code ra6 rs.length rc6 oa6 os.length oc6 rs os) := Tl.of_alloc o6 b6.size _
    have q7 : Below w5.heap.size w5 (w6.alloc (.cells #[.int .i64 p, .slice ra6 rs.length rc6, .slice oa6 os.length oc6, .int .i64 code] 27)) := b6.trans ((below_alloc _ _).mono b6.size)
    have X7 : Hid (Dx w (w6.alloc (.cells #[.int .i64 p, .slice ra6 rs.length rc6, .slice oa6 os.length oc6, .int .i64 code] 27)) p code ra rs.length rc oa os.length oc ek eq ev) := X5.out.step q7
    have W7 : Hid (Tl (w6.alloc (.cells #[.int .i64 p, .slice ra6 rs.length rc6, .slice oa6 os.length oc6, .int .i64 code] 27)) w.heap.size wc.heap.size N S.p S.c rw0 S.rs.length cw0 ow0 S.os.length dw0 S.rs S.os) := W5.out.below q7
    have I7 : Hid (InsAt (w6.alloc (.cells #[.int .i64 p, .slice ra6 rs.length rc6, .slice oa6 os.length oc6, .int .i64 code] 27)) wc.heap.size 0 len g ∧ ∀ j, (w6.alloc (.cells #[.int .i64 p, .slice ra6 rs.length rc6, .slice oa6 os.length oc6, .int .i64 code] 27)).frozen? ⟨wc.heap.size, j, none⟩ = false) := ⟨I5.out.1.below q7 z5, fun j => (World.frozen?_of_block (q7.block _ z5)).trans (I5.out.2 j)⟩
    have z7 : (w6.alloc (.cells #[.int .i64 p, .slice ra6 rs.length rc6, .slice oa6 os.length oc6, .int .i64 code] 27)).heap.size = w6.heap.size + 1 := by simp
    have k56 : w5.heap.size ≤ w6.heap.size := b6.size
    clear o6 b6 q7 X5 W5 I5 c0 c1 c2 c3
    go_wp2_with fail
    generalize w6.alloc (.cells #[.int .i64 p, .slice ra6 rs.length rc6, .slice oa6 os.length oc6, .int .i64 code] 27) = w7 at *
    have zN : w.heap.size + 2 ≤ wc.heap.size := ZN.out
    generalize hNc : wc.heap.size = Nc at *
    clear hNc
    have zc : Nc < w7.heap.size := by omega
    have g67 : w6.heap.size < w7.heap.size := by omega
    have Z7 : Hid (w7.heap.size = w6.heap.size + 1) := z7
    clear z7
    obtain ⟨c0, c1, c2, c3⟩ := Y7.out.box
    obtain ⟨e0, e1, e2⟩ := X7.out.2.2
    have g7 := X7.out.lt
    have d1 : w7.heap.size ≠ w6.heap.size := by omega
    have d2 : w7.heap.size ≠ w.heap.size + 1 := by omega
    go_cut [12, 13] from 43 to 50 (fun s t wx => ∃ M : Nat, s = .pointer (some ⟨M, 0, none⟩) ∧ t = .bool T ∧ Hid (Below w7.heap.size w7 wx ∧ Told wx w7.heap.size M S))
    case first =>
      go_region_held3 (fun w' => w'.cell? ⟨w6.heap.size, 0, none⟩ = some (.int .i64 p) ∧ w'.cell? ⟨w6.heap.size, 1, none⟩ = some (.slice ra6 rs.length rc6) ∧ w'.cell? ⟨w6.heap.size, 2, none⟩ = some (.slice oa6 os.length oc6) ∧ w'.cell? ⟨w6.heap.size, 3, none⟩ = some (.int .i64 code) ∧ w'.cell? ⟨w.heap.size + 1, 0, none⟩ = some (.int .i64 ek) ∧ w'.cell? ⟨w.heap.size + 1, 1, none⟩ = some (.int .i64 eq) ∧ w'.cell? ⟨w.heap.size + 1, 2, none⟩ = some (.int .i64 ev)) (go_keep)
        (first
          | (go_at_call 30; refine (toEvent_any _ _ _ _).mono ?_; rintro e w8 ⟨rfl, b8⟩; have q8 : Below w7.heap.size w7 w8 := below_up (by go_grown) b8 (by simp); have X8 : Hid (Dx w w8 p code ra rs.length rc oa os.length oc ek eq ev) := X7.out.step q8; have Y8 : Hid (Tl w8 w5.heap.size (w6.heap.size + 1) w6.heap.size p code ra6 rs.length rc6 oa6 os.length oc6 rs os) := Y7.out.below q8; obtain ⟨m0, m1, m2, m3⟩ := Y8.out.box; obtain ⟨m4, m5, m6⟩ := X8.out.2.2; have I8 : Hid (Nc < w8.heap.size ∧ InsAt w8 Nc 0 len g) := ⟨Nat.lt_of_lt_of_le zc q8.size, I7.out.1.below q8 zc⟩; obtain ⟨hc8, hf8⟩ := bcell b8; have g8 := X8.out.lt; have g68 : w6.heap.size < w8.heap.size := Nat.lt_of_lt_of_le g67 q8.size; have d81 : w8.heap.size ≠ w6.heap.size := (by omega); have d82 : w8.heap.size ≠ w.heap.size + 1 := (by omega); have k8 := b8.size; (try simp only [World.size_alloc, World.size_drew, Nat.add_one_le_iff] at k8); have Q8 : Hid (Below w7.heap.size w7 w8) := q8; clear b8 q8)
          | (go_at_call 9; refine (implDo_any _ 0 len _ g p code ra6 oa6 rc6 oc6 rs os ek eq ev _ HM.out (by first | exact I8.out.1 | (rw [World.size_alloc]; exact Nat.lt_succ_of_lt I8.out.1)) (by first | exact I8.out.2 | exact I8.out.2.below ((Below.refl _ _).alloc (Nat.le_refl _) _) I8.out.1) hr ho (by first | exact Y8.out.sl.1 | exact Y8.out.sl.1.below ((Below.refl _ _).alloc (Nat.le_refl _) _)) (by first | exact Y8.out.sl.2 | exact Y8.out.sl.2.below ((Below.refl _ _).alloc (Nat.le_refl _) _))).mono ?_; rintro e w9 hd; rw [HN.out.1, HN.out.2] at hd; obtain ⟨v9, rfl, o9, b9⟩ := hd; obtain ⟨ra9, rc9, oa9, oc9, rfl, s9, s9'⟩ := o9.read; have q9 : Below w8.heap.size w8 w9 := below_up (by go_grown) b9 (by simp); have Q9 : Hid (Below w7.heap.size w7 w9) := Q8.out.trans (q9.mono Q8.out.size); have X9 : Hid (Dx w w9 p code ra rs.length rc oa os.length oc ek eq ev) := X8.out.step q9; obtain ⟨y4, y5, y6⟩ := X9.out.2.2; obtain ⟨y0, y1, y2, y3⟩ := (Y8.out.below q9).box; (try simp only [World.size_alloc] at o9); have O9 : Hid (StOwn w9 _ (stV S.p ra9 S.rs.length rc9 oa9 S.os.length oc9 S.c) S.p S.rs S.os S.c) := o9; obtain ⟨hc9, hf9⟩ := bcell b9; have k9 := b9.size; (try simp only [World.size_alloc, Nat.add_one_le_iff] at k9); have k79 : w7.heap.size ≤ w9.heap.size := Q9.out.size; have k78 : w7.heap.size ≤ w8.heap.size := Q8.out.size; clear o9 b9 q9 s9 s9'))
      all_goals
        go_wp2_with fail
        go_meet
        case rel =>
          first
          | (refine ⟨w9.heap.size, by with_reducible rfl, rfl, ?_⟩
             exact ⟨Q9.out.trans ((below_alloc _ _).mono k79), Told.of_alloc O9.out (by omega) (by omega) _⟩)
          | (refine ⟨w8.heap.size, by with_reducible rfl, rfl, ?_⟩
             exact ⟨(((Q9.out.setCell k78 _).setCell k78 _).setCell k78 _).setCell k78 _, Told.of_put (z0 := .int .i64 0) (z1 := .slice none 0 0) (z2 := .slice none 0 0) (z3 := .int .i64 0) O9.out (by omega) (by omega) (by omega) ⟨by rw [hc9 _ _ (by simp)]; simp, by rw [hc9 _ _ (by simp)]; simp, by rw [hc9 _ _ (by simp)]; simp, by rw [hc9 _ _ (by simp)]; simp⟩⟩)
          | (refine ⟨w7.heap.size, by with_reducible rfl, rfl, ?_⟩
             exact ⟨(((Q9.out.setCell (Nat.le_refl _) _).setCell (Nat.le_refl _) _).setCell (Nat.le_refl _) _).setCell (Nat.le_refl _) _, Told.of_put (z0 := .int .i64 0) (z1 := .slice none 0 0) (z2 := .slice none 0 0) (z3 := .int .i64 0) O9.out (by omega) (by omega) (by omega) ⟨by rw [hc9 _ _ k8, hc8 _ _ (by simp)]; simp, by rw [hc9 _ _ k8, hc8 _ _ (by simp)]; simp, by rw [hc9 _ _ k8, hc8 _ _ (by simp)]; simp, by rw [hc9 _ _ k8, hc8 _ _ (by simp)]; simp⟩⟩)
    case rest =>
      obtain ⟨M, rfl, rfl, HY⟩ := hcut
      have bG := HY.out.1
      obtain ⟨rg, cg, og, dg, TG⟩ := HY.out.2.tl
      have GC : Hid (Tl wc w7.heap.size wc.heap.size M S.p S.c rg S.rs.length cg og S.os.length dg S.rs S.os) := TG
      have XC : Hid (Dx w wc p code ra rs.length rc oa os.length oc ek eq ev) := X7.out.step bG
      have WC : Hid (Tl wc w.heap.size Nc N S.p S.c rw0 S.rs.length cw0 ow0 S.os.length dw0 S.rs S.os) := W7.out.below bG
      have YC : Hid (Tl wc w5.heap.size (w6.heap.size + 1) w6.heap.size p code ra6 rs.length rc6 oa6 os.length oc6 rs os) := Y7.out.below bG
      have IC : Hid (InsAt wc Nc 0 len g ∧ ∀ j, wc.frozen? ⟨Nc, j, none⟩ = false) := ⟨I7.out.1.below bG zc, fun j => (World.frozen?_of_block (bG.block _ zc)).trans (I7.out.2 j)⟩
      have zc2 : Nc < wc.heap.size := Nat.lt_of_lt_of_le zc bG.size
      have z7c : w7.heap.size ≤ wc.heap.size := bG.size
      clear HY TG bG X7 W7 Y7 I7 c0 c1 c2 c3 e0 e1 e2 g7 g67 d1 d2
      obtain ⟨c0, c1, c2, c3⟩ := GC.out.box
      obtain ⟨e0, e1, e2, e3⟩ := WC.out.box
      go_wp2_with fail
      have zM : M < wc.heap.size := GC.out.hi
      generalize hMc : wc.heap.size = Mc at *
      have HMC : Hid (wc.heap.size = Mc) := hMc
      clear hMc
      refine (eqState_same S.p S.c rg og rw0 ow0 cg dg cw0 dw0 S.rs S.os _ HSL.out.1 HSL.out.2 GC.out.sl.1 GC.out.sl.2 WC.out.sl.1 WC.out.sl.2).mono ?_
      rintro e w8 ⟨rfl, b8⟩
      have zc8 : Nc < w8.heap.size := Nat.lt_of_lt_of_le (by rw [HMC.out]; exact zc2) b8.size
      have X8 : Hid (Dx w w8 p code ra rs.length rc oa os.length oc ek eq ev) := XC.out.step b8
      have W8 : Hid (Tl w8 w.heap.size Nc N S.p S.c rw0 S.rs.length cw0 ow0 S.os.length dw0 S.rs S.os) := WC.out.below b8
      have Y8 : Hid (Tl w8 w5.heap.size (w6.heap.size + 1) w6.heap.size p code ra6 rs.length rc6 oa6 os.length oc6 rs os) := YC.out.below b8
      have G8 : Hid (Tl w8 w7.heap.size Mc M S.p S.c rg S.rs.length cg og S.os.length dg S.rs S.os) := GC.out.below b8
      have I8 : Hid (InsAt w8 Nc 0 len g ∧ ∀ j, w8.frozen? ⟨Nc, j, none⟩ = false) := ⟨IC.out.1.below b8 (by rw [HMC.out]; exact zc2), fun j => (World.frozen?_of_block (b8.block _ (by rw [HMC.out]; exact zc2))).trans (IC.out.2 j)⟩
      clear XC WC YC GC IC b8 c0 c1 c2 c3 e0 e1 e2 e3 HMC
      go_wp2_with fail
      refine (HT.out _ X8.out.1).mono ?_
      rintro e w9 ⟨rfl, i9, z9, b9, -⟩
      have zc9 : Nc < w9.heap.size := Nat.lt_of_lt_of_le zc8 b9.size
      have X9 : Hid (Dx w w9 p code ra rs.length rc oa os.length oc ek eq ev) := X8.out.step b9
      have W9 : Hid (Tl w9 w.heap.size Nc N S.p S.c rw0 S.rs.length cw0 ow0 S.os.length dw0 S.rs S.os) := W8.out.below b9
      have Y9 : Hid (Tl w9 w5.heap.size (w6.heap.size + 1) w6.heap.size p code ra6 rs.length rc6 oa6 os.length oc6 rs os) := Y8.out.below b9
      have G9 : Hid (Tl w9 w7.heap.size Mc M S.p S.c rg S.rs.length cg og S.os.length dg S.rs S.os) := G8.out.below b9
      have I9 : Hid (InsAt w9 Nc 0 len g ∧ ∀ j, w9.frozen? ⟨Nc, j, none⟩ = false) := ⟨I8.out.1.below b9 zc8, fun j => (World.frozen?_of_block (b9.block _ zc8)).trans (I8.out.2 j)⟩
      have J9 : Hid (InsAt w9 w8.heap.size 0 len g) := i9
      clear X8 W8 Y8 G8 I8 b9 i9
      go_wp2_with fail
      refine (eqInsS_same _ _ _ _ _ g _ hl zc9 z9 I9.out.1 J9.out).mono ?_
      rintro e w10 ⟨rfl, b10⟩
      have zc10 : Nc < w10.heap.size := Nat.lt_of_lt_of_le zc9 b10.size
      have X10 : Hid (Dx w w10 p code ra rs.length rc oa os.length oc ek eq ev) := X9.out.step b10
      have W10 : Hid (Tl w10 w.heap.size Nc N S.p S.c rw0 S.rs.length cw0 ow0 S.os.length dw0 S.rs S.os) := W9.out.below b10
      have Y10 : Hid (Tl w10 w5.heap.size (w6.heap.size + 1) w6.heap.size p code ra6 rs.length rc6 oa6 os.length oc6 rs os) := Y9.out.below b10
      have G10 : Hid (Tl w10 w7.heap.size Mc M S.p S.c rg S.rs.length cg og S.os.length dg S.rs S.os) := G9.out.below b10
      have I10 : Hid (InsAt w10 Nc 0 len g ∧ ∀ j, w10.frozen? ⟨Nc, j, none⟩ = false) := ⟨I9.out.1.below b10 zc9, fun j => (World.frozen?_of_block (b10.block _ zc9)).trans (I9.out.2 j)⟩
      clear X9 W9 Y9 G9 I9 J9 b10 z9
      obtain ⟨c0, c1, c2, c3⟩ := X10.out.2.1
      obtain ⟨f0, f1, f2, f3⟩ := Y10.out.box
      go_wp2_with fail
      go_cut [69] from 65 to 68 (fun s wx => s = .bool false ∧ Hid (Below w10.heap.size w10 wx))
      case first =>
        first | (go_region_with (first | (go_at_call 26; refine (toState_any _ _ _ _ _ _ rs os _ hr ho (by exact H1.out.below X10.out.1.drew) (by exact H2.out.below X10.out.1.drew)).mono ?_; rintro e w11 ⟨v11, rfl, o11, b11⟩; have q11 : Below w10.heap.size w10 w11 := (Below.refl w10.heap.size w10).drew.trans b11; obtain ⟨ra11, rc11, oa11, oc11, rfl, s11, s11'⟩ := o11.read; obtain ⟨k0, k1, k2, k3⟩ := (Y10.out.below q11).box; have S11 : Hid ((Sl w11 ra6 rs ∧ Sl w11 oa6 os) ∧ Sl w11 ra11 rs ∧ Sl w11 oa11 os) := ⟨(Y10.out.below q11).sl, s11, s11'⟩; have Q11 : Hid (Below w10.heap.size w10 w11) := q11; clear o11 b11 q11 s11 s11') | (go_at_call 29; refine (eqState_same _ _ _ _ _ _ _ _ _ _ rs os _ hr ho S11.out.1.1 S11.out.1.2 S11.out.2.1 S11.out.2.2).mono ?_; rintro e w12 ⟨rfl, b12⟩; have Q12 : Hid (Below w10.heap.size w10 w12) := Q11.out.trans (b12.mono Q11.out.size); clear b12))) | fail
        all_goals
          go_wp2_with fail
          go_meet
          case rel => exact ⟨rfl, Q12.out⟩
      case rest =>
        obtain ⟨rfl, HB⟩ := hcut
        have b12 := HB.out
        clear HB c0 c1 c2 c3 f0 f1 f2 f3
        generalize wc = w12 at *
        have X12 : Hid (Dx w w12 p code ra rs.length rc oa os.length oc ek eq ev) := X10.out.step b12
        have W12 : Hid (Tl w12 w.heap.size Nc N S.p S.c rw0 S.rs.length cw0 ow0 S.os.length dw0 S.rs S.os) := W10.out.below b12
        have Y12 : Hid (Tl w12 w5.heap.size (w6.heap.size + 1) w6.heap.size p code ra6 rs.length rc6 oa6 os.length oc6 rs os) := Y10.out.below b12
        have G12 : Hid (Tl w12 w7.heap.size Mc M S.p S.c rg S.rs.length cg og S.os.length dg S.rs S.os) := G10.out.below b12
        have I12 : Hid (Room w12 Nc len) := Room.of_ins (I10.out.1.below b12 zc10) fun j => (World.frozen?_of_block (b12.block _ zc10)).trans (I10.out.2 j)
        clear X10 W10 Y10 G10 I10 b12
        go_wp2_with fail
        refine (markInsS_any Nc len len 1 _ hl (by omega) (by omega) I12.out).mono ?_
        rintro e w13 ⟨rfl, m13⟩
        have t13 := Tu.of_row m13
        have X13 : Hid (Dx w w13 p code ra rs.length rc oa os.length oc ek eq ev) := X12.out.tu t13 zN
        have W13 : Hid (Tl w13 w.heap.size Nc N S.p S.c rw0 S.rs.length cw0 ow0 S.os.length dw0 S.rs S.os) := W12.out.tu t13 (.inl (Nat.le_refl _))
        have Y13 : Hid (Tl w13 w5.heap.size (w6.heap.size + 1) w6.heap.size p code ra6 rs.length rc6 oa6 os.length oc6 rs os) := Y12.out.tu t13 (.inr (by omega))
        have G13 : Hid (Tl w13 w7.heap.size Mc M S.p S.c rg S.rs.length cg og S.os.length dg S.rs S.os) := G12.out.tu t13 (.inr (by omega))
        clear X12 W12 Y12 G12 I12 m13 t13
        obtain ⟨f0, f1, f2, f3⟩ := Y13.out.box
        go_wp2_with fail
        refine (markState_any _ w5.heap.size p code rs os (1 + 5 * len) _ hr ho (by omega) (by omega) Y13.out.own).mono ?_
        rintro e w14 ⟨rfl, -, m14⟩
        have t14 : Tu w5.heap.size (w6.heap.size + 1) w13 w14 := Tu.of_marked m14 Y13.out.span
        have X14 : Hid (Dx w w14 p code ra rs.length rc oa os.length oc ek eq ev) := X13.out.tu t14 (by omega)
        have W14 : Hid (Tl w14 w.heap.size Nc N S.p S.c rw0 S.rs.length cw0 ow0 S.os.length dw0 S.rs S.os) := W13.out.tu t14 (.inl (by omega))
        have G14 : Hid (Tl w14 w7.heap.size Mc M S.p S.c rg S.rs.length cg og S.os.length dg S.rs S.os) := G13.out.tu t14 (.inr (by have := Z7.out; omega))
        have hk : ¬ (1 + 5 * (len : Int) + rs.length + os.length < 0) := by omega
        clear X13 W13 Y13 G13 m14 t14 f0 f1 f2 f3
        obtain ⟨c0, c1, c2, c3⟩ := G14.out.box
        obtain ⟨e0, e1, e2, e3⟩ := W14.out.box
        go_wp2_with fail
        refine (eqState_same S.p S.c rg og rw0 ow0 cg dg cw0 dw0 S.rs S.os _ HSL.out.1 HSL.out.2 G14.out.sl.1 G14.out.sl.2 W14.out.sl.1 W14.out.sl.2).mono ?_
        rintro e w15 ⟨rfl, b15⟩
        have X15 : Hid (Dx w w15 p code ra rs.length rc oa os.length oc ek eq ev) := X14.out.step b15
        have W15 : Hid (Tl w15 w.heap.size Nc N S.p S.c rw0 S.rs.length cw0 ow0 S.os.length dw0 S.rs S.os) := W14.out.below b15
        have G15 : Hid (Tl w15 w7.heap.size Mc M S.p S.c rg S.rs.length cg og S.os.length dg S.rs S.os) := G14.out.below b15
        clear X14 W14 G14 b15 c0 c1 c2 c3 e0 e1 e2 e3
        obtain ⟨c0, c1, c2, c3⟩ := G15.out.box
        go_wp2_with fail
        refine (markState_any _ w7.heap.size S.p S.c S.rs S.os 1 _ HSL.out.1 HSL.out.2 (by omega) (by omega) G15.out.own).mono ?_
        rintro e w16 ⟨rfl, o16, m16⟩
        have t16 : Tu w7.heap.size Mc w15 w16 := Tu.of_marked m16 G15.out.span
        have X16 : Hid (Dx w w16 p code ra rs.length rc oa os.length oc ek eq ev) := X15.out.tu t16 (by omega)
        have W16 : Hid (Tl w16 w.heap.size Nc N S.p S.c rw0 S.rs.length cw0 ow0 S.os.length dw0 S.rs S.os) := W15.out.tu t16 (.inl (by omega))
        have K16 : Hid (Tl w16 w7.heap.size Mc M S.p S.c rg S.rs.length cg og S.os.length dg (marks 1 S.rs.length) (marks (1 + S.rs.length) S.os.length)) := G15.out.marked o16 m16
        clear X15 W15 G15 m16 t16 o16 c0 c1 c2 c3
        obtain ⟨c0, c1, c2, c3⟩ := K16.out.box
        go_wp2_with fail
        refine (heldState_marks S.p S.c rg og S.rs.length cg S.os.length dg 1 _ HSL.out.1 HSL.out.2 (by omega) (by omega) K16.out.sl.1 K16.out.sl.2).mono ?_
        rintro e w17 ⟨rfl, b17⟩
        have X17 : Hid (Dx w w17 p code ra rs.length rc oa os.length oc ek eq ev) := X16.out.step b17
        have W17 : Hid (Tl w17 w.heap.size Nc N S.p S.c rw0 S.rs.length cw0 ow0 S.os.length dw0 S.rs S.os) := W16.out.below b17
        have K17 : Hid (Tl w17 w7.heap.size Mc M S.p S.c rg S.rs.length cg og S.os.length dg (marks 1 S.rs.length) (marks (1 + S.rs.length) S.os.length)) := K16.out.below b17
        have hq : ¬ (1 + (S.rs.length : Int) + S.os.length < 0) := by omega
        clear X16 W16 K16 b17 c0 c1 c2 c3
        go_wp2_with fail
        obtain ⟨c0, c1, c2, c3⟩ := X17.out.2.1
        obtain ⟨e0, e1, e2⟩ := X17.out.2.2
        have g1 := X17.out.lt
        have g0 : w.heap.size < w17.heap.size := by omega
        have d1 : w17.heap.size ≠ w.heap.size := by omega
        have d2 : w17.heap.size ≠ w.heap.size + 1 := by omega
        clear hk
        go_cut [17, 18] from 100 to 109 (fun s t wx => ∃ R : Nat, s = .pointer (some ⟨R, 0, none⟩) ∧ t = .bool T ∧ Hid (Below w17.heap.size w17 wx ∧ Told wx w17.heap.size R S))
        case first =>
          go_region_held3 (fun w' => w'.cell? ⟨w.heap.size, 0, none⟩ = some (.int .i64 p) ∧ w'.cell? ⟨w.heap.size, 1, none⟩ = some (.slice ra rs.length rc) ∧ w'.cell? ⟨w.heap.size, 2, none⟩ = some (.slice oa os.length oc) ∧ w'.cell? ⟨w.heap.size, 3, none⟩ = some (.int .i64 code) ∧ w'.cell? ⟨w.heap.size + 1, 0, none⟩ = some (.int .i64 ek) ∧ w'.cell? ⟨w.heap.size + 1, 1, none⟩ = some (.int .i64 eq) ∧ w'.cell? ⟨w.heap.size + 1, 2, none⟩ = some (.int .i64 ev)) (go_keep)
            (first
              | (go_at_call 25; refine (HT.out _ (by have := X17.out.1; go_grown)).mono ?_; rintro e w22 ⟨rfl, i2, z2, b2, -⟩; have q2 : Below w17.heap.size w17 w22 := below_up (by go_grown) b2 (by simp); have X22 : Hid (Dx w w22 p code ra rs.length rc oa os.length oc ek eq ev) := X17.out.step q2; obtain ⟨m0, m1, m2, m3⟩ := X22.out.2.1; obtain ⟨m4, m5, m6⟩ := X22.out.2.2; have k12 : w17.heap.size < w22.heap.size := Nat.lt_of_le_of_lt (by simp) z2; (try simp only [World.size_alloc, World.size_drew] at i2 z2); have I2 : Hid (_ ∧ _) := ⟨z2, i2⟩; obtain ⟨hc2, hf2⟩ := bcell b2; have g2 := X22.out.lt; have d21 : w22.heap.size ≠ w.heap.size := (by omega); have d22 : w22.heap.size ≠ w.heap.size + 1 := (by omega); have k2 := b2.size; (try simp only [World.size_alloc, World.size_drew, Nat.add_one_le_iff] at k2); have Q22 : Hid (Below w17.heap.size w17 w22) := q2; clear i2 z2 b2 q2)
              | (go_at_call 26; refine (toState_any _ _ _ _ _ _ rs os _ hr ho (H1.out.below (by have := X22.out.1; go_grown)) (H2.out.below (by have := X22.out.1; go_grown))).mono ?_; rintro e w23 ⟨v3, rfl, o3, b3⟩; obtain ⟨ra3, rc3, oa3, oc3, rfl, s3, s3'⟩ := o3.read; have q3 : Below w22.heap.size w22 w23 := below_up (by go_grown) b3 (by simp); have X23 : Hid (Dx w w23 p code ra rs.length rc oa os.length oc ek eq ev) := X22.out.step q3; obtain ⟨l0, l1, l2, l3⟩ := X23.out.2.1; obtain ⟨l4, l5, l6⟩ := X23.out.2.2; have I3 : Hid (_ ∧ _) := ⟨Nat.lt_of_lt_of_le I2.out.1 q3.size, I2.out.2.below q3 I2.out.1⟩; have S3 : Hid (Sl w23 ra3 rs ∧ Sl w23 oa3 os) := ⟨s3, s3'⟩; obtain ⟨hc3, hf3⟩ := bcell b3; have g3 := X23.out.lt; have d31 : w23.heap.size ≠ w.heap.size := (by omega); have d32 : w23.heap.size ≠ w.heap.size + 1 := (by omega); have k3 := b3.size; (try simp only [World.size_alloc, Nat.add_one_le_iff] at k3); have k13 : w17.heap.size < w23.heap.size := (by omega); have Q23 : Hid (Below w17.heap.size w17 w23) := Q22.out.trans (q3.mono Q22.out.size); clear o3 b3 q3 s3 s3')
              | (go_at_call 30; refine (toEvent_any _ _ _ _).mono ?_; rintro e w24 ⟨rfl, b4⟩; have q4 : Below w23.heap.size w23 w24 := below_up (by go_grown) b4 (by simp); have X24 : Hid (Dx w w24 p code ra rs.length rc oa os.length oc ek eq ev) := X23.out.step q4; obtain ⟨u0, u1, u2, u3⟩ := X24.out.2.1; obtain ⟨u4, u5, u6⟩ := X24.out.2.2; have I4 : Hid (_ ∧ _) := ⟨Nat.lt_of_lt_of_le I3.out.1 q4.size, I3.out.2.below q4 I3.out.1⟩; have S4 : Hid (Sl w24 ra3 rs ∧ Sl w24 oa3 os) := ⟨S3.out.1.below q4, S3.out.2.below q4⟩; obtain ⟨hc4, hf4⟩ := bcell b4; have g4 := X24.out.lt; have d41 : w24.heap.size ≠ w.heap.size := (by omega); have d42 : w24.heap.size ≠ w.heap.size + 1 := (by omega); have k4 := b4.size; (try simp only [World.size_alloc, Nat.add_one_le_iff] at k4); have k14 : w17.heap.size < w24.heap.size := (by omega); have k24 : w22.heap.size < w23.heap.size → w22.heap.size < w24.heap.size := (fun h => by omega); have Q24 : Hid (Below w17.heap.size w17 w24) := Q23.out.trans (q4.mono Q23.out.size); clear b4 q4)
              | (go_at_call 9; refine (implDo_any _ 0 len _ g p code ra3 oa3 rc3 oc3 rs os ek eq ev _ HM.out (by first | exact I4.out.1 | (rw [World.size_alloc]; exact Nat.lt_succ_of_lt I4.out.1)) (by first | exact I4.out.2 | exact I4.out.2.below ((Below.refl _ _).alloc (Nat.le_refl _) _) I4.out.1) hr ho (by first | exact S4.out.1 | exact S4.out.1.below ((Below.refl _ _).alloc (Nat.le_refl _) _)) (by first | exact S4.out.2 | exact S4.out.2.below ((Below.refl _ _).alloc (Nat.le_refl _) _))).mono ?_; rintro e w25 hd; rw [HN.out.1, HN.out.2] at hd; obtain ⟨v5, rfl, o5, b5⟩ := hd; obtain ⟨ra5, rc5, oa5, oc5, rfl, s5, s5'⟩ := o5.read; have q5 : Below w24.heap.size w24 w25 := below_up (by go_grown) b5 (by simp); have X25 : Hid (Dx w w25 p code ra rs.length rc oa os.length oc ek eq ev) := X24.out.step q5; obtain ⟨y0, y1, y2, y3⟩ := X25.out.2.1; obtain ⟨y4, y5, y6⟩ := X25.out.2.2; (try simp only [World.size_alloc] at o5); have O5 : Hid (StOwn w25 _ (stV S.p ra5 S.rs.length rc5 oa5 S.os.length oc5 S.c) S.p S.rs S.os S.c) := o5; obtain ⟨hc5, hf5⟩ := bcell b5; have g5 := X25.out.lt; have k5 := b5.size; (try simp only [World.size_alloc, Nat.add_one_le_iff] at k5); have Q25 : Hid (Below w17.heap.size w17 w25) := Q24.out.trans (q5.mono Q24.out.size); clear o5 b5 q5 s5 s5'))

          all_goals
            go_wp2_with fail
            go_meet
            case rel =>
              have j2 := Q22.out.size
              have j3 := Q23.out.size
              have j4 := Q24.out.size
              have j5 := Q25.out.size
              first
              | (refine ⟨w25.heap.size, by with_reducible rfl, rfl, ?_⟩
                 exact ⟨Q25.out.trans ((below_alloc _ _).mono j5), Told.of_alloc O5.out (by omega) (by omega) _⟩)
              | (refine ⟨w24.heap.size, by with_reducible rfl, rfl, ?_⟩
                 exact ⟨(((Q25.out.setCell j4 _).setCell j4 _).setCell j4 _).setCell j4 _, Told.of_put (z0 := .int .i64 0) (z1 := .slice none 0 0) (z2 := .slice none 0 0) (z3 := .int .i64 0) O5.out (by omega) (by omega) (by omega) ⟨by rw [hc5 _ _ (by simp)]; simp, by rw [hc5 _ _ (by simp)]; simp, by rw [hc5 _ _ (by simp)]; simp, by rw [hc5 _ _ (by simp)]; simp⟩⟩)
              | (refine ⟨w23.heap.size, by with_reducible rfl, rfl, ?_⟩
                 exact ⟨(((Q25.out.setCell j3 _).setCell j3 _).setCell j3 _).setCell j3 _, Told.of_put (z0 := .int .i64 0) (z1 := .slice none 0 0) (z2 := .slice none 0 0) (z3 := .int .i64 0) O5.out (by omega) (by omega) (by omega) ⟨by rw [hc5 _ _ k4, hc4 _ _ (by simp)]; simp, by rw [hc5 _ _ k4, hc4 _ _ (by simp)]; simp, by rw [hc5 _ _ k4, hc4 _ _ (by simp)]; simp, by rw [hc5 _ _ k4, hc4 _ _ (by simp)]; simp⟩⟩)
              | (refine ⟨w22.heap.size, by with_reducible rfl, rfl, ?_⟩
                 exact ⟨(((Q25.out.setCell j2 _).setCell j2 _).setCell j2 _).setCell j2 _, Told.of_put (z0 := .int .i64 0) (z1 := .slice none 0 0) (z2 := .slice none 0 0) (z3 := .int .i64 0) O5.out (by omega) (by omega) (by omega) ⟨by rw [hc5 _ _ (k24 k3), hc4 _ _ k3, hc3 _ _ (by simp)]; simp, by rw [hc5 _ _ (k24 k3), hc4 _ _ k3, hc3 _ _ (by simp)]; simp, by rw [hc5 _ _ (k24 k3), hc4 _ _ k3, hc3 _ _ (by simp)]; simp, by rw [hc5 _ _ (k24 k3), hc4 _ _ k3, hc3 _ _ (by simp)]; simp⟩⟩)
              | (refine ⟨w17.heap.size, by with_reducible rfl, rfl, ?_⟩
                 exact ⟨(((Q25.out.setCell (Nat.le_refl _) _).setCell (Nat.le_refl _) _).setCell (Nat.le_refl _) _).setCell (Nat.le_refl _) _, Told.of_put (z0 := .int .i64 0) (z1 := .slice none 0 0) (z2 := .slice none 0 0) (z3 := .int .i64 0) O5.out (by omega) (by omega) (by omega) ⟨by rw [hc5 _ _ k14, hc4 _ _ k13, hc3 _ _ k12, hc2 _ _ (by simp)]; simp, by rw [hc5 _ _ k14, hc4 _ _ k13, hc3 _ _ k12, hc2 _ _ (by simp)]; simp, by rw [hc5 _ _ k14, hc4 _ _ k13, hc3 _ _ k12, hc2 _ _ (by simp)]; simp, by rw [hc5 _ _ k14, hc4 _ _ k13, hc3 _ _ k12, hc2 _ _ (by simp)]; simp⟩⟩)
        case rest =>
          obtain ⟨R, rfl, rfl, HR⟩ := hcut
          have bR := HR.out.1
          obtain ⟨rh, ch, oh, dh, TH⟩ := HR.out.2.tl
          have SH : Hid (Sl wc rh S.rs ∧ Sl wc oh S.os) := TH.sl
          have XE : Hid (Dx w wc p code ra rs.length rc oa os.length oc ek eq ev) := X17.out.step bR
          have WE : Hid (Tl wc w.heap.size Nc N S.p S.c rw0 S.rs.length cw0 ow0 S.os.length dw0 S.rs S.os) := W17.out.below bR
          have KE : Hid (Tl wc w7.heap.size Mc M S.p S.c rg S.rs.length cg og S.os.length dg (marks 1 S.rs.length) (marks (1 + S.rs.length) S.os.length)) := K17.out.below bR
          clear c0 c1 c2 c3 e0 e1 e2 g1 g0 d1 d2 X17 W17 K17 bR HR
          obtain ⟨c0, c1, c2, c3⟩ := TH.box
          obtain ⟨e0, e1, e2, e3⟩ := WE.out.box
          clear TH
          go_wp2_with fail
          refine (eqState_same S.p S.c rh oh rw0 ow0 ch dh cw0 dw0 S.rs S.os _ HSL.out.1 HSL.out.2 SH.out.1 SH.out.2 WE.out.sl.1 WE.out.sl.2).mono ?_
          rintro e w18 ⟨rfl, b18⟩
          have X18 : Hid (Dx w w18 p code ra rs.length rc oa os.length oc ek eq ev) := XE.out.step b18
          have K18 : Hid (Tl w18 w7.heap.size Mc M S.p S.c rg S.rs.length cg og S.os.length dg (marks 1 S.rs.length) (marks (1 + S.rs.length) S.os.length)) := KE.out.below b18
          clear XE WE KE SH b18 c0 c1 c2 c3 e0 e1 e2 e3
          obtain ⟨c0, c1, c2, c3⟩ := K18.out.box
          go_wp2_with fail
          refine (heldState_marks S.p S.c rg og S.rs.length cg S.os.length dg 1 _ HSL.out.1 HSL.out.2 (by omega) (by omega) K18.out.sl.1 K18.out.sl.2).mono ?_
          rintro e w19 ⟨rfl, b19⟩
          have X19 : Hid (Dx w w19 p code ra rs.length rc oa os.length oc ek eq ev) := X18.out.step b19
          clear X18 K18 b19 c0 c1 c2 c3
          go_wp2
          go_ret
          exact ⟨rfl, X19.out.1⟩

end Go.Proofs.Ytmbmhpginegggaa
