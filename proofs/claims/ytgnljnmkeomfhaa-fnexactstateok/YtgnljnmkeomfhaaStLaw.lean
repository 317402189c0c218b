/- Proved: called with whatever list of places and state, the program's StateOk answers as the model's StateOk, and writes into no argument. No condition. -/
import Derived.Test.YtgnljnmkeomfhaaStO
import Derived.Test.YtgnljnmkeomfhaaStF
namespace Go.Proofs.Ytgnljnmkeomfhaa
open Go.ChangeShapes Go.WideShapes Go.ChangeAt Go.RowKit

set_option maxRecDepth 100000 in
set_option maxHeartbeats 1000000 in
theorem stateOkLaw_small (a0 : Option Addr) (len cap : Nat) (g : Nat → I5) (p code : Int) (ra oa : Option Addr) (rc oc : Nat) (rs os : List Int) (w : World) (hs : (len : Int) + rs.length + os.length ≤ 1048576) (HT : Hid (Copies w a0 len cap g)) (h1 : Sl w ra rs) (h2 : Sl w oa os) :
    Calls Try.prog 4 #[.slice a0 len cap, stV p ra rs.length rc oa os.length oc code] w fun e w' => e = .returned (.bool true) ∧ Below w.heap.size w w' := by
  have hm : len ≤ maxLen := by unfold maxLen; omega
  have hl : len ≤ 1048576 := by omega
  have hr : rs.length ≤ 1048576 := by omega
  have ho : os.length ≤ 1048576 := by omega
  have n1 : ¬ (1048576 - (len : Int) < 0) := by omega
  have n2 : ¬ (1048576 - (len : Int) - rs.length - os.length < 0) := by omega
  have n3 : (rs.length : Int) + os.length ≤ 1048576 - len := by omega
  have H1 : Hid (Sl w ra rs) := h1
  have H2 : Hid (Sl w oa os) := h2
  clear h1 h2
  go_enter Try.func4, Try.ntmps4
  go_wp2_with fail
  refine (szInsS_small _ _ _ _ hl).mono ?_
  rintro e w0 ⟨rfl, rfl⟩
  go_wp2_with fail
  refine (szState_small _ _ _ _ _ _ _ _ _ _ n3 (by omega)).mono ?_
  rintro e w1 ⟨rfl, b1⟩
  have X1 : Hid (BoxC w1 w.heap.size (.int .i64 p) (.slice ra rs.length rc) (.slice oa os.length oc) (.int .i64 code)) := (BoxC.new w _ _ _ _ _).below b1
  have B1 : Hid (Below w.heap.size w w1) := below_up (by go_grown) b1 (by simp)
  clear b1
  obtain ⟨c0, c1, c2, c3⟩ := X1.out
  go_wp2_with fail
  first | (go_region_with (first | (go_at_call 19; refine (HT.out _ (by exact B1.out.drew)).mono ?_; rintro e w2 ⟨rfl, i2, z2, b2⟩; have q2 : Below w1.heap.size w1 w2 := (Below.refl w1.heap.size w1).drew.trans b2; have B2 : Hid (Below w.heap.size w w2) := B1.out.trans (q2.mono B1.out.size); obtain ⟨d0, d1, d2, d3⟩ := X1.out.below q2; have X2 : Hid (BoxC w2 w.heap.size (.int .i64 p) (.slice ra rs.length rc) (.slice oa os.length oc) (.int .i64 code)) := X1.out.below q2; clear i2 b2 q2) | (go_at_call 20; refine (toState_any _ _ _ _ _ _ rs os _ hr ho (H1.out.below B2.out) (H2.out.below B2.out)).mono ?_; rintro e w3 ⟨v3, rfl, o3, b3⟩; obtain ⟨ra3, rc3, oa3, oc3, rfl, s3, s3'⟩ := o3.read; have B3 : Hid (Below w.heap.size w w3) := B2.out.trans (b3.mono B2.out.size); have X3 : Hid (BoxC w3 w.heap.size (.int .i64 p) (.slice ra rs.length rc) (.slice oa os.length oc) (.int .i64 code)) := X2.out.below b3; have S3 : Hid (Sl w3 ra3 rs ∧ Sl w3 oa3 os) := ⟨s3, s3'⟩; clear o3 b3 s3 s3') | (go_at_call 16; refine (specStateOk_any _ _ _ _ _ _ _ _ _ rs os _ hm hr ho S3.out.1 S3.out.2).mono ?_; rintro e w4 ⟨rfl, b4⟩; have B4 : Hid (Below w.heap.size w w4) := B3.out.trans (b4.mono B3.out.size); have X4 : Hid (BoxC w4 w.heap.size (.int .i64 p) (.slice ra rs.length rc) (.slice oa os.length oc) (.int .i64 code)) := X3.out.below b4; clear b4))) | fail
  all_goals
    clear X1 B1 c0 c1 c2 c3 X2 B2 d0 d1 d2 d3 X3 B3 S3
    obtain ⟨c0, c1, c2, c3⟩ := X4.out
    go_wp2_with fail
    refine (HT.out _ B4.out).mono ?_
    rintro e w5 ⟨rfl, i5, z5, b5⟩
    have B5 : Hid (Below w.heap.size w w5) := B4.out.trans (b5.mono B4.out.size)
    have X5 : Hid (BoxC w5 w.heap.size (.int .i64 p) (.slice ra rs.length rc) (.slice oa os.length oc) (.int .i64 code)) := X4.out.below b5
    have I5 : Hid (InsAt w5 w4.heap.size 0 len g) := i5
    clear B4 X4 b5 i5 c0 c1 c2 c3
    obtain ⟨c0, c1, c2, c3⟩ := X5.out
    go_wp2_with fail
    refine (toState_any _ _ _ _ _ _ rs os _ hr ho (H1.out.below B5.out) (H2.out.below B5.out)).mono ?_
    rintro e w6 ⟨v6, rfl, o6, b6⟩
    obtain ⟨ra6, rc6, oa6, oc6, rfl, s6, s6'⟩ := o6.read
    have bA : Below w6.heap.size w6 (w6.alloc (.cells #[.int .i64 p, .slice ra6 rs.length rc6, .slice oa6 os.length oc6, .int .i64 code] 27)) := (Below.refl _ _).alloc (Nat.le_refl _) _
    have q6 : Below w5.heap.size w5 (w6.alloc (.cells #[.int .i64 p, .slice ra6 rs.length rc6, .slice oa6 os.length oc6, .int .i64 code] 27)) := b6.trans (bA.mono b6.size)
    have B6 : Hid (Below w.heap.size w (w6.alloc (.cells #[.int .i64 p, .slice ra6 rs.length rc6, .slice oa6 os.length oc6, .int .i64 code] 27))) := B5.out.trans (q6.mono B5.out.size)
    have X6 : Hid (BoxC (w6.alloc (.cells #[.int .i64 p, .slice ra6 rs.length rc6, .slice oa6 os.length oc6, .int .i64 code] 27)) w.heap.size (.int .i64 p) (.slice ra rs.length rc) (.slice oa os.length oc) (.int .i64 code)) := X5.out.below q6
    have Y6 : Hid (BoxC (w6.alloc (.cells #[.int .i64 p, .slice ra6 rs.length rc6, .slice oa6 os.length oc6, .int .i64 code] 27)) w6.heap.size (.int .i64 p) (.slice ra6 rs.length rc6) (.slice oa6 os.length oc6) (.int .i64 code)) := BoxC.new w6 _ _ _ _ _
    have I6 : Hid (InsAt (w6.alloc (.cells #[.int .i64 p, .slice ra6 rs.length rc6, .slice oa6 os.length oc6, .int .i64 code] 27)) w4.heap.size 0 len g) := I5.out.below q6 z5
    have S6 : Hid (Sl (w6.alloc (.cells #[.int .i64 p, .slice ra6 rs.length rc6, .slice oa6 os.length oc6, .int .i64 code] 27)) ra6 rs ∧ Sl (w6.alloc (.cells #[.int .i64 p, .slice ra6 rs.length rc6, .slice oa6 os.length oc6, .int .i64 code] 27)) oa6 os) := ⟨s6.below bA, s6'.below bA⟩
    have z6 : w4.heap.size < w6.heap.size := by have := b6.size; omega
    clear o6 s6 s6' bA b6 q6 B5 X5 I5 z5
    go_wp2_with fail
    generalize w6.alloc (.cells #[.int .i64 p, .slice ra6 rs.length rc6, .slice oa6 os.length oc6, .int .i64 code] 27) = w7 at *
    refine (implStateOk_any _ _ _ _ _ _ _ _ _ rs os _ ho S6.out.1 S6.out.2).mono ?_
    rintro e w8 ⟨rfl, b8⟩
    have B8 : Hid (Below w.heap.size w w8) := B6.out.trans (b8.mono B6.out.size)
    have X8 : Hid (BoxC w8 w.heap.size (.int .i64 p) (.slice ra rs.length rc) (.slice oa os.length oc) (.int .i64 code)) := X6.out.below b8
    have Y8 : Hid (BoxC w8 w6.heap.size (.int .i64 p) (.slice ra6 rs.length rc6) (.slice oa6 os.length oc6) (.int .i64 code)) := Y6.out.below b8
    have hz7 : w4.heap.size < w7.heap.size := Nat.lt_trans z6 (cell_lt Y6.out.1)
    have I8 : Hid (InsAt w8 w4.heap.size 0 len g) := I6.out.below b8 hz7
    have S8 : Hid (Sl w8 ra6 rs ∧ Sl w8 oa6 os) := ⟨S6.out.1.below b8, S6.out.2.below b8⟩
    have z8 : w4.heap.size < w8.heap.size := by have := b8.size; omega
    clear b8 B6 X6 Y6 I6 S6 hz7 c0 c1 c2 c3
    go_wp2_with fail
    refine (HT.out _ B8.out).mono ?_
    rintro e w9 ⟨rfl, i9, z9, b9⟩
    have B9 : Hid (Below w.heap.size w w9) := B8.out.trans (b9.mono B8.out.size)
    have X9 : Hid (BoxC w9 w.heap.size (.int .i64 p) (.slice ra rs.length rc) (.slice oa os.length oc) (.int .i64 code)) := X8.out.below b9
    have Y9 : Hid (BoxC w9 w6.heap.size (.int .i64 p) (.slice ra6 rs.length rc6) (.slice oa6 os.length oc6) (.int .i64 code)) := Y8.out.below b9
    have I9 : Hid (InsAt w9 w4.heap.size 0 len g ∧ InsAt w9 w8.heap.size 0 len g) := ⟨I8.out.below b9 z8, i9⟩
    have S9 : Hid (Sl w9 ra6 rs ∧ Sl w9 oa6 os) := ⟨S8.out.1.below b9, S8.out.2.below b9⟩
    clear b9 B8 X8 Y8 I8 S8 i9
    go_wp2_with fail
    refine (eqInsS_same _ _ _ _ _ g _ hl (by omega) z9 I9.out.1 I9.out.2).mono ?_
    rintro e w10 ⟨rfl, b10⟩
    have B10 : Hid (Below w.heap.size w w10) := B9.out.trans (b10.mono B9.out.size)
    have X10 : Hid (BoxC w10 w.heap.size (.int .i64 p) (.slice ra rs.length rc) (.slice oa os.length oc) (.int .i64 code)) := X9.out.below b10
    have Y10 : Hid (BoxC w10 w6.heap.size (.int .i64 p) (.slice ra6 rs.length rc6) (.slice oa6 os.length oc6) (.int .i64 code)) := Y9.out.below b10
    have S10 : Hid (Sl w10 ra6 rs ∧ Sl w10 oa6 os) := ⟨S9.out.1.below b10, S9.out.2.below b10⟩
    clear b10 B9 X9 Y9 I9 S9
    obtain ⟨c0, c1, c2, c3⟩ := X10.out
    obtain ⟨f0, f1, f2, f3⟩ := Y10.out
    go_wp2_with fail
    first | (go_region_with (first | (go_at_call 20; refine (toState_any _ _ _ _ _ _ rs os _ hr ho (by exact H1.out.below B10.out.drew) (by exact H2.out.below B10.out.drew)).mono ?_; rintro e w11 ⟨v11, rfl, o11, b11⟩; have q11 : Below w10.heap.size w10 w11 := (Below.refl w10.heap.size w10).drew.trans b11; obtain ⟨ra11, rc11, oa11, oc11, rfl, s11, s11'⟩ := o11.read; have B11 : Hid (Below w.heap.size w w11) := B10.out.trans (q11.mono B10.out.size); obtain ⟨k0, k1, k2, k3⟩ := Y10.out.below q11; have S11 : Hid ((Sl w11 ra6 rs ∧ Sl w11 oa6 os) ∧ Sl w11 ra11 rs ∧ Sl w11 oa11 os) := ⟨⟨S10.out.1.below q11, S10.out.2.below q11⟩, s11, s11'⟩; clear o11 b11 q11 s11 s11') | (go_at_call 22; refine (eqState_same _ _ _ _ _ _ _ _ _ _ rs os _ hr ho S11.out.1.1 S11.out.1.2 S11.out.2.1 S11.out.2.2).mono ?_; rintro e w12 ⟨rfl, b12⟩; have B12 : Hid (Below w.heap.size w w12) := B11.out.trans (b12.mono B11.out.size); clear b12))) | fail
    all_goals
      go_wp2
      go_ret
      exact ⟨rfl, B12.out⟩

end Go.Proofs.Ytgnljnmkeomfhaa
