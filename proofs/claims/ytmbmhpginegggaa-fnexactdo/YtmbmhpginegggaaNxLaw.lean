/- The law of Next, walked, where all is small enough. -/
import Derived.Test.YtmbmhpginegggaaStO
import Derived.Test.YtmbmhpginegggaaNxC
import Derived.Test.YtmbmhpginegggaaNxD
import Derived.Deep.CutRange
namespace Go.Proofs.Ytmbmhpginegggaa
open Go.ChangeShapes Go.WideShapes Go.ChangeAt Go.RowKit

/-- The law's own state argument stands in its block, and nothing old has turned. -/
def Cx (w wr : World) (p code : Int) (ra : Option Addr) (rn rc : Nat) (oa : Option Addr) (on oc : Nat) : Prop :=
  Below w.heap.size w wr ∧ BoxC wr w.heap.size (.int .i64 p) (.slice ra rn rc) (.slice oa on oc) (.int .i64 code)
theorem Cx.step {w wr wr' : World} {p code : Int} {ra : Option Addr} {rn rc : Nat} {oa : Option Addr} {on oc : Nat} (h : Cx w wr p code ra rn rc oa on oc) (hb : Below wr.heap.size wr wr') : Cx w wr' p code ra rn rc oa on oc :=
  ⟨h.1.trans (hb.mono h.1.size), h.2.below hb⟩
theorem Cx.drew {w wr : World} {p code : Int} {ra : Option Addr} {rn rc : Nat} {oa : Option Addr} {on oc : Nat} (h : Cx w wr p code ra rn rc oa on oc) : Cx w wr.drew p code ra rn rc oa on oc :=
  h.step ((Below.refl _ _).drew)
theorem Cx.new (w : World) (p code : Int) (ra : Option Addr) (rn rc : Nat) (oa : Option Addr) (on oc : Nat) (t : TypeId) : Cx w (w.alloc (.cells #[.int .i64 p, .slice ra rn rc, .slice oa on oc, .int .i64 code] t)) p code ra rn rc oa on oc :=
  ⟨(Below.refl _ _).alloc (Nat.le_refl _) _, BoxC.new w _ _ _ _ t⟩

/-- The three cells of an event in a block. -/
def EvC (w : World) (N : Nat) (k p v : Int) : Prop := w.cell? ⟨N, 0, none⟩ = some (.int .i64 k) ∧ w.cell? ⟨N, 1, none⟩ = some (.int .i64 p) ∧ w.cell? ⟨N, 2, none⟩ = some (.int .i64 v)
theorem EvC.below {w w' : World} {N : Nat} {k p v : Int} (h : EvC w N k p v) (hb : Below w.heap.size w w') : EvC w' N k p v := by
  obtain ⟨h0, h1, h2⟩ := h
  have hN : N < w.heap.size := World.block_lt_of_cell? w _ h0
  exact ⟨(hb.cell (p := ⟨N, 0, none⟩) hN).trans h0, (hb.cell (p := ⟨N, 1, none⟩) hN).trans h1, (hb.cell (p := ⟨N, 2, none⟩) hN).trans h2⟩
theorem EvC.new (w : World) (k p v : Int) (t : TypeId) : EvC (w.alloc (.cells #[.int .i64 k, .int .i64 p, .int .i64 v] t)) w.heap.size k p v := by
  unfold EvC
  simp

/-- Three cells of an own block are written. -/
abbrev put3 (w : World) (N : Nat) (k p v : Int) : World := ((w.setCell ⟨N, 0, none⟩ (.int .i64 k)).setCell ⟨N, 1, none⟩ (.int .i64 p)).setCell ⟨N, 2, none⟩ (.int .i64 v)
theorem EvC.put {w : World} {N : Nat} {k' p' v' : Int} (h : EvC w N k' p' v') (k p v : Int) : EvC (put3 w N k p v) N k p v := by
  obtain ⟨h0, h1, h2⟩ := h
  exact ⟨by go_cell, by go_cell, by go_cell⟩
theorem BoxC.put {w : World} {M N : Nat} {p vr vo code : Value} (h : BoxC w M p vr vo code) (hN : M < N) (k q v : Int) : BoxC (put3 w N k q v) M p vr vo code := by
  have hne : M ≠ N := by omega
  obtain ⟨h0, h1, h2, h3⟩ := h
  exact ⟨by go_cell, by go_cell, by go_cell, by go_cell⟩
theorem Cx.put {w wr : World} {p code : Int} {ra : Option Addr} {rn rc : Nat} {oa : Option Addr} {on oc N : Nat} (h : Cx w wr p code ra rn rc oa on oc) (hN : w.heap.size < N) (k q v : Int) : Cx w (put3 wr N k q v) p code ra rn rc oa on oc :=
  ⟨((h.1.setCell (Nat.le_of_lt hN) _).setCell (Nat.le_of_lt hN) _).setCell (Nat.le_of_lt hN) _, h.2.put hN _ _ _⟩

set_option maxRecDepth 100000 in
set_option maxHeartbeats 16000000 in
theorem nextLaw_small (a0 : Option Addr) (len cap : Nat) (g : Nat → I5) (p code : Int) (ra oa : Option Addr) (rc oc : Nat) (rs os : List Int) (w : World) (hs : (len : Int) + rs.length + os.length ≤ 1048576) (HT : Hid (Copies w a0 len cap g)) (h1 : Sl w ra rs) (h2 : Sl w oa os) :
    Calls Try.prog 5 #[.slice a0 len cap, stV p ra rs.length rc oa os.length oc code] w fun e w' => e = .returned (.bool true) ∧ Below w.heap.size w w' := by
  have hm : len ≤ maxLen := by unfold maxLen; omega
  have HM : Hid (len ≤ maxLen) := hm
  have hl : len ≤ 1048576 := by omega
  have hr : rs.length ≤ 1048576 := by omega
  have ho : os.length ≤ 1048576 := by omega
  have n1 : ¬ (1048576 - (len : Int) < 0) := by omega
  have n2 : ¬ (1048576 - (len : Int) - rs.length - os.length < 0) := by omega
  have n3 : (rs.length : Int) + os.length ≤ 1048576 - len := by omega
  have H1 : Hid (Sl w ra rs) := h1
  have H2 : Hid (Sl w oa os) := h2
  clear h1 h2 hm
  generalize hK : nxK g len p rs os code = K
  generalize hP : nxP g len p rs os code = P
  generalize hV : nxW g len p rs os code = V
  have HN : Hid (nxK g len p rs os code = K ∧ nxP g len p rs os code = P ∧ nxW g len p rs os code = V) := ⟨hK, hP, hV⟩
  clear hK hP hV
  go_enter Try.func5, Try.ntmps5
  go_wp2_with fail
  refine (szInsS_small _ _ _ _ hl).mono ?_
  rintro e w0 ⟨rfl, rfl⟩
  go_wp2_with fail
  refine (szState_small _ _ _ _ _ _ _ _ _ _ n3 (by omega)).mono ?_
  rintro e w1 ⟨rfl, b1⟩
  have X1 : Hid (Cx w w1 p code ra rs.length rc oa os.length oc) := (Cx.new w _ _ _ _ _ _ _ _ _).step b1
  clear b1 n1 n2 n3
  obtain ⟨c0, c1, c2, c3⟩ := X1.out.2
  go_wp2_with fail
  have g1 : w.heap.size < w1.heap.size := cell_lt c0
  go_cut [6] from 20 to 24 (fun s wx => ∃ N : Nat, s = .pointer (some ⟨N, 0, none⟩) ∧ Hid (Cx w wx p code ra rs.length rc oa os.length oc ∧ EvC wx N K P V))
  case first =>
    go_region_with (first
      | (go_at_call 25; refine (HT.out _ (by first | exact X1.out.1.drew | exact X1.out.1.drew.alloc (by exact X1.out.1.size) _)).mono ?_; rintro e w2 ⟨rfl, i2, z2, b2⟩; have b2' : Below w1.heap.size w1 w2 := (by first | exact (Below.refl w1.heap.size w1).drew.trans b2 | exact ((Below.refl w1.heap.size w1).drew.alloc (Nat.le_refl _) _).trans (b2.mono (by simp))); have X2 : Hid (Cx w w2 p code ra rs.length rc oa os.length oc) := X1.out.step b2'; obtain ⟨d0, d1, d2, d3⟩ := X2.out.2; have g2 : w.heap.size < w2.heap.size := cell_lt d0; obtain ⟨hc2, hf2⟩ := bcell b2; have l2 : w1.heap.size < w2.heap.size := Nat.lt_of_le_of_lt (by simp) z2; simp only [World.size_alloc, World.size_drew] at i2 z2; have I2 : Hid (_ ∧ _) := ⟨z2, i2⟩; clear i2 z2 b2 b2')
      | (go_at_call 26; refine (toState_any _ _ _ _ _ _ rs os _ hr ho (H1.out.below (by first | exact X2.out.1 | exact X2.out.1.alloc (by exact X2.out.1.size) _)) (H2.out.below (by first | exact X2.out.1 | exact X2.out.1.alloc (by exact X2.out.1.size) _))).mono ?_; rintro e w3 ⟨v3, rfl, o3, b3⟩; obtain ⟨ra3, rc3, oa3, oc3, rfl, s3, s3'⟩ := o3.read; have b3' : Below w2.heap.size w2 w3 := (by first | exact b3 | exact ((Below.refl w2.heap.size w2).alloc (Nat.le_refl _) _).trans (b3.mono (by simp))); have X3 : Hid (Cx w w3 p code ra rs.length rc oa os.length oc) := X2.out.step b3'; have S3 : Hid (Sl w3 ra3 rs ∧ Sl w3 oa3 os) := ⟨s3, s3'⟩; have I3 : Hid (_ ∧ _) := ⟨Nat.lt_of_lt_of_le I2.out.1 b3'.size, I2.out.2.below b3' I2.out.1⟩; obtain ⟨hc3, hf3⟩ := bcell b3; have l13 : w1.heap.size < w3.heap.size := Nat.lt_of_lt_of_le l2 b3'.size; first | have l3 : w2.heap.size < w3.heap.size := (by have := b3.size; simp at this; omega) | skip; clear o3 b3 b3' s3 s3')
      | (go_at_call 12; refine (specNext_any _ _ _ _ g _ _ _ _ _ _ rs os _ HM.out (by first | exact I3.out.1 | (rw [World.size_alloc]; exact Nat.lt_succ_of_lt I3.out.1)) (by first | exact I3.out.2 | exact I3.out.2.below ((Below.refl _ _).alloc (Nat.le_refl _) _) I3.out.1) hr ho (by first | exact S3.out.1 | exact S3.out.1.below ((Below.refl _ _).alloc (Nat.le_refl _) _)) (by first | exact S3.out.2 | exact S3.out.2.below ((Below.refl _ _).alloc (Nat.le_refl _) _))).mono ?_; rintro e w4 ⟨he4, b4⟩; rw [HN.out.1, HN.out.2.1, HN.out.2.2] at he4; subst he4; have b4' : Below w3.heap.size w3 w4 := (by first | exact b4 | exact ((Below.refl w3.heap.size w3).alloc (Nat.le_refl _) _).trans (b4.mono (by simp))); have X4 : Hid (Cx w w4 p code ra rs.length rc oa os.length oc) := X3.out.step b4'; obtain ⟨hc4, hf4⟩ := bcell b4; clear b4 b4'))
    all_goals
      have g3 : w.heap.size < w3.heap.size := cell_lt X3.out.2.1
      go_wp2_with fail
      go_meet
      case rel =>
        first
        | exact ⟨_, rfl, X4.out.step ((Below.refl _ _).alloc (Nat.le_refl _) _), EvC.new w4 _ _ _ _⟩
        | exact ⟨_, rfl, Cx.put X4.out g3 _ _ _, EvC.put (k' := 0) (p' := 0) (v' := 0) ⟨by rw [hc4 _ _ (by simp)]; simp, by rw [hc4 _ _ (by simp)]; simp, by rw [hc4 _ _ (by simp)]; simp⟩ _ _ _⟩
        | exact ⟨_, rfl, Cx.put X4.out g2 _ _ _, EvC.put (k' := 0) (p' := 0) (v' := 0) ⟨by rw [hc4 _ _ l3, hc3 _ _ (by simp)]; simp, by rw [hc4 _ _ l3, hc3 _ _ (by simp)]; simp, by rw [hc4 _ _ l3, hc3 _ _ (by simp)]; simp⟩ _ _ _⟩
        | exact ⟨_, rfl, Cx.put X4.out g1 _ _ _, EvC.put (k' := 0) (p' := 0) (v' := 0) ⟨by rw [hc4 _ _ l13, hc3 _ _ l2, hc2 _ _ (by simp)]; simp, by rw [hc4 _ _ l13, hc3 _ _ l2, hc2 _ _ (by simp)]; simp, by rw [hc4 _ _ l13, hc3 _ _ l2, hc2 _ _ (by simp)]; simp⟩ _ _ _⟩
  case rest =>
    obtain ⟨N, rfl, HX⟩ := hcut
    have XC : Hid (Cx w wc p code ra rs.length rc oa os.length oc) := HX.out.1
    have EC : Hid (EvC wc N K P V) := HX.out.2
    clear HX X1 c0 c1 c2 c3 g1
    go_wp2_with fail
    refine (HT.out _ XC.out.1).mono ?_
    rintro e w5 ⟨rfl, i5, z5, b5⟩
    have X5 : Hid (Cx w w5 p code ra rs.length rc oa os.length oc) := XC.out.step b5
    have E5 : Hid (EvC w5 N K P V) := EC.out.below b5
    have I5 : Hid (InsAt w5 wc.heap.size 0 len g) := i5
    clear XC EC b5 i5
    obtain ⟨c0, c1, c2, c3⟩ := X5.out.2
    go_wp2_with fail
    refine (toState_any _ _ _ _ _ _ rs os _ hr ho (H1.out.below X5.out.1) (H2.out.below X5.out.1)).mono ?_
    rintro e w6 ⟨v6, rfl, o6, b6⟩
    obtain ⟨ra6, rc6, oa6, oc6, rfl, s6, s6'⟩ := o6.read
    have bA : Below w6.heap.size w6 (w6.alloc (.cells #[.int .i64 p, .slice ra6 rs.length rc6, .slice oa6 os.length oc6, .int .i64 code] 27)) := (Below.refl _ _).alloc (Nat.le_refl _) _
    have q6 : Below w5.heap.size w5 (w6.alloc (.cells #[.int .i64 p, .slice ra6 rs.length rc6, .slice oa6 os.length oc6, .int .i64 code] 27)) := b6.trans (bA.mono b6.size)
    have X6 : Hid (Cx w (w6.alloc (.cells #[.int .i64 p, .slice ra6 rs.length rc6, .slice oa6 os.length oc6, .int .i64 code] 27)) p code ra rs.length rc oa os.length oc) := X5.out.step q6
    have E6 : Hid (EvC (w6.alloc (.cells #[.int .i64 p, .slice ra6 rs.length rc6, .slice oa6 os.length oc6, .int .i64 code] 27)) N K P V) := E5.out.below q6
    have Y6 : Hid (BoxC (w6.alloc (.cells #[.int .i64 p, .slice ra6 rs.length rc6, .slice oa6 os.length oc6, .int .i64 code] 27)) w6.heap.size (.int .i64 p) (.slice ra6 rs.length rc6) (.slice oa6 os.length oc6) (.int .i64 code)) := BoxC.new w6 _ _ _ _ _
    have I6 : Hid (InsAt (w6.alloc (.cells #[.int .i64 p, .slice ra6 rs.length rc6, .slice oa6 os.length oc6, .int .i64 code] 27)) wc.heap.size 0 len g) := I5.out.below q6 z5
    have S6 : Hid (Sl (w6.alloc (.cells #[.int .i64 p, .slice ra6 rs.length rc6, .slice oa6 os.length oc6, .int .i64 code] 27)) ra6 rs ∧ Sl (w6.alloc (.cells #[.int .i64 p, .slice ra6 rs.length rc6, .slice oa6 os.length oc6, .int .i64 code] 27)) oa6 os) := ⟨s6.below bA, s6'.below bA⟩
    have z6 : wc.heap.size < w6.heap.size := by have := b6.size; omega
    clear o6 s6 s6' bA b6 q6 X5 E5 I5 z5 c0 c1 c2 c3
    go_wp2_with fail
    generalize w6.alloc (.cells #[.int .i64 p, .slice ra6 rs.length rc6, .slice oa6 os.length oc6, .int .i64 code] 27) = w7 at *
    have hz7 : wc.heap.size < w7.heap.size := Nat.lt_trans z6 (cell_lt Y6.out.1)
    refine (implNext_any _ _ _ _ g _ _ _ _ _ _ rs os _ HM.out hz7 I6.out ho S6.out.1 S6.out.2).mono ?_
    rintro e w8 ⟨he8, b8⟩
    rw [HN.out.1, HN.out.2.1, HN.out.2.2] at he8
    subst he8
    have bB : Below w8.heap.size w8 (w8.alloc (.cells #[.int .i64 K, .int .i64 P, .int .i64 V] 29)) := (Below.refl _ _).alloc (Nat.le_refl _) _
    have q8 : Below w7.heap.size w7 (w8.alloc (.cells #[.int .i64 K, .int .i64 P, .int .i64 V] 29)) := b8.trans (bB.mono b8.size)
    have X8 : Hid (Cx w (w8.alloc (.cells #[.int .i64 K, .int .i64 P, .int .i64 V] 29)) p code ra rs.length rc oa os.length oc) := X6.out.step q8
    have E8 : Hid (EvC (w8.alloc (.cells #[.int .i64 K, .int .i64 P, .int .i64 V] 29)) N K P V) := E6.out.below q8
    have Y8 : Hid (BoxC (w8.alloc (.cells #[.int .i64 K, .int .i64 P, .int .i64 V] 29)) w6.heap.size (.int .i64 p) (.slice ra6 rs.length rc6) (.slice oa6 os.length oc6) (.int .i64 code)) := Y6.out.below q8
    have I8 : Hid (InsAt (w8.alloc (.cells #[.int .i64 K, .int .i64 P, .int .i64 V] 29)) wc.heap.size 0 len g) := I6.out.below q8 hz7
    have S8 : Hid (Sl (w8.alloc (.cells #[.int .i64 K, .int .i64 P, .int .i64 V] 29)) ra6 rs ∧ Sl (w8.alloc (.cells #[.int .i64 K, .int .i64 P, .int .i64 V] 29)) oa6 os) := ⟨S6.out.1.below q8, S6.out.2.below q8⟩
    have z8 : wc.heap.size < (w8.alloc (.cells #[.int .i64 K, .int .i64 P, .int .i64 V] 29)).heap.size := by have := q8.size; omega
    have Z8 : Hid (wc.heap.size < (w8.alloc (.cells #[.int .i64 K, .int .i64 P, .int .i64 V] 29)).heap.size) := z8
    clear b8 bB q8 X6 E6 Y6 I6 S6 hz7 z8
    obtain ⟨f0, f1, f2⟩ := E8.out
    go_wp2_with fail
    clear f0 f1 f2
    generalize w8.alloc (.cells #[.int .i64 K, .int .i64 P, .int .i64 V] 29) = w9 at *
    refine (eqEvent_same _ _ _ _).mono ?_
    rintro e w10 ⟨rfl, b10⟩
    have X10 : Hid (Cx w w10 p code ra rs.length rc oa os.length oc) := X8.out.step b10
    have Y10 : Hid (BoxC w10 w6.heap.size (.int .i64 p) (.slice ra6 rs.length rc6) (.slice oa6 os.length oc6) (.int .i64 code)) := Y8.out.below b10
    have I10 : Hid (InsAt w10 wc.heap.size 0 len g) := I8.out.below b10 Z8.out
    have S10 : Hid (Sl w10 ra6 rs ∧ Sl w10 oa6 os) := ⟨S8.out.1.below b10, S8.out.2.below b10⟩
    have Z10 : Hid (wc.heap.size < w10.heap.size) := Nat.lt_of_lt_of_le Z8.out b10.size
    clear b10 X8 E8 Y8 I8 S8 Z8
    go_wp2_with fail
    refine (HT.out _ X10.out.1).mono ?_
    rintro e w11 ⟨rfl, i11, z11, b11⟩
    have X11 : Hid (Cx w w11 p code ra rs.length rc oa os.length oc) := X10.out.step b11
    have Y11 : Hid (BoxC w11 w6.heap.size (.int .i64 p) (.slice ra6 rs.length rc6) (.slice oa6 os.length oc6) (.int .i64 code)) := Y10.out.below b11
    have I11 : Hid (InsAt w11 wc.heap.size 0 len g ∧ InsAt w11 w10.heap.size 0 len g) := ⟨I10.out.below b11 Z10.out, i11⟩
    have S11 : Hid (Sl w11 ra6 rs ∧ Sl w11 oa6 os) := ⟨S10.out.1.below b11, S10.out.2.below b11⟩
    have Z11 : Hid (wc.heap.size < w11.heap.size) := Nat.lt_of_lt_of_le Z10.out b11.size
    clear b11 i11 X10 Y10 I10 S10 Z10
    go_wp2_with fail
    refine (eqInsS_same _ _ _ _ _ g _ hl Z11.out z11 I11.out.1 I11.out.2).mono ?_
    rintro e w12 ⟨rfl, b12⟩
    have X12 : Hid (Cx w w12 p code ra rs.length rc oa os.length oc) := X11.out.step b12
    have Y12 : Hid (BoxC w12 w6.heap.size (.int .i64 p) (.slice ra6 rs.length rc6) (.slice oa6 os.length oc6) (.int .i64 code)) := Y11.out.below b12
    have S12 : Hid (Sl w12 ra6 rs ∧ Sl w12 oa6 os) := ⟨S11.out.1.below b12, S11.out.2.below b12⟩
    clear b12 X11 Y11 I11 S11 Z11 z11
    obtain ⟨c0, c1, c2, c3⟩ := X12.out.2
    obtain ⟨f0, f1, f2, f3⟩ := Y12.out
    go_wp2_with fail
    first | (go_region_with (first | (go_at_call 26; refine (toState_any _ _ _ _ _ _ rs os _ hr ho (by exact H1.out.below X12.out.1.drew) (by exact H2.out.below X12.out.1.drew)).mono ?_; rintro e w13 ⟨v13, rfl, o13, b13⟩; have q13 : Below w12.heap.size w12 w13 := (Below.refl w12.heap.size w12).drew.trans b13; obtain ⟨ra13, rc13, oa13, oc13, rfl, s13, s13'⟩ := o13.read; have X13 : Hid (Cx w w13 p code ra rs.length rc oa os.length oc) := X12.out.step q13; obtain ⟨k0, k1, k2, k3⟩ := Y12.out.below q13; have S13 : Hid ((Sl w13 ra6 rs ∧ Sl w13 oa6 os) ∧ Sl w13 ra13 rs ∧ Sl w13 oa13 os) := ⟨⟨S12.out.1.below q13, S12.out.2.below q13⟩, s13, s13'⟩; clear o13 b13 q13 s13 s13') | (go_at_call 29; refine (eqState_same _ _ _ _ _ _ _ _ _ _ rs os _ hr ho S13.out.1.1 S13.out.1.2 S13.out.2.1 S13.out.2.2).mono ?_; rintro e w14 ⟨rfl, b14⟩; have X14 : Hid (Cx w w14 p code ra rs.length rc oa os.length oc) := X13.out.step b14; clear b14))) | fail
    all_goals
      go_wp2
      go_ret
      exact ⟨rfl, X14.out.1⟩

end Go.Proofs.Ytmbmhpginegggaa
