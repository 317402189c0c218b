/- Proved: called with whatever bytes and number, the program's GetNum answers as the model's GetNum, and writes into no argument. No condition. -/
import Derived.Test.YtpgmgdoejmhamaaBtB
namespace Go.Proofs.Ytpgmgdoejmhamaa
open Go.ChangeShapes Go.WideShapes Go.ChangeAt Go.RowKit Go.Deep

theorem gnV_val (o : Option (Int × Int)) : ∃ (x e : Int) (t : Bool), gnV o = .tuple #[.int .i64 x, .int .i64 e, .bool t] := by
  rcases o with - | ⟨x, e⟩
  · exact ⟨0, 0, false, rfl⟩
  · exact ⟨x, e, true, rfl⟩
theorem below_next {w w1 w2 : World} {B : Nat} (h1 : Below B w w1) (h2 : Below w1.heap.size w1 w2) (hB : B ≤ w1.heap.size) : Below B w w2 := h1.trans (h2.mono hB)

set_option maxRecDepth 100000 in
set_option maxHeartbeats 2000000 in
theorem getNumLaw_small (a0 : Option Addr) (cap : Nat) (ys : List Int) (z : Int) (w : World) (hlen : ys.length ≤ 1048576) (hc : SlB w a0 ys) (hb : By ys) :
    Calls Try.prog 5 #[.slice a0 ys.length cap, .int .i64 z] w fun e w' => e = .returned (.bool true) ∧ Below w.heap.size w w' := by
  have hl' : (ys.length : Int) ≤ 1048576 := by omega
  have HC : Hid (SlB w a0 ys) := hc
  have HB : Hid (By ys) := hb
  clear hc hb
  obtain ⟨x, q, t, hv⟩ := gnV_val (gnO ys z)
  have HV : Hid (gnV (gnO ys z) = .tuple #[.int .i64 x, .int .i64 q, .bool t]) := hv
  clear hv
  go_enter Try.func5, Try.ntmps5
  go_wp2_with fail
  refine (toByteS_any a0 cap ys w hlen HC.out).mono ?_
  rintro e w1 ⟨rfl, o1, l1, b1⟩
  have O1 : Hid (OwnB w1 w.heap.size (.slice (some ⟨w.heap.size, 0, none⟩) ys.length ys.length) ys) := o1
  have B1 : Hid (Below w.heap.size w w1) := b1
  clear o1 l1 b1
  go_wp2_with fail
  refine (specGetNum_any _ _ ys z w1 hlen O1.out.sl2 HB.out).mono ?_
  rintro e w2 ⟨rfl, b2⟩
  have B2 : Hid (Below w.heap.size w w2) := below_next B1.out b2 B1.out.size
  clear b2 O1 B1
  rw [HV.out]
  go_wp2_with fail
  refine (toByteS_any a0 cap ys w2 hlen (HC.out.below B2.out)).mono ?_
  rintro e w3 ⟨rfl, o3, l3, b3⟩
  have O3 : Hid (OwnB w3 w2.heap.size (.slice (some ⟨w2.heap.size, 0, none⟩) ys.length ys.length) ys) := o3
  have B3 : Hid (Below w.heap.size w w3) := below_next B2.out b3 B2.out.size
  clear o3 l3 b3 B2
  generalize w2.heap.size = g at *
  go_wp2_with fail
  refine (implGetNum_any _ _ ys z w3 hlen (Nat.le_refl _) O3.out.sl2 HB.out).mono ?_
  rintro e w4 ⟨rfl, b4⟩
  have O4 : Hid (OwnB w4 g (.slice (some ⟨g, 0, none⟩) ys.length ys.length) ys) := O3.out.below b4
  have B4 : Hid (Below w.heap.size w w4) := below_next B3.out b4 B3.out.size
  clear b4 O3 B3
  rw [HV.out]
  have x1 : (x != x) = false := by simp
  have x2 : (q != q) = false := by simp
  have x3 : (t != t) = false := by simp
  go_wp2_with fail
  refine (toByteS_any a0 cap ys w4 hlen (HC.out.below B4.out)).mono ?_
  rintro e w5 ⟨rfl, o5, l5, b5⟩
  have O5 : Hid (SlB w5 (some ⟨w4.heap.size, 0, none⟩) ys) := o5.sl2
  have P5 : Hid (SlB w5 (some ⟨g, 0, none⟩) ys) := (O4.out.below b5).sl2
  have B5 : Hid (Below w.heap.size w w5) := below_next B4.out b5 B4.out.size
  clear o5 l5 b5 O4 B4
  generalize w4.heap.size = g2 at *
  go_wp2_with fail
  refine (eqByteS_same (some ⟨g, 0, none⟩) (some ⟨g2, 0, none⟩) _ _ ys w5 hlen P5.out O5.out).mono ?_
  rintro e w6 ⟨rfl, b6⟩
  have B6 : Hid (Below w.heap.size w w6) := below_next B5.out b6 B5.out.size
  go_wp2
  go_ret
  exact ⟨rfl, B6.out⟩

set_option maxHeartbeats 1000000 in
theorem getNumLaw_great (a0 : Option Addr) (len cap : Nat) (z : Int) (w : World) (hlen : 1048576 < len) :
    Calls Try.prog 5 #[.slice a0 len cap, .int .i64 z] w fun e w' => e = .returned (.bool true) ∧ Below w.heap.size w w' := by
  have hl' : (1048576 : Int) < (len : Int) := by omega
  go_enter Try.func5, Try.ntmps5
  go_wp2
  go_ret
  exact ⟨rfl, Below.refl _ _⟩

set_option maxRecDepth 100000 in
theorem getNumLifted (os : Os) (started : os.Started) (H : Type) (enc : TypeId × Value → H) :
    ReturnsInHanded {} Try.checked os 5 .any (Rows.fnExactGetNumSpec.pre6 enc Try.prog Try.f5 Rows.fnExactGetNumRow.domain false) (Rows.fnExactGetNumSpec.post enc Try.prog Try.f5 false true false false) := by
  refine returnsInHanded_of_change (C := Try.checked) Try.own started (by kernel_rfl) Try.func5
    (ChangeSpec.witness6 (enc := enc) (C := Try.checked) false ⟨#[], #[.slice none 0 0, .int .i64 0], []⟩ 8 (by kernel_rfl) (by kernel_rfl) (by kernel_rfl) (by kernel_rfl)) ?_
  intro W base args ds gs before hval0 hW _ _
  have hval : ∀ (j : Nat) t v, Try.f5.params[j]? = some t → args[j]? = some v → Value.okWide Try.prog W .any base t v := hval0
  have hW' := hW
  obtain ⟨p, q, hA0, hV, rfl, hfz, hnd⟩ := hW
  have hA : DataW.TrodAll enc Try.prog W 0 (fun _ => true) true Try.f5.params.toList args.toList ds p := hA0
  rw [Try.params5] at hA hval
  obtain ⟨v0, v1, d0, d1, p0, p1, rfl, rfl, rfl, h0, h1⟩ := trodAll_two hA
  obtain ⟨rfl, rfl⟩ := trodVars_none hV
  obtain ⟨z1, rfl⟩ := okWide_int Try.underlying3 (hval 1 3 v1 rfl rfl)
  obtain ⟨a0, len, cap, rfl⟩ := okWide_slice Try.underlying22 (hval 0 22 v0 rfl rfl)
  have lt0 : ∀ x ∈ p0, x.block < W.heap.size := by obtain ⟨m, hm⟩ := h0; exact DataW.trod_lt m _ _ _ hm
  have lt1 : ∀ x ∈ p1, x.block < W.heap.size := by obtain ⟨m, hm⟩ := h1; exact DataW.trod_lt m _ _ _ hm
  clear hA0 hval0
  have hlaw : Calls Try.prog 5 #[.slice a0 len cap, .int .i64 z1] W fun e w' => e = .returned (.bool true) ∧ Below W.heap.size W w' := by
    obtain ⟨-, ys, rfl, hs, hy⟩ := open_byteS h0
    by_cases hl : ys.length ≤ 1048576
    · exact getNumLaw_small a0 cap ys z1 W hl hs hy
    · exact getNumLaw_great a0 _ cap z1 W (by omega)
  refine hlaw.mono fun e W' ⟨he, bel⟩ => ?_
  subst he
  exact ⟨_, rfl, _, _, _, [], _, [], hW', trodAll_mk1 (shut_bool Try.underlying4 _), (trodAll_cons_mk (Below.trod Try.laidOut (by kernel_rfl) (of_decide_eq_true (by kernel_rfl)) h0 bel lt0) (trodAll_cons_mk (Below.trod Try.laidOut (by kernel_rfl) (of_decide_eq_true (by kernel_rfl)) h1 bel lt1) trodAll_mk0)), rfl, bel.frame _, fun h => by cases h⟩

theorem getNum_holds : Rows.FnExactGetNumSaid :=
  OpenClaim.holds_of_wide 5 Try.f5 rfl rfl rfl rfl rfl rfl rfl ⟨rfl, rfl, rfl, rfl, rfl⟩ rfl rfl rfl rfl rfl (by kernel_rfl) Try.func5 (by kernel_rfl)
    (of_decide_eq_true (by kernel_rfl)) (by unfold Func.isWrapper; first | (rw [if_pos (by decide +kernel)]; kernel_rfl) | (rw [if_neg (by decide +kernel)]; exact ⟨rfl, rfl⟩))
    (fun os started H enc _ => getNumLifted os started H enc)

end Go.Proofs.Ytpgmgdoejmhamaa
