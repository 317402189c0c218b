/- Proved: called with whatever number, the program's PutNum answers as the model's PutNum, and its answer is its own. No condition. -/
import Derived.Test.YtpgmgdoejmhamaaPuA
namespace Go.Proofs.Ytpgmgdoejmhamaa
open Go.ChangeShapes Go.WideShapes Go.ChangeAt Go.RowKit Go.Deep

theorem OwnB.slOf {w : World} {B n cap : Nat} {a0 : Option Addr} {xs : List Int} (h : OwnB w B (.slice a0 n cap) xs) : SlB w a0 xs := by
  obtain ⟨a1, c1, e, s⟩ := h.form
  simp only [Value.slice.injEq] at e
  obtain ⟨rfl, -, -⟩ := e
  exact s
theorem belowUp {w w1 w2 : World} {B : Nat} (h1 : Below B w w1) (h2 : Below w1.heap.size w1 w2) (hB : B ≤ w1.heap.size) : Below B w w2 := h1.trans (h2.mono hB)
theorem belowTurn {w w' : World} {B : Nat} {u : Value} (hg : w.grownBy w' u.ownBlock) (hu : ∀ k, u.ownBlock = some k → B ≤ k) (hB : B ≤ w.heap.size) : Below B w w' :=
  ⟨hg.os, hg.tape, hg.output, hg.size, fun k hk => hg.block k (by omega) (fun e => by have := hu k e.symm; omega)⟩

set_option maxRecDepth 100000 in
set_option maxHeartbeats 2000000 in
theorem putNumLaw (x : Int) (w : World) :
    Calls Try.prog 4 #[.int .i64 x] w fun e w' => e = .returned (.bool true) ∧ Below w.heap.size w w' := by
  have hX : (puL x).length ≤ 5 := puL_len x
  generalize hN : puL x = X at hX
  have HN : Hid (puL x = X) := hN
  clear hN
  have hX1 : X.length ≤ 1048576 := by omega
  have hX' : (X.length : Int) ≤ 5 := by omega
  go_enter Try.func4, Try.ntmps4
  go_wp2_with fail
  refine (specPutNum_any x w).mono ?_
  rintro e w1 ⟨u1, rfl, o1, b1⟩
  rw [HN.out] at o1
  obtain ⟨aw, cw, rfl, -⟩ := o1.form
  have V1 : Hid (OwnB w1 w.heap.size (.slice aw X.length cw) X) := o1
  have LW : Hid (∀ k, (Value.slice aw X.length cw).ownBlock = some k → w.heap.size ≤ k ∧ k < w1.heap.size) := o1.lt
  have B1 : Hid (Below w.heap.size w w1) := b1
  clear o1 b1
  go_wp2_with fail
  refine (implPutNum_any x w1).mono ?_
  rintro e w2 ⟨u2, rfl, o2, b2⟩
  rw [HN.out] at o2
  obtain ⟨ag, cg, rfl, -⟩ := o2.form
  have G2 : Hid (OwnB w2 w1.heap.size (.slice ag X.length cg) X) := o2
  have LG : Hid (∀ k, (Value.slice ag X.length cg).ownBlock = some k → w1.heap.size ≤ k ∧ k < w2.heap.size) := o2.lt
  have V2 : Hid (OwnB w2 w.heap.size (.slice aw X.length cw) X) := V1.out.below b2
  have B2 : Hid (Below w.heap.size w w2) := belowUp B1.out b2 B1.out.size
  have S12 : Hid (w1.heap.size ≤ w2.heap.size ∧ w.heap.size ≤ w1.heap.size) := ⟨b2.size, B1.out.size⟩
  clear o2 b2 V1 B1
  go_wp2_with fail
  refine (eqByteS_same ag aw cg cw X w2 hX1 G2.out.slOf V2.out.slOf).mono ?_
  rintro e w3 ⟨rfl, b3⟩
  have G3 : Hid (OwnB w3 w1.heap.size (.slice ag X.length cg) X) := G2.out.below b3
  have V3 : Hid (OwnB w3 w.heap.size (.slice aw X.length cw) X) := V2.out.below b3
  have B3 : Hid (Below w.heap.size w w3) := belowUp B2.out b3 B2.out.size
  clear b3 G2 V2 B2
  go_wp2_with fail
  refine (markByteS_any ag cg w1.heap.size X 1 w3 hX1 (by omega) (by omega) G3.out).mono ?_
  rintro e w4 ⟨rfl, m4, g4⟩
  have M4 : Hid (OwnB w4 w1.heap.size (.slice ag X.length cg) (marksB 1 X.length)) := m4
  have V4 : Hid (OwnB w4 w.heap.size (.slice aw X.length cw) X) := own_apartB V3.out g4 fun k hk hv => by
    have := LG.out k hk
    have := LW.out k hv
    omega
  have B4 : Hid (Below w.heap.size w w4) := B3.out.trans (belowTurn g4 (fun k hk => by have := LG.out k hk; have := S12.out; omega) B3.out.size)
  clear m4 g4 G3 V3 B3
  go_wp2_with fail
  refine (heldByteS_marks ag cg X.length 1 w4 hX1 (by omega) (by omega) M4.out.slOf).mono ?_
  rintro e w5 ⟨rfl, e5⟩
  obtain rfl := e5.symm
  have hq : ¬ (1 + (X.length : Int) < 0) := by omega
  go_wp2_with fail
  refine (implPutNum_any x w4).mono ?_
  rintro e w6 ⟨u6, rfl, o6, b6⟩
  rw [HN.out] at o6
  obtain ⟨ah, ch, rfl, sh⟩ := o6.form
  have SH : Hid (SlB w6 ah X) := sh
  have M6 : Hid (OwnB w6 w1.heap.size (.slice ag X.length cg) (marksB 1 X.length)) := M4.out.below b6
  have V6 : Hid (OwnB w6 w.heap.size (.slice aw X.length cw) X) := V4.out.below b6
  have B6 : Hid (Below w.heap.size w w6) := belowUp B4.out b6 B4.out.size
  clear o6 sh b6 M4 V4 B4
  go_wp2_with fail
  refine (eqByteS_same ah aw ch cw X w6 hX1 SH.out V6.out.slOf).mono ?_
  rintro e w7 ⟨rfl, b7⟩
  have M7 : Hid (OwnB w7 w1.heap.size (.slice ag X.length cg) (marksB 1 X.length)) := M6.out.below b7
  have B7 : Hid (Below w.heap.size w w7) := belowUp B6.out b7 B6.out.size
  clear b7 M6 V6 B6 SH
  go_wp2_with fail
  refine (heldByteS_marks ag cg X.length 1 w7 hX1 (by omega) (by omega) M7.out.slOf).mono ?_
  rintro e w8 ⟨rfl, e8⟩
  obtain rfl := e8.symm
  go_wp2
  go_ret
  exact ⟨rfl, B7.out⟩

set_option maxRecDepth 100000 in
theorem putNumLifted (os : Os) (started : os.Started) (H : Type) (enc : TypeId × Value → H) :
    ReturnsInHanded {} Try.checked os 4 .any (Rows.fnExactPutNumSpec.pre6 enc Try.prog Try.f4 Rows.fnExactPutNumRow.domain false) (Rows.fnExactPutNumSpec.post enc Try.prog Try.f4 false true false false) := by
  refine returnsInHanded_of_change (C := Try.checked) Try.own started (by kernel_rfl) Try.func4
    (ChangeSpec.witness6 (enc := enc) (C := Try.checked) false ⟨#[], #[.int .i64 0], []⟩ 8 (by kernel_rfl) (by kernel_rfl) (by kernel_rfl) (by kernel_rfl)) ?_
  intro W base args ds gs before hval0 hW _ _
  have hval : ∀ (j : Nat) t v, Try.f4.params[j]? = some t → args[j]? = some v → Value.okWide Try.prog W .any base t v := hval0
  have hW' := hW
  obtain ⟨p, q, hA0, hV, rfl, hfz, hnd⟩ := hW
  have hA : DataW.TrodAll enc Try.prog W 0 (fun _ => true) true Try.f4.params.toList args.toList ds p := hA0
  rw [Try.params4] at hA hval
  obtain ⟨v0, d0, rfl, rfl, h0⟩ := trodAll_one hA
  obtain ⟨rfl, rfl⟩ := trodVars_none hV
  obtain ⟨z, rfl⟩ := okWide_int Try.underlying3 (hval 0 3 v0 rfl rfl)
  have lt0 : ∀ x ∈ p, x.block < W.heap.size := by obtain ⟨m, hm⟩ := h0; exact DataW.trod_lt m _ _ _ hm
  clear hA0 hval0
  refine (putNumLaw z W).mono fun e W' ⟨he, bel⟩ => ?_
  subst he
  exact ⟨_, rfl, _, _, _, [], _, [], hW', trodAll_mk1 (shut_bool Try.underlying4 _), trodAll_mk1 (Below.trod Try.laidOut (by kernel_rfl) (of_decide_eq_true (by kernel_rfl)) h0 bel lt0), rfl, bel.frame _, fun h => by cases h⟩

theorem putNum_holds : Rows.FnExactPutNumSaid :=
  OpenClaim.holds_of_wide 4 Try.f4 rfl rfl rfl rfl rfl rfl rfl ⟨rfl, rfl, rfl, rfl, rfl⟩ rfl rfl rfl rfl rfl (by kernel_rfl) Try.func4 (by kernel_rfl)
    (of_decide_eq_true (by kernel_rfl)) (by unfold Func.isWrapper; first | (rw [if_pos (by decide +kernel)]; kernel_rfl) | (rw [if_neg (by decide +kernel)]; exact ⟨rfl, rfl⟩))
    (fun os started H enc _ => putNumLifted os started H enc)

end Go.Proofs.Ytpgmgdoejmhamaa
