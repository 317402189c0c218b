/- Proved: the program's StateNew answers as the model's StateNew, in memory of its own, at every call. No condition. -/
import Derived.Test.YtgnljnmkeomfhaaStC
import Derived.ProofKit
import Derived.OpenShut
import Derived.ShutString
import Derived.ChangeOld
import Derived.Below
namespace Go.Proofs.Ytgnljnmkeomfhaa
open Go.ChangeShapes Go.WideShapes Go.ChangeAt Go.RowKit

theorem NewLaw.own : ownKnob Try.prog.godebug = none := by kernel_rfl
theorem NewLaw.laidOut : laidOutB Try.prog = true := by kernel_rfl

set_option maxRecDepth 100000 in
set_option maxHeartbeats 1000000 in
theorem implStateNew_any (w : World) :
    Calls Try.prog 24 #[] w fun e w' => ∃ v, e = .returned v ∧ StOwn w' w.heap.size v 0 [0, 0, 0, 0] [] 0 ∧ Below w.heap.size w w' := by
  have hmk : ∀ w : World, (Instr.makeSlice 25 (.int .i64 4) (.int .i64 4)).run Try.prog w = .ok (.slice (some ⟨w.heap.size, 0, none⟩) 4 4) (w.alloc (.cells (madeCells #[.int .i64 0] 4) 3)) := fun w => run_make_int 4 (by omega) w
  have HM : Hid (∀ w : World, OwnI (w.alloc (.cells (madeCells #[.int .i64 0] 4) 3)) w.heap.size (.slice (some ⟨w.heap.size, 0, none⟩) 4 4) [0, 0, 0, 0]) := fun w => made_own w 4 (by omega)
  go_enter Try.func24, Try.ntmps24
  go_wp2
  have hB : w.heap.size ≤ w.heap.size + 1 := by omega
  have hM := HM.out (w.alloc (.cells #[.int .i64 0, .slice (some ⟨w.heap.size + 1, 0, none⟩) 4 4, .slice none 0 0, .int .i64 0] 27))
  rw [World.size_alloc] at hM
  refine bodyPost_ret (v := stV 0 (some ⟨w.heap.size + 1, 0, none⟩) 4 4 none 0 0 0) (by simp [results, Try.results24, go_sem]) rfl ⟨_, rfl, ⟨_, _, rfl, hM.mono hB, World.ownsRow_nil _ _ _ _, fun k _ => by simp [Value.ownBlock]⟩, by go_grown⟩

set_option maxRecDepth 100000 in
set_option maxHeartbeats 1000000 in
theorem specStateNew_any (w : World) :
    Calls Try.prog 23 #[] w fun e w' => ∃ v, e = .returned v ∧ StOwn w' w.heap.size v 0 [0, 0, 0, 0] [] 0 ∧ Below w.heap.size w w' := by
  have hmk : ∀ w : World, (Instr.makeSlice 25 (.int .i64 4) (.int .i64 4)).run Try.prog w = .ok (.slice (some ⟨w.heap.size, 0, none⟩) 4 4) (w.alloc (.cells (madeCells #[.int .i64 0] 4) 3)) := fun w => run_make_int 4 (by omega) w
  have HM : Hid (∀ w : World, OwnI (w.alloc (.cells (madeCells #[.int .i64 0] 4) 3)) w.heap.size (.slice (some ⟨w.heap.size, 0, none⟩) 4 4) [0, 0, 0, 0]) := fun w => made_own w 4 (by omega)
  go_enter Try.func23, Try.ntmps23
  go_wp2
  have hB : w.heap.size ≤ w.heap.size + 1 := by omega
  have hM := HM.out (w.alloc (.cells #[.int .i64 0, .slice (some ⟨w.heap.size + 1, 0, none⟩) 4 4, .slice none 0 0, .int .i64 0] 27))
  rw [World.size_alloc] at hM
  refine bodyPost_ret (v := stV 0 (some ⟨w.heap.size + 1, 0, none⟩) 4 4 none 0 0 0) (by simp [results, Try.results23, go_sem]) rfl ⟨_, rfl, ⟨_, _, rfl, hM.mono hB, World.ownsRow_nil _ _ _ _, fun k _ => by simp [Value.ownBlock]⟩, by go_grown⟩

/-- What can be read of a state of its own. -/
theorem sl_of {w : World} {B : Nat} {p code : Int} {ra oa : Option Addr} {rn rc on oc : Nat} {rs os : List Int} (h : StOwn w B (stV p ra rn rc oa on oc code) p rs os code) : Sl w ra rs ∧ Sl w oa os := by
  obtain ⟨ra', rc', oa', oc', e, h1, h2⟩ := h.read
  simp only [stV, Value.agg.injEq, Array.mk.injEq, List.cons.injEq, Value.slice.injEq, and_true, true_and] at e
  obtain ⟨⟨rfl, _⟩, rfl, _⟩ := e
  exact ⟨h1, h2⟩

set_option maxRecDepth 100000 in
set_option maxHeartbeats 1000000 in
theorem newLaw (w : World) :
    Calls Try.prog 5 #[] w fun e w' => e = .returned (.bool true) ∧ Below w.heap.size w w' := by
  go_enter Try.func5, Try.ntmps5
  go_wp2_with fail
  refine (specStateNew_any _).mono ?_
  rintro e w1 ⟨v1, rfl, o1, b1⟩
  obtain ⟨ra1, rc1, oa1, oc1, rfl, -, -⟩ := o1.read
  go_wp2_with fail
  generalize hW1 : w1.alloc (.cells #[.int .i64 0, .slice ra1 4 rc1, .slice oa1 0 oc1, .int .i64 0] 27) = W1
  have a1 : Below w1.heap.size w1 W1 := by rw [← hW1]; exact (Below.refl _ _).alloc (Nat.le_refl _) _
  have z1 : W1.heap.size = w1.heap.size + 1 := by rw [← hW1]; simp
  have X1 : Hid (BoxC W1 w1.heap.size (.int .i64 0) (.slice ra1 4 rc1) (.slice oa1 0 oc1) (.int .i64 0)) := by rw [← hW1]; exact BoxC.new w1 _ _ _ _ _
  have O1 : Hid (StOwn W1 w.heap.size (stV 0 ra1 4 rc1 oa1 0 oc1 0) 0 [0, 0, 0, 0] [] 0) := o1.below a1
  have L1 : Hid (∀ k, hasBlock (stV 0 ra1 4 rc1 oa1 0 oc1 0) k → k < w1.heap.size) := fun k hk => (o1.lt hk).2
  have B1 : Hid (Below w.heap.size w W1) := b1.trans (a1.mono b1.size)
  have y1 : w1.heap.size < W1.heap.size := by omega
  have y0 : w.heap.size ≤ w1.heap.size := b1.size
  clear hW1 a1 z1 o1 b1
  refine (implStateNew_any _).mono ?_
  rintro e w2 ⟨v2, rfl, o2, b2⟩
  obtain ⟨ra2, rc2, oa2, oc2, rfl, -, -⟩ := o2.read
  have a2 : Below w2.heap.size w2 (w2.alloc (.cells #[.int .i64 0, .slice ra2 4 rc2, .slice oa2 0 oc2, .int .i64 0] 27)) := (Below.refl _ _).alloc (Nat.le_refl _) _
  have q2 : Below W1.heap.size W1 (w2.alloc (.cells #[.int .i64 0, .slice ra2 4 rc2, .slice oa2 0 oc2, .int .i64 0] 27)) := b2.trans (a2.mono b2.size)
  have X2 : Hid (BoxC (w2.alloc (.cells #[.int .i64 0, .slice ra2 4 rc2, .slice oa2 0 oc2, .int .i64 0] 27)) w1.heap.size (.int .i64 0) (.slice ra1 4 rc1) (.slice oa1 0 oc1) (.int .i64 0)) := X1.out.below q2
  have Y2 : Hid (BoxC (w2.alloc (.cells #[.int .i64 0, .slice ra2 4 rc2, .slice oa2 0 oc2, .int .i64 0] 27)) w2.heap.size (.int .i64 0) (.slice ra2 4 rc2) (.slice oa2 0 oc2) (.int .i64 0)) := BoxC.new w2 _ _ _ _ _
  have O2 : Hid (StOwn (w2.alloc (.cells #[.int .i64 0, .slice ra2 4 rc2, .slice oa2 0 oc2, .int .i64 0] 27)) w.heap.size (stV 0 ra1 4 rc1 oa1 0 oc1 0) 0 [0, 0, 0, 0] [] 0) := O1.out.below q2
  have P2 : Hid (StOwn (w2.alloc (.cells #[.int .i64 0, .slice ra2 4 rc2, .slice oa2 0 oc2, .int .i64 0] 27)) W1.heap.size (stV 0 ra2 4 rc2 oa2 0 oc2 0) 0 [0, 0, 0, 0] [] 0) := o2.below a2
  have L2 : Hid (∀ k, hasBlock (stV 0 ra2 4 rc2 oa2 0 oc2 0) k → W1.heap.size ≤ k ∧ k < w2.heap.size) := fun k hk => o2.lt hk
  have B2 : Hid (Below w.heap.size w (w2.alloc (.cells #[.int .i64 0, .slice ra2 4 rc2, .slice oa2 0 oc2, .int .i64 0] 27))) := B1.out.trans (q2.mono B1.out.size)
  have y3 : W1.heap.size ≤ w2.heap.size := b2.size
  clear a2 q2 o2 b2 X1 O1 B1
  obtain ⟨c0, c1, c2, c3⟩ := X2.out
  go_wp2_with fail
  clear c0 c1 c2 c3
  generalize w2.alloc (.cells #[.int .i64 0, .slice ra2 4 rc2, .slice oa2 0 oc2, .int .i64 0] 27) = W2 at *
  have y2 : w2.heap.size < W2.heap.size := World.block_lt_of_cell? W2 _ Y2.out.1
  have S1 : Hid (Sl W2 ra1 [0, 0, 0, 0] ∧ Sl W2 oa1 []) := sl_of O2.out
  have S2 : Hid (Sl W2 ra2 [0, 0, 0, 0] ∧ Sl W2 oa2 []) := sl_of P2.out
  refine (eqState_same 0 0 ra2 oa2 ra1 oa1 rc2 oc2 rc1 oc1 [0, 0, 0, 0] [] _ (by simp) (by simp) S2.out.1 S2.out.2 S1.out.1 S1.out.2).mono ?_
  rintro e w3 ⟨rfl, b3⟩
  have X3 : Hid (BoxC w3 w1.heap.size (.int .i64 0) (.slice ra1 4 rc1) (.slice oa1 0 oc1) (.int .i64 0)) := X2.out.below b3
  have Y3 : Hid (BoxC w3 w2.heap.size (.int .i64 0) (.slice ra2 4 rc2) (.slice oa2 0 oc2) (.int .i64 0)) := Y2.out.below b3
  have O3 : Hid (StOwn w3 w.heap.size (stV 0 ra1 4 rc1 oa1 0 oc1 0) 0 [0, 0, 0, 0] [] 0) := O2.out.below b3
  have P3 : Hid (StOwn w3 W1.heap.size (stV 0 ra2 4 rc2 oa2 0 oc2 0) 0 [0, 0, 0, 0] [] 0) := P2.out.below b3
  have B3 : Hid (Below w.heap.size w w3) := B2.out.trans (b3.mono B2.out.size)
  have y4 : W2.heap.size ≤ w3.heap.size := b3.size
  clear b3 X2 Y2 O2 P2 B2 S1 S2
  obtain ⟨c0, c1, c2, c3⟩ := Y3.out
  go_wp2_with fail
  clear c0 c1 c2 c3
  refine (markState_any _ W1.heap.size 0 0 [0, 0, 0, 0] [] 1 _ (by simp) (by simp) (by omega) (by omega) P3.out).mono ?_
  rintro e w4 ⟨rfl, p4, m4⟩
  have nN : ¬ hasBlock (stV 0 ra2 4 rc2 oa2 0 oc2 0) w2.heap.size := fun h => by have := L2.out _ h; omega
  have nM : ¬ hasBlock (stV 0 ra2 4 rc2 oa2 0 oc2 0) w1.heap.size := fun h => by have := L2.out _ h; omega
  have X4 : Hid (BoxC w4 w1.heap.size (.int .i64 0) (.slice ra1 4 rc1) (.slice oa1 0 oc1) (.int .i64 0)) := X3.out.marked m4 nM
  have Y4 : Hid (BoxC w4 w2.heap.size (.int .i64 0) (.slice ra2 4 rc2) (.slice oa2 0 oc2) (.int .i64 0)) := Y3.out.marked m4 nN
  have O4 : Hid (StOwn w4 w.heap.size (stV 0 ra1 4 rc1 oa1 0 oc1 0) 0 [0, 0, 0, 0] [] 0) := m4.st O3.out fun k hk hk' => by have := L1.out _ hk; have := L2.out _ hk'; omega
  have P4 : Hid (StOwn w4 W1.heap.size (stV 0 ra2 4 rc2 oa2 0 oc2 0) 0 (marks 1 4) (marks 5 0) 0) := p4
  have B4 : Hid (Below w.heap.size w w4) := B3.out.trans (m4.below B3.out.size fun k hk => by have := L2.out _ hk; omega)
  have y5 : w3.heap.size ≤ w4.heap.size := m4.size
  clear m4 p4 X3 Y3 O3 P3 B3 nN nM
  obtain ⟨c0, c1, c2, c3⟩ := Y4.out
  go_wp2_with fail
  clear c0 c1 c2 c3
  have S4 : Hid (Sl w4 ra2 (marks 1 4) ∧ Sl w4 oa2 (marks (1 + (4 : Nat)) 0)) := sl_of P4.out
  refine (heldState_marks 0 0 ra2 oa2 4 rc2 0 oc2 1 _ (by omega) (by omega) (by omega) (by omega) S4.out.1 S4.out.2).mono ?_
  rintro e w5 ⟨rfl, b5⟩
  have X5 : Hid (BoxC w5 w1.heap.size (.int .i64 0) (.slice ra1 4 rc1) (.slice oa1 0 oc1) (.int .i64 0)) := X4.out.below b5
  have Y5 : Hid (BoxC w5 w2.heap.size (.int .i64 0) (.slice ra2 4 rc2) (.slice oa2 0 oc2) (.int .i64 0)) := Y4.out.below b5
  have O5 : Hid (StOwn w5 w.heap.size (stV 0 ra1 4 rc1 oa1 0 oc1 0) 0 [0, 0, 0, 0] [] 0) := O4.out.below b5
  have P5 : Hid (StOwn w5 W1.heap.size (stV 0 ra2 4 rc2 oa2 0 oc2 0) 0 (marks 1 4) (marks 5 0) 0) := P4.out.below b5
  have B5 : Hid (Below w.heap.size w w5) := B4.out.trans (b5.mono B4.out.size)
  clear b5 X4 Y4 O4 P4 B4 S4
  go_wp2_with fail
  refine (implStateNew_any _).mono ?_
  rintro e w6 ⟨v6, rfl, o6, b6⟩
  obtain ⟨ra6, rc6, oa6, oc6, rfl, s6, s6'⟩ := o6.read
  have a6 : Below w6.heap.size w6 (w6.alloc (.cells #[.int .i64 0, .slice ra6 4 rc6, .slice oa6 0 oc6, .int .i64 0] 27)) := (Below.refl _ _).alloc (Nat.le_refl _) _
  have q6 : Below w5.heap.size w5 (w6.alloc (.cells #[.int .i64 0, .slice ra6 4 rc6, .slice oa6 0 oc6, .int .i64 0] 27)) := b6.trans (a6.mono b6.size)
  have X6 : Hid (BoxC (w6.alloc (.cells #[.int .i64 0, .slice ra6 4 rc6, .slice oa6 0 oc6, .int .i64 0] 27)) w1.heap.size (.int .i64 0) (.slice ra1 4 rc1) (.slice oa1 0 oc1) (.int .i64 0)) := X5.out.below q6
  have Y6 : Hid (BoxC (w6.alloc (.cells #[.int .i64 0, .slice ra6 4 rc6, .slice oa6 0 oc6, .int .i64 0] 27)) w2.heap.size (.int .i64 0) (.slice ra2 4 rc2) (.slice oa2 0 oc2) (.int .i64 0)) := Y5.out.below q6
  have T6 : Hid (Sl (w6.alloc (.cells #[.int .i64 0, .slice ra6 4 rc6, .slice oa6 0 oc6, .int .i64 0] 27)) ra6 [0, 0, 0, 0] ∧ Sl (w6.alloc (.cells #[.int .i64 0, .slice ra6 4 rc6, .slice oa6 0 oc6, .int .i64 0] 27)) oa6 []) := ⟨s6.below a6, s6'.below a6⟩
  have S6 : Hid (Sl (w6.alloc (.cells #[.int .i64 0, .slice ra6 4 rc6, .slice oa6 0 oc6, .int .i64 0] 27)) ra1 [0, 0, 0, 0] ∧ Sl (w6.alloc (.cells #[.int .i64 0, .slice ra6 4 rc6, .slice oa6 0 oc6, .int .i64 0] 27)) oa1 []) := sl_of (O5.out.below q6)
  have P6 : Hid (StOwn (w6.alloc (.cells #[.int .i64 0, .slice ra6 4 rc6, .slice oa6 0 oc6, .int .i64 0] 27)) W1.heap.size (stV 0 ra2 4 rc2 oa2 0 oc2 0) 0 (marks 1 4) (marks 5 0) 0) := P5.out.below q6
  have B6 : Hid (Below w.heap.size w (w6.alloc (.cells #[.int .i64 0, .slice ra6 4 rc6, .slice oa6 0 oc6, .int .i64 0] 27))) := B5.out.trans (q6.mono B5.out.size)
  clear a6 q6 o6 b6 s6 s6' X5 Y5 O5 P5 B5
  obtain ⟨c0, c1, c2, c3⟩ := X6.out
  go_wp2_with fail
  clear c0 c1 c2 c3
  generalize w6.alloc (.cells #[.int .i64 0, .slice ra6 4 rc6, .slice oa6 0 oc6, .int .i64 0] 27) = W6 at *
  refine (eqState_same 0 0 ra6 oa6 ra1 oa1 rc6 oc6 rc1 oc1 [0, 0, 0, 0] [] _ (by simp) (by simp) T6.out.1 T6.out.2 S6.out.1 S6.out.2).mono ?_
  rintro e w7 ⟨rfl, b7⟩
  obtain ⟨c0, c1, c2, c3⟩ := Y6.out.below b7
  have S7 : Hid (Sl w7 ra2 (marks 1 4) ∧ Sl w7 oa2 (marks (1 + (4 : Nat)) 0)) := sl_of (P6.out.below b7)
  have B7 : Hid (Below w.heap.size w w7) := B6.out.trans (b7.mono B6.out.size)
  clear b7 X6 Y6 T6 S6 P6 B6
  go_wp2_with fail
  refine (heldState_marks 0 0 ra2 oa2 4 rc2 0 oc2 1 _ (by omega) (by omega) (by omega) (by omega) S7.out.1 S7.out.2).mono ?_
  rintro e w8 ⟨rfl, b8⟩
  have B8 : Hid (Below w.heap.size w w8) := B7.out.trans (b8.mono B7.out.size)
  clear b8 S7 B7
  go_wp2
  go_ret
  exact ⟨rfl, B8.out⟩

set_option maxRecDepth 100000 in
theorem newLifted (os : Os) (started : os.Started) (H : Type) (enc : TypeId × Value → H) :
    ReturnsInHanded {} Try.checked os 5 .any (Rows.fnExactStateNewSpec.pre6 enc Try.prog Try.f5 Rows.fnExactStateNewRow.domain false) (Rows.fnExactStateNewSpec.post enc Try.prog Try.f5 false true false false) := by
  refine returnsInHanded_of_change (C := Try.checked) NewLaw.own started (by kernel_rfl) Try.func5
    (ChangeSpec.witness6 (enc := enc) (C := Try.checked) false ⟨#[], #[], []⟩ 8 (by kernel_rfl) (by kernel_rfl) (by kernel_rfl) (by kernel_rfl)) ?_
  intro W base args ds gs before hval0 hW _ _
  have hW' := hW
  obtain ⟨p, q, hA0, hV, rfl, hfz, hnd⟩ := hW
  have hA : DataW.TrodAll enc Try.prog W 0 (fun _ => true) true Try.f5.params.toList args.toList ds p := hA0
  rw [Try.params5] at hA
  obtain ⟨rfl, rfl, rfl⟩ := trodAll_none hA
  obtain ⟨rfl, rfl⟩ := trodVars_none hV
  refine (newLaw W).mono fun e W' ⟨he, bel⟩ => ?_
  subst he
  exact ⟨_, rfl, _, _, _, [], _, [], hW', trodAll_mk1 (shut_bool Try.underlying4 _), trodAll_mk0, rfl, bel.frame _, fun h => by cases h⟩

theorem stateNew_holds : Rows.FnExactStateNewSaid :=
  OpenClaim.holds_of_wide 5 Try.f5 rfl rfl rfl rfl rfl rfl rfl ⟨rfl, rfl, rfl, rfl, rfl⟩ rfl rfl rfl rfl rfl (by kernel_rfl) Try.func5 (by kernel_rfl)
    (of_decide_eq_true (by kernel_rfl)) (by unfold Func.isWrapper; first | (rw [if_pos (by decide +kernel)]; kernel_rfl) | (rw [if_neg (by decide +kernel)]; exact ⟨rfl, rfl⟩))
    (fun os started H enc _ => newLifted os started H enc)

end Go.Proofs.Ytgnljnmkeomfhaa
