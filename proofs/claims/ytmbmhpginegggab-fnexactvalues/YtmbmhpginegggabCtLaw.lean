/- Proved: called with whatever list of events, kind and peer, the program's Count answers as the model's Count, and writes into no argument. No condition. -/
import Derived.Test.YtmbmhpginegggabRpC
namespace Go.Proofs.Ytmbmhpginegggab
open Go.ChangeShapes Go.WideShapes Go.ChangeAt Go.RowKit

/-- An int that came in. -/
theorem open_int {H : Type} {enc : TypeId × Value → H} {w : World} {base : Nat} {spare : Nat → Bool} {held : Bool} {v : Value} {d : DataW H} {p : List MemPlace}
    {b0 : Nat} {rc : Reach} (hv : Value.okWide Try.prog w rc b0 3 v) (h : DataW.Trod enc Try.prog w base spare held 3 v d p) : ∃ z : Int, v = .int .i64 z ∧ (-9223372036854775808 ≤ z ∧ z ≤ 9223372036854775807) := by
  obtain ⟨z, rfl⟩ := okWide_int Try.underlying3 hv
  obtain ⟨fuel, hf⟩ := h
  obtain ⟨z', e, -, hw⟩ := DataW.trod_int Try.underlying3 hf
  simp [Value.cells] at e
  subst e
  refine ⟨z, rfl, ?_⟩
  have h1 : IntKind.i64.min = -9223372036854775808 := by decide
  rw [← h1]
  simpa [Lit.wf] using hw

theorem below_mid {w w1 w2 : World} {B : Nat} (h1 : Below B w w1) (h2 : Below w1.heap.size w1 w2) (hB : B ≤ w1.heap.size) : Below B w w2 := h1.trans (h2.mono hB)

set_option maxRecDepth 100000 in
set_option maxHeartbeats 1000000 in
theorem countLaw_small (a0 : Option Addr) (len cap : Nat) (eh : Nat → E3) (z1 z2 : Int) (w : World) (hlen : len ≤ 1048576) (HT : Hid (CopiesE w a0 len cap eh)) :
    Calls Try.prog 3 #[.slice a0 len cap, .int .i64 z1, .int .i64 z2] w fun e w' => e = .returned (.bool true) ∧ Below w.heap.size w w' := by
  have hl' : (len : Int) ≤ 1048576 := by omega
  have hl0 : ¬ (1048576 - (len : Int) < 0) := by omega
  go_enter Try.func3, Try.ntmps3
  go_wp2_with fail
  refine (szEventS_small _ _ _ _ _ hl' (Int.le_refl _)).mono ?_
  rintro e w0 ⟨rfl, rfl⟩
  go_wp2_with fail
  refine (HT.out _ (Below.refl _ _)).mono ?_
  rintro e w1 ⟨rfl, hi1, hz1, hb1, -⟩
  go_wp2_with fail
  refine (specCount_any _ _ _ _ eh z1 z2 _ hlen hz1 hi1).mono ?_
  rintro e w2 ⟨rfl, hb2⟩
  clear hi1
  have hs2 := hb2.size
  have B2 := below_mid hb1 hb2 (Nat.le_of_lt hz1)
  clear hb1 hb2
  go_wp2_with fail
  refine (HT.out _ B2).mono ?_
  rintro e w3 ⟨rfl, hi3, hz3, hb3, -⟩
  have HI3 : Hid (EvAt w3 w2.heap.size 0 len eh) := hi3
  have B3 := below_mid B2 hb3 (by omega)
  clear hi3 hb3 B2
  go_wp2_with fail
  refine (implCount_any _ _ _ _ eh z1 z2 _ hlen hz3 HI3.out).mono ?_
  rintro e w4 ⟨rfl, hb4⟩
  have hs4 := hb4.size
  have B4 := below_mid B3 hb4 (by omega)
  have HI4 : Hid (EvAt w4 w2.heap.size 0 len eh) := HI3.out.below hb4 hz3
  clear HI3 B3 hb4
  go_wp2_with fail
  refine (HT.out _ B4).mono ?_
  rintro e w5 ⟨rfl, hi5, hz5, hb5, -⟩
  have HI5 : Hid (EvAt w5 w4.heap.size 0 len eh) := hi5
  have HJ5 : Hid (EvAt w5 w2.heap.size 0 len eh) := HI4.out.below hb5 (by omega)
  have B5 := below_mid B4 hb5 (by omega)
  clear hi5 HI4 B4 hb5
  go_wp2_with fail
  refine (eqEventS_same _ _ _ _ _ eh _ hlen (by omega) hz5 HJ5.out HI5.out).mono ?_
  rintro e w6 ⟨rfl, hb6⟩
  have B6 := below_mid B5 hb6 (by omega)
  clear HJ5 HI5 B5 hb6
  go_wp2
  go_ret
  exact ⟨rfl, B6⟩

set_option maxHeartbeats 1000000 in
theorem countLaw_great (a0 : Option Addr) (len cap : Nat) (z1 z2 : Int) (w : World) (hlen : 1048576 < len) (hm : len ≤ maxLen) :
    Calls Try.prog 3 #[.slice a0 len cap, .int .i64 z1, .int .i64 z2] w fun e w' => e = .returned (.bool true) ∧ Below w.heap.size w w' := by
  go_enter Try.func3, Try.ntmps3
  go_wp2_with fail
  refine (szEventS_great _ _ _ _ _ (by omega) (by omega) (Int.le_refl _) hm).mono ?_
  rintro e w0 ⟨rfl, rfl⟩
  go_wp2
  go_ret
  exact ⟨rfl, Below.refl _ _⟩

set_option maxRecDepth 100000 in
theorem countLifted (os : Os) (started : os.Started) (H : Type) (enc : TypeId × Value → H) :
    ReturnsInHanded {} Try.checked os 3 .any (Rows.fnExactCountSpec.pre6 enc Try.prog Try.f3 Rows.fnExactCountRow.domain false) (Rows.fnExactCountSpec.post enc Try.prog Try.f3 false true false false) := by
  refine returnsInHanded_of_change (C := Try.checked) Try.own started (by kernel_rfl) Try.func3
    (ChangeSpec.witness6 (enc := enc) (C := Try.checked) false ⟨#[], #[.slice none 0 0, .int .i64 0, .int .i64 0], []⟩ 8 (by kernel_rfl) (by kernel_rfl) (by kernel_rfl) (by kernel_rfl)) ?_
  intro W base args ds gs before hval0 hW _ _
  have hval : ∀ (j : Nat) t v, Try.f3.params[j]? = some t → args[j]? = some v → Value.okWide Try.prog W .any base t v := hval0
  have hW' := hW
  obtain ⟨p, q, hA0, hV, rfl, hfz, hnd⟩ := hW
  have hA : DataW.TrodAll enc Try.prog W 0 (fun _ => true) true Try.f3.params.toList args.toList ds p := hA0
  rw [Try.params3] at hA hval
  obtain ⟨v0, v1, v2, d0, d1, d2, p0, p1, p2, rfl, rfl, rfl, h0, h1, h2⟩ := trodAll_three hA
  obtain ⟨rfl, rfl⟩ := trodVars_none hV
  obtain ⟨a0, len, cap, rfl⟩ := okWide_slice Try.underlying22 (hval 0 22 v0 rfl rfl)
  obtain ⟨z1, rfl, r1⟩ := open_int (hval 1 3 v1 rfl rfl) h1
  obtain ⟨z2, rfl, r2⟩ := open_int (hval 2 3 v2 rfl rfl) h2
  have lt0 : ∀ x ∈ p0, x.block < W.heap.size := by obtain ⟨m, hm⟩ := h0; exact DataW.trod_lt m _ _ _ hm
  have lt1 : ∀ x ∈ p1, x.block < W.heap.size := by obtain ⟨m, hm⟩ := h1; exact DataW.trod_lt m _ _ _ hm
  have lt2 : ∀ x ∈ p2, x.block < W.heap.size := by obtain ⟨m, hm⟩ := h2; exact DataW.trod_lt m _ _ _ hm
  clear hA0 hval0
  have hlaw : Calls Try.prog 3 #[.slice a0 len cap, .int .i64 z1, .int .i64 z2] W fun e w' => e = .returned (.bool true) ∧ Below W.heap.size W w' := by
    obtain ⟨hm, hrow⟩ := open_evRow h0
    by_cases hs : len ≤ 1048576
    · obtain ⟨eh, hg⟩ := copiesE_of (cap := cap) hs hrow
      exact countLaw_small a0 len cap eh z1 z2 W hs hg
    · exact countLaw_great a0 len cap z1 z2 W (by omega) hm
  refine hlaw.mono fun e W' ⟨he, bel⟩ => ?_
  subst he
  exact ⟨_, rfl, _, _, _, [], _, [], hW', trodAll_mk1 (shut_bool Try.underlying4 _), (trodAll_cons_mk (Below.trod Try.laidOut (by kernel_rfl) (of_decide_eq_true (by kernel_rfl)) h0 bel lt0) (trodAll_cons_mk (Below.trod Try.laidOut (by kernel_rfl) (of_decide_eq_true (by kernel_rfl)) h1 bel lt1) (trodAll_cons_mk (Below.trod Try.laidOut (by kernel_rfl) (of_decide_eq_true (by kernel_rfl)) h2 bel lt2) trodAll_mk0))), rfl, bel.frame _, fun h => by cases h⟩

theorem count_holds : Rows.FnExactCountSaid :=
  OpenClaim.holds_of_wide 3 Try.f3 rfl rfl rfl rfl rfl rfl rfl ⟨rfl, rfl, rfl, rfl, rfl⟩ rfl rfl rfl rfl rfl (by kernel_rfl) Try.func3 (by kernel_rfl)
    (of_decide_eq_true (by kernel_rfl)) (by unfold Func.isWrapper; first | (rw [if_pos (by decide +kernel)]; kernel_rfl) | (rw [if_neg (by decide +kernel)]; exact ⟨rfl, rfl⟩))
    (fun os started H enc _ => countLifted os started H enc)

end Go.Proofs.Ytmbmhpginegggab
