/- Proved: called with whatever list of places, state and event, the program's Do answers as the model's Do, writes into no argument, and its answer is its own. No condition. -/
import Derived.Test.YtmbmhpginegggaaDjB
import Derived.Test.YtmbmhpginegggaaRpA
namespace Go.Proofs.Ytmbmhpginegggaa
open Go.ChangeShapes Go.WideShapes Go.ChangeAt Go.RowKit

set_option maxHeartbeats 1000000 in
theorem doLaw_great (a0 : Option Addr) (len cap : Nat) (p code : Int) (ra oa : Option Addr) (rn rc on oc : Nat) (ek eq ev : Int) (w : World) (hm : len ≤ maxLen) (hr : rn ≤ maxLen) (ho : on ≤ maxLen) (hs : 1048576 < (len : Int) + rn + on) :
    Calls Try.prog 6 #[.slice a0 len cap, stV p ra rn rc oa on oc code, evV ek eq ev] w fun e w' => e = .returned (.bool true) ∧ Below w.heap.size w w' := by
  by_cases hl : len ≤ 1048576
  · have n1 : ¬ (1048576 - (len : Int) < 0) := by omega
    have n3 : 1048576 - (len : Int) < (rn : Int) + on := by omega
    go_enter Try.func6, Try.ntmps6
    go_wp2_with fail
    refine (szInsS_small _ _ _ _ hl).mono ?_
    rintro e w0 ⟨rfl, rfl⟩
    go_wp2_with fail
    refine (szState_great _ _ _ _ _ _ _ _ _ _ n3 (by omega) (by omega) hr ho).mono ?_
    rintro e w1 ⟨rfl, b1⟩
    have B1 : Hid (Below w.heap.size w w1) := below_up (by go_grown) b1 (by simp; omega)
    clear b1
    go_wp2
    go_ret
    exact ⟨rfl, B1.out⟩
  · go_enter Try.func6, Try.ntmps6
    go_wp2_with fail
    refine (szInsS_great _ _ _ _ (by omega) hm).mono ?_
    rintro e w0 ⟨rfl, rfl⟩
    go_wp2
    go_ret
    exact ⟨rfl, by go_grown⟩

set_option maxRecDepth 100000 in
theorem doLifted (os : Os) (started : os.Started) (H : Type) (enc : TypeId × Value → H) :
    ReturnsInHanded {} Try.checked os 6 .any (Rows.fnExactDoSpec.pre6 enc Try.prog Try.f6 Rows.fnExactDoRow.domain false) (Rows.fnExactDoSpec.post enc Try.prog Try.f6 false true false false) := by
  refine returnsInHanded_of_change (C := Try.checked) Try.own started (by kernel_rfl) Try.func6
    (ChangeSpec.witness6 (enc := enc) (C := Try.checked) false ⟨#[], #[.slice none 0 0, stV 0 none 0 0 none 0 0 0, evV 0 0 0], []⟩ 8 (by kernel_rfl) (by kernel_rfl) (by kernel_rfl) (by kernel_rfl)) ?_
  intro W base args ds gs before hval0 hW _ _
  have hval : ∀ (j : Nat) t v, Try.f6.params[j]? = some t → args[j]? = some v → Value.okWide Try.prog W .any base t v := hval0
  have hW' := hW
  obtain ⟨p, q, hA0, hV, rfl, hfz, hnd⟩ := hW
  have hA : DataW.TrodAll enc Try.prog W 0 (fun _ => true) true Try.f6.params.toList args.toList ds p := hA0
  rw [Try.params6] at hA hval
  obtain ⟨v0, v1, v2, d0, d1, d2, p0, p1, p2, rfl, rfl, rfl, h0, h1, h2⟩ := trodAll_three hA
  obtain ⟨rfl, rfl⟩ := trodVars_none hV
  obtain ⟨a0, len, cap, rfl⟩ := okWide_slice Try.underlying44 (hval 0 44 v0 rfl rfl)
  obtain ⟨at', code, ra, oa, rc, oc, rs, os', rfl, hr, ho, s1, s2⟩ := open_state (hval 1 45 v1 rfl rfl) h1
  obtain ⟨ek, eq, ev, rfl⟩ := open_event (hval 2 53 v2 rfl rfl) h2
  have lt0 : ∀ x ∈ p0, x.block < W.heap.size := by obtain ⟨m, hm⟩ := h0; exact DataW.trod_lt m _ _ _ hm
  have lt1 : ∀ x ∈ p1, x.block < W.heap.size := by obtain ⟨m, hm⟩ := h1; exact DataW.trod_lt m _ _ _ hm
  have lt2 : ∀ x ∈ p2, x.block < W.heap.size := by obtain ⟨m, hm⟩ := h2; exact DataW.trod_lt m _ _ _ hm
  clear hA0 hval0
  have hlaw : Calls Try.prog 6 #[.slice a0 len cap, stV at' ra rs.length rc oa os'.length oc code, evV ek eq ev] W fun e w' => e = .returned (.bool true) ∧ Below W.heap.size W w' := by
    obtain ⟨hm, hrow⟩ := open_insRow h0
    by_cases hs : (len : Int) + rs.length + os'.length ≤ 1048576
    · obtain ⟨g, hg⟩ := copiesF_of (cap := cap) (by omega) hrow
      exact doLaw_small a0 len cap g at' code ra oa rc oc rs os' ek eq ev W hs hg s1 s2
    · exact doLaw_great a0 len cap at' code ra oa rs.length rc os'.length oc ek eq ev W hm hr ho (by omega)
  refine hlaw.mono fun e W' ⟨he, bel⟩ => ?_
  subst he
  exact ⟨_, rfl, _, _, _, [], _, [], hW', trodAll_mk1 (shut_bool Try.underlying4 _), (trodAll_cons_mk (Below.trod Try.laidOut (by kernel_rfl) (of_decide_eq_true (by kernel_rfl)) h0 bel lt0) (trodAll_cons_mk (Below.trod Try.laidOut (by kernel_rfl) (of_decide_eq_true (by kernel_rfl)) h1 bel lt1) (trodAll_cons_mk (Below.trod Try.laidOut (by kernel_rfl) (of_decide_eq_true (by kernel_rfl)) h2 bel lt2) trodAll_mk0))), rfl, bel.frame _, fun h => by cases h⟩

theorem do_holds : Rows.FnExactDoSaid :=
  OpenClaim.holds_of_wide 6 Try.f6 rfl rfl rfl rfl rfl rfl rfl ⟨rfl, rfl, rfl, rfl, rfl⟩ rfl rfl rfl rfl rfl (by kernel_rfl) Try.func6 (by kernel_rfl)
    (of_decide_eq_true (by kernel_rfl)) (by unfold Func.isWrapper; first | (rw [if_pos (by decide +kernel)]; kernel_rfl) | (rw [if_neg (by decide +kernel)]; exact ⟨rfl, rfl⟩))
    (fun os started H enc _ => doLifted os started H enc)

end Go.Proofs.Ytmbmhpginegggaa
