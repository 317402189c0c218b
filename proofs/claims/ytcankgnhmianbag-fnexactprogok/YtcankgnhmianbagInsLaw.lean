/- Proved: called with whatever Ins and counts, the program's InsOk answers as the model's InsOk. No condition. -/
import Derived.Test.YtcankgnhmianbagInsF
import Derived.ProofKit
import Derived.OpenShut
import Derived.ShutString
import Derived.ChangeOld
import Derived.Below
namespace Go.Proofs.Ytcankgnhmianbag
open Go.ChangeShapes Go.WideShapes Go.ChangeAt Go.RowKit

theorem Try.own : ownKnob Try.prog.godebug = none := by kernel_rfl
theorem Try.laidOut : laidOutB Try.prog = true := by kernel_rfl
theorem cellsLawIns : Try.prog.cellsOf 23 = 5 := by kernel_rfl
theorem cellsInt : Try.prog.cellsOf 3 = 1 := by kernel_rfl

theorem array5 {cs : Array Value} (h : cs.size = 5) : ∃ c0 c1 c2 c3 c4, cs = #[c0, c1, c2, c3, c4] := by
  obtain ⟨l⟩ := cs
  match l, h with
  | [c0, c1, c2, c3, c4], _ => exact ⟨c0, c1, c2, c3, c4, rfl⟩

/-- Five cells that read as a struct of five ints are five numbers. -/
theorem open_insCells {H : Type} {enc : TypeId × Value → H} {w : World} {base fuel : Nat} {spare : Nat → Bool} {held : Bool} {c0 c1 c2 c3 c4 : Value} {x : DataW H × List MemPlace}
    (hf : DataW.trod enc Try.prog w base spare held fuel 23 [c0, c1, c2, c3, c4] = some x) :
    ∃ op r a b n : Int, c0 = .int .i64 op ∧ c1 = .int .i64 r ∧ c2 = .int .i64 a ∧ c3 = .int .i64 b ∧ c4 = .int .i64 n := by
  obtain ⟨xs, m, -, -, -, hl, hx⟩ := DataW.trod_struct Try.underlying23 hf
  have hl : xs.length = 5 := hl
  have q0 : DataW.trod enc Try.prog w base spare held m 3 [c0] = xs[0]? := by simpa [cellsInt] using hx 0 _ rfl
  have q1 : DataW.trod enc Try.prog w base spare held m 3 [c1] = xs[1]? := by simpa [cellsInt] using hx 1 _ rfl
  have q2 : DataW.trod enc Try.prog w base spare held m 3 [c2] = xs[2]? := by simpa [cellsInt] using hx 2 _ rfl
  have q3 : DataW.trod enc Try.prog w base spare held m 3 [c3] = xs[3]? := by simpa [cellsInt] using hx 3 _ rfl
  have q4 : DataW.trod enc Try.prog w base spare held m 3 [c4] = xs[4]? := by simpa [cellsInt] using hx 4 _ rfl
  rw [List.getElem?_eq_getElem (by omega)] at q0 q1 q2 q3 q4
  obtain ⟨z0, e0, -, -⟩ := DataW.trod_int Try.underlying3 q0
  obtain ⟨z1, e1, -, -⟩ := DataW.trod_int Try.underlying3 q1
  obtain ⟨z2, e2, -, -⟩ := DataW.trod_int Try.underlying3 q2
  obtain ⟨z3, e3, -, -⟩ := DataW.trod_int Try.underlying3 q3
  obtain ⟨z4, e4, -, -⟩ := DataW.trod_int Try.underlying3 q4
  simp only [List.cons.injEq, and_true] at e0 e1 e2 e3 e4
  exact ⟨z0, z1, z2, z3, z4, e0, e1, e2, e3, e4⟩

/-- An Ins that came in: five numbers. -/
theorem open_ins {H : Type} {enc : TypeId × Value → H} {w : World} {base b0 : Nat} {spare : Nat → Bool} {held : Bool} {rc : Reach} {v : Value} {d : DataW H} {p : List MemPlace}
    (hv : Value.okWide Try.prog w rc b0 23 v) (h : DataW.Trod enc Try.prog w base spare held 23 v d p) :
    ∃ op r a b n : Int, v = insV op r a b n := by
  obtain ⟨cs, rfl, hsz⟩ := okWide_struct Try.underlying23 hv
  obtain ⟨c0, c1, c2, c3, c4, rfl⟩ := array5 (hsz.trans cellsLawIns)
  obtain ⟨fuel, hf⟩ := h
  obtain ⟨op, r, a, b, n, rfl, rfl, rfl, rfl, rfl⟩ := open_insCells (c0 := c0) (c1 := c1) (c2 := c2) (c3 := c3) (c4 := c4) (by simpa [Value.cells] using hf)
  exact ⟨op, r, a, b, n, rfl⟩

set_option maxRecDepth 100000 in
set_option maxHeartbeats 1000000 in
theorem insLaw (op r a b n places procs : Int) (w : World) :
    Calls Try.prog 3 #[insV op r a b n, .int .i64 places, .int .i64 procs] w fun e w' => e = .returned (.bool true) ∧ Below w.heap.size w w' := by
  go_enter Try.func3, Try.ntmps3
  go_wp2_with fail
  refine (toIns_any _ _ _ _ _ _).mono ?_
  rintro e w1 ⟨rfl, hb1⟩
  go_wp2_with fail
  refine (specInsOk_any _ _ _ _ _ _ _ _).mono ?_
  rintro e w2 ⟨rfl, hb2⟩
  have hz1 : w.heap.size < w1.heap.size := by have := hb1.size; simp at this; omega
  have hz2 : w.heap.size < w2.heap.size := by have := hb2.size; omega
  have d0 : w2.cell? ⟨w.heap.size, 0, none⟩ = some (.int .i64 op) := by rw [hb2.cell hz1, hb1.cell (by simp)]; simp
  have d1 : w2.cell? ⟨w.heap.size, 1, none⟩ = some (.int .i64 r) := by rw [hb2.cell hz1, hb1.cell (by simp)]; simp
  have d2 : w2.cell? ⟨w.heap.size, 2, none⟩ = some (.int .i64 a) := by rw [hb2.cell hz1, hb1.cell (by simp)]; simp
  have d3 : w2.cell? ⟨w.heap.size, 3, none⟩ = some (.int .i64 b) := by rw [hb2.cell hz1, hb1.cell (by simp)]; simp
  have d4 : w2.cell? ⟨w.heap.size, 4, none⟩ = some (.int .i64 n) := by rw [hb2.cell hz1, hb1.cell (by simp)]; simp
  go_wp2_with fail
  refine (toIns_any _ _ _ _ _ _).mono ?_
  rintro e w3 ⟨rfl, hb3⟩
  go_wp2_with fail
  refine (implInsOk_any _ _ _ _ _ _ _ _).mono ?_
  rintro e w4 ⟨rfl, hb4⟩
  go_wp2
  go_ret
  refine ⟨rfl, ?_⟩
  have h0 : Below w.heap.size w (w.alloc (.cells #[.int .i64 op, .int .i64 r, .int .i64 a, .int .i64 b, .int .i64 n] 23)) := (Below.refl _ _).alloc (Nat.le_refl _) _
  have hs : w.heap.size ≤ (w.alloc (.cells #[.int .i64 op, .int .i64 r, .int .i64 a, .int .i64 b, .int .i64 n] 23)).heap.size := by simp
  have s3 := hb3.size
  exact (((h0.trans (hb1.mono hs)).trans (hb2.mono (Nat.le_of_lt hz1))).trans (hb3.mono (Nat.le_of_lt hz2))).trans (hb4.mono (by omega))

set_option maxRecDepth 100000 in
theorem insLifted (os : Os) (started : os.Started) (H : Type) (enc : TypeId × Value → H) :
    ReturnsInHanded {} Try.checked os 3 .any (Rows.fnExactInsOkSpec.pre6 enc Try.prog Try.f3 Rows.fnExactInsOkRow.domain false) (Rows.fnExactInsOkSpec.post enc Try.prog Try.f3 false true false false) := by
  refine returnsInHanded_of_change (C := Try.checked) Try.own started (by kernel_rfl) Try.func3
    (ChangeSpec.witness6 (enc := enc) (C := Try.checked) false ⟨#[], #[insV 0 0 0 0 0, .int .i64 0, .int .i64 0], []⟩ 8 (by kernel_rfl) (by kernel_rfl) (by kernel_rfl) (by kernel_rfl)) ?_
  intro W base args ds gs before hval0 hW _ _
  have hval : ∀ (j : Nat) t v, Try.f3.params[j]? = some t → args[j]? = some v → Value.okWide Try.prog W .any base t v := hval0
  have hW' := hW
  obtain ⟨p, q, hA0, hV, rfl, hfz, hnd⟩ := hW
  have hA : DataW.TrodAll enc Try.prog W 0 (fun _ => true) true Try.f3.params.toList args.toList ds p := hA0
  rw [Try.params3] at hA hval
  obtain ⟨v0, v1, v2, d0, d1, d2, p0, p1, p2, rfl, rfl, rfl, h0, h1, h2⟩ := trodAll_three hA
  obtain ⟨rfl, rfl⟩ := trodVars_none hV
  obtain ⟨op, r, a, b, n, rfl⟩ := open_ins (hval 0 23 v0 rfl rfl) h0
  obtain ⟨places, rfl, rfl, rfl, w1⟩ := open_int Try.underlying3 (hval 1 3 v1 rfl rfl) h1
  obtain ⟨procs, rfl, rfl, rfl, w2⟩ := open_int Try.underlying3 (hval 2 3 v2 rfl rfl) h2
  have lt0 : ∀ x ∈ p0, x.block < W.heap.size := by obtain ⟨m, hm⟩ := h0; exact DataW.trod_lt m _ _ _ hm
  clear hA0 hval0
  refine (insLaw op r a b n places procs W).mono fun e W' ⟨he, bel⟩ => ?_
  subst he
  exact ⟨_, rfl, _, _, _, [], _, [], hW', trodAll_mk1 (shut_bool Try.underlying4 _), (trodAll_cons_mk (Below.trod Try.laidOut (by kernel_rfl) (of_decide_eq_true (by kernel_rfl)) h0 bel lt0) (trodAll_cons_mk (shut_int Try.underlying3 w1) (trodAll_cons_mk (shut_int Try.underlying3 w2) trodAll_mk0))), rfl, bel.frame _, fun h => by cases h⟩

theorem insOk_holds : Rows.FnExactInsOkSaid :=
  OpenClaim.holds_of_wide 3 Try.f3 rfl rfl rfl rfl rfl rfl rfl ⟨rfl, rfl, rfl, rfl, rfl⟩ rfl rfl rfl rfl rfl (by kernel_rfl) Try.func3 (by kernel_rfl)
    (of_decide_eq_true (by kernel_rfl)) (by unfold Func.isWrapper; first | (rw [if_pos (by decide +kernel)]; kernel_rfl) | (rw [if_neg (by decide +kernel)]; exact ⟨rfl, rfl⟩))
    (fun os started H enc _ => insLifted os started H enc)

end Go.Proofs.Ytcankgnhmianbag
