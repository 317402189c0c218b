/- Proved: called with whatever way, the program's Numbers answers as the model's Numbers, writes into no argument, and its answer is its own. No condition. -/
import Derived.Test.YtkniainoimddnabNuB
namespace Go.Proofs.Ytkniainoimddnab
open Go.ChangeShapes Go.WideShapes Go.ChangeAt Go.RowKit

theorem OwnI.far {w w' : World} {B : Nat} {v : Value} {xs : List Int} {row : Option Nat} (h : OwnI w B v xs) (hg : w.grownBy w' row) (hne : ∀ j, v.ownBlock = some j → row ≠ some j) : OwnI w' B v xs := by
  refine h.kept hg ?_
  cases hv : v.ownBlock with
  | none => exact .inl rfl
  | some k => exact .inr (fun e => hne k hv e.symm)
theorem OwnI.sl {w : World} {B : Nat} {a0 : Option Addr} {cap : Nat} {xs : List Int} (h : OwnI w B (.slice a0 xs.length cap) xs) : Sl w a0 xs := by
  obtain ⟨a1, c1, e, s⟩ := h.form
  simp only [Value.slice.injEq] at e
  obtain ⟨rfl, -, -⟩ := e
  exact s

set_option maxRecDepth 100000 in
set_option maxHeartbeats 4000000 in
theorem numbersLaw_small (a0 : Option Addr) (len cap : Nat) (eh : Nat → I2) (w : World) (hlen : len ≤ 1048576) (HT : Hid (CopiesT w a0 len cap eh)) :
    Calls Try.prog 4 #[.slice a0 len cap] w fun e w' => e = .returned (.bool true) ∧ Below w.heap.size w w' := by
  have hl' : (len : Int) ≤ 1048576 := by omega
  have hl0 : ¬ (1048576 - (len : Int) < 0) := by omega
  have hX : (numL eh len).length ≤ 1048576 := Nat.le_trans (numL_le eh len) hlen
  have hX' : ((numL eh len).length : Int) ≤ 1048576 := by omega
  generalize hx : numL eh len = X at hX hX'
  have HX : Hid (numL eh len = X) := hx
  clear hx
  go_enter Try.func4, Try.ntmps4
  go_wp2_with fail
  refine (szItemS_small _ _ _ _ _ hl' (Int.le_refl _)).mono ?_
  rintro e w0 ⟨rfl, rfl⟩
  go_wp2_with fail
  refine (HT.out _ (Below.refl _ _)).mono ?_
  rintro e w1 ⟨rfl, hi1, hz1, hb1, -⟩
  go_wp2_with fail
  refine (specNumbers_any _ _ _ _ eh _ hlen hz1 hi1).mono ?_
  rintro e w2 ⟨v0, rfl, o2, hb2⟩
  rw [HX.out] at o2
  obtain ⟨av, cv, rfl, -⟩ := o2.form
  have hs2 := hb2.size
  have LV : Hid (∀ j, (Value.slice av X.length cv).ownBlock = some j → w1.heap.size ≤ j ∧ j < w2.heap.size) := fun j hj => o2.lt j hj
  have O2 : Hid (OwnI w2 w1.heap.size (.slice av X.length cv) X) := o2
  have B2 := belowMid hb1 hb2 (Nat.le_of_lt hz1)
  clear hb1 hb2 hi1 o2
  go_wp2_with fail
  refine (HT.out _ B2).mono ?_
  rintro e w3 ⟨rfl, hi3, hz3, hb3, hf3⟩
  have HI3 : Hid (ItAt w3 w2.heap.size 0 len eh) := hi3
  have HF3 : Hid (∀ j, w3.frozen? ⟨w2.heap.size, j, none⟩ = false) := hf3
  have O3 : Hid (OwnI w3 w1.heap.size (.slice av X.length cv) X) := O2.out.below hb3
  have B3 := belowMid B2 hb3 (by omega)
  clear hi3 hb3 B2 hf3 O2
  go_wp2_with fail
  refine (implNumbers_any _ _ _ _ eh _ hlen hz3 HI3.out).mono ?_
  rintro e w4 ⟨v1, rfl, o4, hb4⟩
  rw [HX.out] at o4
  obtain ⟨ag, cg, rfl, -⟩ := o4.form
  have hs4 := hb4.size
  have LG : Hid (∀ j, (Value.slice ag X.length cg).ownBlock = some j → w3.heap.size ≤ j) := fun j hj => (o4.lt j hj).1
  have G4 : Hid (OwnI w4 w3.heap.size (.slice ag X.length cg) X) := o4
  have O4 : Hid (OwnI w4 w1.heap.size (.slice av X.length cv) X) := O3.out.below hb4
  have HI4 : Hid (ItAt w4 w2.heap.size 0 len eh) := HI3.out.below hb4 hz3
  have HF4 : Hid (∀ j, w4.frozen? ⟨w2.heap.size, j, none⟩ = false) := fun j => (World.frozen?_of_block (hb4.block _ hz3)).trans (HF3.out j)
  have B4 := belowMid B3 hb4 (by omega)
  clear HI3 B3 hb4 HF3 O3 o4
  go_wp2_with fail
  refine (eqIntS_same ag av cg cv X _ hX G4.out.sl O4.out.sl).mono ?_
  rintro e w5 ⟨rfl, hb5⟩
  have hs5 := hb5.size
  have G5 : Hid (OwnI w5 w3.heap.size (.slice ag X.length cg) X) := G4.out.below hb5
  have O5 : Hid (OwnI w5 w1.heap.size (.slice av X.length cv) X) := O4.out.below hb5
  have HI5 : Hid (ItAt w5 w2.heap.size 0 len eh) := HI4.out.below hb5 (by omega)
  have HF5 : Hid (∀ j, w5.frozen? ⟨w2.heap.size, j, none⟩ = false) := fun j => (World.frozen?_of_block (hb5.block w2.heap.size (by omega))).trans (HF4.out j)
  have B5 := belowMid B4 hb5 (by omega)
  clear HI4 B4 hb5 HF4 O4 G4
  go_wp2_with fail
  refine (HT.out _ B5).mono ?_
  rintro e w6 ⟨rfl, hi6, hz6, hb6, -⟩
  have HI6 : Hid (ItAt w6 w5.heap.size 0 len eh) := hi6
  have HJ6 : Hid (ItAt w6 w2.heap.size 0 len eh) := HI5.out.below hb6 (by omega)
  have HF6 : Hid (∀ j, w6.frozen? ⟨w2.heap.size, j, none⟩ = false) := fun j => (World.frozen?_of_block (hb6.block w2.heap.size (by omega))).trans (HF5.out j)
  have G6 : Hid (OwnI w6 w3.heap.size (.slice ag X.length cg) X) := G5.out.below hb6
  have O6 : Hid (OwnI w6 w1.heap.size (.slice av X.length cv) X) := O5.out.below hb6
  have B6 := belowMid B5 hb6 (by omega)
  clear hi6 HI5 B5 hb6 HF5 O5 G5
  go_wp2_with fail
  refine (eqItemS_same _ _ _ _ _ eh _ hlen (by omega) hz6 HJ6.out HI6.out).mono ?_
  rintro e w7 ⟨rfl, hb7⟩
  have hs7 := hb7.size
  have R7 : Hid (RoomT w7 w2.heap.size len) := RoomT.of_it (HJ6.out.below hb7 (by omega)) fun j => (World.frozen?_of_block (hb7.block w2.heap.size (by omega))).trans (HF6.out j)
  have G7 : Hid (OwnI w7 w3.heap.size (.slice ag X.length cg) X) := G6.out.below hb7
  have O7 : Hid (OwnI w7 w1.heap.size (.slice av X.length cv) X) := O6.out.below hb7
  have B7 := belowMid B6 hb7 (by omega)
  clear HI6 HJ6 B6 hb7 HF6 O6 G6
  go_wp2_with fail
  refine (markItemS_any w2.heap.size len len 1 w7 hlen (by omega) (by omega) R7.out).mono ?_
  rintro e w8 ⟨rfl, g8⟩
  have hs8 := g8.size
  have G8 : Hid (OwnI w8 w3.heap.size (.slice ag X.length cg) X) := G7.out.far g8 fun j hj e => by
    simp only [Option.some.injEq] at e
    have := LG.out j hj
    omega
  have O8 : Hid (OwnI w8 w1.heap.size (.slice av X.length cv) X) := O7.out.far g8 fun j hj e => by
    simp only [Option.some.injEq] at e
    have := LV.out j hj
    omega
  have B8 : Below w0.heap.size w0 w8 := B7.grown g8 (by omega) (fun k hk => by simp at hk; omega)
  have hk : ¬ (1 + 2 * (len : Int) < 0) := by omega
  clear g8 R7 B7 G7 O7
  go_wp2_with fail
  refine (eqIntS_same ag av cg cv X _ hX G8.out.sl O8.out.sl).mono ?_
  rintro e w9 ⟨rfl, hb9⟩
  have hs9 := hb9.size
  have G9 : Hid (OwnI w9 w3.heap.size (.slice ag X.length cg) X) := G8.out.below hb9
  have O9 : Hid (OwnI w9 w1.heap.size (.slice av X.length cv) X) := O8.out.below hb9
  have B9 := belowMid B8 hb9 (by omega)
  clear B8 hb9 G8 O8
  go_wp2_with fail
  refine (markIntS_any ag cg w3.heap.size X 1 w9 hX (by omega) (by omega) G9.out).mono ?_
  rintro e w10 ⟨rfl, m10, g10⟩
  have hs10 := g10.size
  have M10 : Hid (OwnI w10 w3.heap.size (.slice ag X.length cg) (marks 1 X.length)) := m10
  have O10 : Hid (OwnI w10 w1.heap.size (.slice av X.length cv) X) := O9.out.far g10 fun j hj e => by
    have := LV.out j hj
    have := LG.out j e
    omega
  have B10 : Below w0.heap.size w0 w10 := B9.grown g10 (by omega) (fun k hk => by have := LG.out k hk; omega)
  clear g10 B9 G9 O9 m10
  go_wp2_with fail
  refine (heldIntS_marks ag cg X.length 1 w10 hX (by omega) (by omega) (by have h := M10.out; have hl := marks_length 1 X.length; obtain ⟨a1, c1, e, s⟩ := h.form; rw [hl] at e; simp only [Value.slice.injEq] at e; obtain ⟨rfl, -, -⟩ := e; exact s)).mono ?_
  rintro e w10' ⟨rfl, rfl⟩
  have hq : ¬ (1 + (X.length : Int) < 0) := by omega
  go_wp2_with fail
  refine (HT.out _ B10).mono ?_
  rintro e w11 ⟨rfl, hi11, hz11, hb11, -⟩
  have HI11 : Hid (ItAt w11 w10'.heap.size 0 len eh) := hi11
  have M11 : Hid (OwnI w11 w3.heap.size (.slice ag X.length cg) (marks 1 X.length)) := M10.out.below hb11
  have O11 : Hid (OwnI w11 w1.heap.size (.slice av X.length cv) X) := O10.out.below hb11
  have B11 := belowMid B10 hb11 (by omega)
  clear B10 hb11 M10 O10 hi11
  go_wp2_with fail
  refine (implNumbers_any _ _ _ _ eh _ hlen hz11 HI11.out).mono ?_
  rintro e w12 ⟨v2, rfl, o12, hb12⟩
  rw [HX.out] at o12
  obtain ⟨ah, ch, rfl, sh⟩ := o12.form
  have SH : Hid (Sl w12 ah X) := sh
  have hs12 := hb12.size
  have M12 : Hid (OwnI w12 w3.heap.size (.slice ag X.length cg) (marks 1 X.length)) := M11.out.below hb12
  have O12 : Hid (OwnI w12 w1.heap.size (.slice av X.length cv) X) := O11.out.below hb12
  have B12 := belowMid B11 hb12 (by omega)
  clear B11 hb12 M11 O11 HI11 o12 sh
  go_wp2_with fail
  refine (eqIntS_same ah av ch cv X _ hX SH.out O12.out.sl).mono ?_
  rintro e w13 ⟨rfl, hb13⟩
  have M13 : Hid (OwnI w13 w3.heap.size (.slice ag X.length cg) (marks 1 X.length)) := M12.out.below hb13
  have B13 := belowMid B12 hb13 (by omega)
  clear B12 hb13 M12 O12 SH
  go_wp2_with fail
  refine (heldIntS_marks ag cg X.length 1 w13 hX (by omega) (by omega) (by have h := M13.out; have hl := marks_length 1 X.length; obtain ⟨a1, c1, e, s⟩ := h.form; rw [hl] at e; simp only [Value.slice.injEq] at e; obtain ⟨rfl, -, -⟩ := e; exact s)).mono ?_
  rintro e w14 ⟨rfl, rfl⟩
  go_wp2
  go_ret
  exact ⟨rfl, B13⟩

set_option maxHeartbeats 1000000 in
theorem numbersLaw_great (a0 : Option Addr) (len cap : Nat) (w : World) (hlen : 1048576 < len) (hm : len ≤ maxLen) :
    Calls Try.prog 4 #[.slice a0 len cap] w fun e w' => e = .returned (.bool true) ∧ Below w.heap.size w w' := by
  go_enter Try.func4, Try.ntmps4
  go_wp2_with fail
  refine (szItemS_great _ _ _ _ _ (by omega) (by omega) (Int.le_refl _) hm).mono ?_
  rintro e w0 ⟨rfl, rfl⟩
  go_wp2
  go_ret
  exact ⟨rfl, Below.refl _ _⟩

set_option maxRecDepth 100000 in
theorem numbersLifted (os : Os) (started : os.Started) (H : Type) (enc : TypeId × Value → H) :
    ReturnsInHanded {} Try.checked os 4 .any (Rows.fnExactNumbersSpec.pre6 enc Try.prog Try.f4 Rows.fnExactNumbersRow.domain false) (Rows.fnExactNumbersSpec.post enc Try.prog Try.f4 false true false false) := by
  refine returnsInHanded_of_change (C := Try.checked) Try.own started (by kernel_rfl) Try.func4
    (ChangeSpec.witness6 (enc := enc) (C := Try.checked) false ⟨#[], #[.slice none 0 0], []⟩ 8 (by kernel_rfl) (by kernel_rfl) (by kernel_rfl) (by kernel_rfl)) ?_
  intro W base args ds gs before hval0 hW _ _
  have hval : ∀ (j : Nat) t v, Try.f4.params[j]? = some t → args[j]? = some v → Value.okWide Try.prog W .any base t v := hval0
  have hW' := hW
  obtain ⟨p, q, hA0, hV, rfl, hfz, hnd⟩ := hW
  have hA : DataW.TrodAll enc Try.prog W 0 (fun _ => true) true Try.f4.params.toList args.toList ds p := hA0
  rw [Try.params4] at hA hval
  obtain ⟨v0, d0, rfl, rfl, h0⟩ := trodAll_one hA
  obtain ⟨rfl, rfl⟩ := trodVars_none hV
  obtain ⟨a0, len, cap, rfl⟩ := okWide_slice Try.underlying43 (hval 0 43 v0 rfl rfl)
  have lt0 : ∀ x ∈ p, x.block < W.heap.size := by obtain ⟨m, hm⟩ := h0; exact DataW.trod_lt m _ _ _ hm
  clear hA0 hval0
  have hlaw : Calls Try.prog 4 #[.slice a0 len cap] W fun e w' => e = .returned (.bool true) ∧ Below W.heap.size W w' := by
    obtain ⟨hm, hrow⟩ := open_itRow h0
    by_cases hs : len ≤ 1048576
    · obtain ⟨eh, hg⟩ := copiesT_of (cap := cap) hs hrow
      exact numbersLaw_small a0 len cap eh W hs hg
    · exact numbersLaw_great a0 len cap W (by omega) hm
  refine hlaw.mono fun e W' ⟨he, bel⟩ => ?_
  subst he
  exact ⟨_, rfl, _, _, _, [], _, [], hW', trodAll_mk1 (shut_bool Try.underlying4 _), trodAll_mk1 (Below.trod Try.laidOut (by kernel_rfl) (of_decide_eq_true (by kernel_rfl)) h0 bel lt0), rfl, bel.frame _, fun h => by cases h⟩

theorem numbers_holds : Rows.FnExactNumbersSaid :=
  OpenClaim.holds_of_wide 4 Try.f4 rfl rfl rfl rfl rfl rfl rfl ⟨rfl, rfl, rfl, rfl, rfl⟩ rfl rfl rfl rfl rfl (by kernel_rfl) Try.func4 (by kernel_rfl)
    (of_decide_eq_true (by kernel_rfl)) (by unfold Func.isWrapper; first | (rw [if_pos (by decide +kernel)]; kernel_rfl) | (rw [if_neg (by decide +kernel)]; exact ⟨rfl, rfl⟩))
    (fun os started H enc _ => numbersLifted os started H enc)

end Go.Proofs.Ytkniainoimddnab
