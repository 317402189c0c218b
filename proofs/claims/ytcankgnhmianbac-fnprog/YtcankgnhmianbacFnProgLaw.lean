/- Proved: whatever bytes a program and a place are drawn from, ProgOk and InsOk answer as the model's do; each place of a right program is right, and the program is right for one process more, up to the most. No condition. -/
import Derived.Test.YtcankgnhmianbacDrawF
import Derived.ProofKit
import Derived.OpenShut
import Derived.ShutString
import Derived.ChangeOld
import Derived.Below
namespace Go.Proofs.Ytcankgnhmianbac
open Go.ChangeShapes Go.WideShapes Go.ChangeAt Go.RowKit

theorem Try.own : ownKnob Try.prog.godebug = none := by kernel_rfl
theorem Try.laidOut : laidOutB Try.prog = true := by kernel_rfl

/-- What is right for some processes is right for one more. -/
theorem insOkB_more (o r a b n places procs : Int) (h : insOkB o r a b n places procs = true) (hp : procs < 4) : insOkB o r a b n places (procs + 1) = true := by
  simp only [insOkB, Bool.and_eq_true] at h ⊢
  obtain ⟨⟨⟨⟨h1, h2⟩, h3⟩, h4⟩, h5⟩ := h
  have hq : inB procs 1 4 = true := h4
  simp only [inB, decide_eq_true_eq] at hq
  refine ⟨⟨⟨⟨h1, h2⟩, h3⟩, by simp [inB]; omega⟩, ?_⟩
  unfold opOkB at h5 ⊢
  rcases opCases o with g | rfl | rfl | rfl | rfl | rfl | rfl | rfl | rfl | rfl | rfl | rfl
  · rw [if_neg (by omega), if_neg (by omega), if_neg (by omega), if_neg (by omega), if_neg (by omega), if_neg (by omega), if_neg (by omega), if_neg (by omega), if_neg (by omega), if_neg (by omega), if_neg (by omega)] at h5
    cases h5
  all_goals (simp [inB] at h5 ⊢; first | exact h5 | omega)

theorem progOkB_more (g : Nat → I5) (len : Nat) (procs : Int) (h : progOkB g len procs = true) (hp : procs ≠ 4) : progOkB g len (procs + 1) = true := by
  simp only [progOkB, Bool.and_eq_true] at h ⊢
  obtain ⟨h1, h2, h3⟩ := h
  have hq := h3
  simp only [inB, decide_eq_true_eq] at hq
  refine ⟨?_, h2, by simp [inB]; omega⟩
  rw [allOk, List.all_eq_true] at h1 ⊢
  exact fun i hi => insOkB_more _ _ _ _ _ _ _ (h1 i hi) (by omega)

theorem progOkB_at (g : Nat → I5) (len : Nat) (procs : Int) (h : progOkB g len procs = true) (k : Nat) (hk : k < len) : insOkB (g k).o (g k).r (g k).a (g k).b (g k).n len procs = true := by
  simp only [progOkB, Bool.and_eq_true] at h
  have h1 := h.1
  rw [allOk, List.all_eq_true] at h1
  exact h1 k (List.mem_range.2 hk)

set_option maxHeartbeats 400000 in
theorem big_any (a0 : Option Addr) (len cap : Nat) (w : World) :
    Calls Try.prog 4 #[.slice a0 len cap] w fun e w' => e = .returned (.bool (decide ((1048576 : Int) < len))) ∧ w' = w := by
  go_enter Try.func4, Try.ntmps4
  go_wp2
  go_ret
  exact ⟨rfl, rfl⟩

set_option maxHeartbeats 400000 in
theorem fnProg_big (a0 : Option Addr) (len cap : Nat) (w : World) (hl : 1048576 < len) :
    Calls Try.prog 3 #[.slice a0 len cap] w fun e w' => e = .returned (.bool true) ∧ Below w.heap.size w w' := by
  have hl' : (1048576 : Int) < (len : Int) := by omega
  go_enter Try.func3, Try.ntmps3
  go_wp2_with fail
  refine (big_any a0 len cap _).mono ?_
  rintro e w0 ⟨rfl, rfl⟩
  go_wp2
  go_ret
  exact ⟨rfl, Below.refl _ _⟩

theorem below_of_grown {w w' : World} (h : w.grownBy w' none) : Below w.heap.size w w' := ⟨h.os, h.tape, h.output, h.size, fun k hk => h.block k hk (by simp)⟩

set_option maxRecDepth 100000 in
set_option maxHeartbeats 4000000 in
theorem fnProg_small (a0 : Option Addr) (len cap : Nat) (w : World) (hl : len ≤ 1048576) (hB : BytesAt w w.heap.size a0 len) :
    Calls Try.prog 3 #[.slice a0 len cap] w fun e w' => e = .returned (.bool true) ∧ Below w.heap.size w w' := by
  have hl' : ¬ (1048576 : Int) < (len : Int) := by omega
  have HB : Hid (BytesAt w w.heap.size a0 len) := hB
  clear hB
  go_enter Try.func3, Try.ntmps3
  go_wp2_with fail
  refine (big_any a0 len cap _).mono ?_
  rintro e w0 ⟨rfl, rfl⟩
  go_wp2_with fail
  refine (DrawProgOk_any _ len cap a0 _ HB.out (Nat.le_refl _) hl).mono ?_
  rintro e w1 ⟨g, n, gc, p, rfl, hn, hgl, hgw, ⟨G, hG⟩, hg1⟩
  have hnm : n ≤ maxLen := by unfold maxLen; omega
  have HG1 : Hid (InsAt w1 g 0 n G) := hG
  have B1 := below_of_grown hg1
  clear hG hg1
  go_wp2_with fail
  refine (implProgOk_any _ _ _ _ G _ _ hnm hgl HG1.out).mono ?_
  rintro e w2 ⟨rfl, hb2⟩
  have HG2 : Hid (InsAt w2 g 0 n G) := HG1.out.below hb2 hgl
  have s1 := B1.size
  have s2 := hb2.size
  have B2 := B1.trans (hb2.mono s1)
  clear HG1 hb2 B1
  go_wp2_with fail
  refine (specProgOk_any _ _ _ _ G _ _ hnm (by omega) HG2.out).mono ?_
  rintro e w3 ⟨rfl, hb3⟩
  have HG3 : Hid (InsAt w3 g 0 n G) := HG2.out.below hb3 (by omega)
  have s3 := hb3.size
  have B3 := B2.trans (hb3.mono (by omega))
  clear HG2 hb3 B2
  go_wp2_with fail
  refine (DrawInsOk_any w0.heap.size len cap a0 _ (HB.out.kept fun j hj => B3.block j hj) (by omega) hl).mono ?_
  rintro e w4 ⟨o, r, a, b, k, q, rfl, hg4⟩
  have hb4 := below_of_grown hg4
  have HG4 : Hid (InsAt w4 g 0 n G) := HG3.out.below hb4 (by omega)
  have s4 := hb4.size
  have B4 := B3.trans (hb4.mono (by omega))
  clear HG3 hb4 hg4 B3
  go_wp2_with fail
  first | (go_region_with (first | (go_at_call 9; refine (implInsOk_any _ _ _ _ _ _ _ _).mono ?_; rintro e w5 ⟨rfl, hb5⟩; have d0 := hb5.cell (p := ⟨w4.heap.size, 0, none⟩) (by simp); have d1 := hb5.cell (p := ⟨w4.heap.size, 1, none⟩) (by simp); have d2 := hb5.cell (p := ⟨w4.heap.size, 2, none⟩) (by simp); have d3 := hb5.cell (p := ⟨w4.heap.size, 3, none⟩) (by simp); have d4 := hb5.cell (p := ⟨w4.heap.size, 4, none⟩) (by simp)) | (go_at_call 10; refine (specInsOk_any _ _ _ _ _ _ _ _).mono ?_; rintro e w6 ⟨rfl, hb6⟩))) | fail
  all_goals
    have s5 := hb5.size
    have s6 := hb6.size
    have K : Below w4.heap.size w4 w6 := (((Below.refl w4.heap.size w4).alloc (Nat.le_refl _) _).drew.trans (hb5.mono (by simp))).trans (hb6.mono (by simp at s5; omega))
    have HG6 : Hid (InsAt w6 g 0 n G) := HG4.out.below K (by omega)
    have B6 := B4.trans (K.mono (by omega))
    have s7 := K.size
    clear hb5 hb6 d0 d1 d2 d3 d4 HG4 K B4 s5 s6
    rcases Bool.eq_false_or_eq_true (progOkB G n p) with ht | ht
    case inr =>
      go_wp2
      go_ret
      exact ⟨rfl, B6⟩
    case inl =>
      have HT : Hid (progOkB G n p = true) := ht
      have hp : 1 ≤ p ∧ p ≤ 4 := by
        have h := ht
        simp only [progOkB, Bool.and_eq_true] at h
        have h3 := h.2.2
        simpa [inB] using h3
      obtain ⟨p1, p4⟩ := hp
      go_wp2_with fail
      go_loopw [9] (fun i wr => ∃ k : Nat, k ≤ n ∧ i = .int .i64 k ∧ Below w6.heap.size w6 wr) (fun i _ => n - (intOf i).toNat)
      case atStart => exact ⟨0, Nat.zero_le _, rfl, Below.refl _ _⟩
      case round =>
        obtain ⟨k, hk, rfl, hbw⟩ := hrel
        have hsw := hbw.size
        by_cases hlt : k < n
        · obtain ⟨c0, c1, c2, c3, c4⟩ := HG6.out.below hbw (by omega) k hlt
          rw [Nat.zero_add] at c0 c1 c2 c3 c4
          have ho := progOkB_at G n p HT.out k hlt
          go_wp2_with (go_at_call 9; refine (implInsOk_any _ _ _ _ _ _ _ _).mono ?_; rintro e w8 ⟨rfl, hb8⟩)
          go_roundw
          case rel => exact ⟨k + 1, by omega, by go_num, hbw.trans (hb8.mono hsw)⟩
          case measure => simp [intOf]; omega
        · by_cases h4 : p = 4
          · have h4' : (p == 4) = true := by simp [h4]
            clear h4
            go_wp2
            go_ret
            exact ⟨rfl, B6.trans (hbw.mono (by omega))⟩
          · have h4' : (p == 4) = false := by simp [h4]
            have hmore := progOkB_more G n p HT.out h4
            clear h4
            go_wp2_with (go_at_call 6; refine (implProgOk_any _ _ _ _ G _ _ hnm (by omega) (HG6.out.below hbw (by omega))).mono ?_; rintro e w8 ⟨rfl, hb8⟩)
            go_ret
            exact ⟨rfl, (B6.trans (hbw.mono (by omega))).trans (hb8.mono (by omega))⟩

theorem cellLt {w : World} {p : Addr} {v : Value} (h : w.cell? p = some v) : p.block < w.heap.size := World.block_lt_of_cell? w p h

/-- Bytes that came in: as many as an int can count, each in memory that was there. -/
theorem open_bytes {H : Type} {enc : TypeId × Value → H} {w : World} {a0 : Option Addr} {len cap : Nat} {d : DataW H} {p : List MemPlace}
    (h : DataW.Trod enc Try.prog w 0 (fun _ => true) true 22 (.slice a0 len cap) d p) : len ≤ maxLen ∧ BytesAt w w.heap.size a0 len := by
  obtain ⟨fuel, hf⟩ := h
  rcases open_ints Try.underlying22 Try.underlying5 (by kernel_rfl) hf with ⟨hcs, _⟩ | ⟨x, l, c, zs, hcs, _, hl, hm, hz, _, hcell, hwz⟩
  · simp [Value.cells] at hcs
    obtain ⟨_, rfl, _⟩ := hcs
    exact ⟨Nat.zero_le _, .inl rfl⟩
  · simp [Value.cells] at hcs
    obtain ⟨rfl, rfl, rfl⟩ := hcs
    refine ⟨Nat.le_trans hl hm, ?_⟩
    by_cases h0 : len = 0
    · exact .inl h0
    right
    have hz' : zs.length = cap := by simpa using hz
    obtain ⟨b, off, rfl, hc⟩ := ints_at hcell (by omega)
    refine ⟨b, off, rfl, cellLt (hc 0 (by omega)), fun j hj => ⟨zs.getD j 0, hc j (by omega), ?_⟩⟩
    have hmem : zs.getD j 0 ∈ zs := by
      rw [List.getD_eq_getElem?_getD, List.getElem?_eq_getElem (by omega)]
      exact List.getElem_mem _
    exact bounds_u8 (hwz _ hmem)

set_option maxRecDepth 100000 in
theorem fnProgLifted (os : Os) (started : os.Started) (H : Type) (enc : TypeId × Value → H) :
    ReturnsInHanded {} Try.checked os 3 .any (Rows.fnProgSpec.pre6 enc Try.prog Try.f3 Rows.fnProgRow.domain false) (Rows.fnProgSpec.post enc Try.prog Try.f3 false true false false) := by
  refine returnsInHanded_of_change (C := Try.checked) Try.own started (by kernel_rfl) Try.func3
    (ChangeSpec.witness6 (enc := enc) (C := Try.checked) false ⟨#[], #[.slice none 0 0], []⟩ 8 (by kernel_rfl) (by kernel_rfl) (by kernel_rfl) (by kernel_rfl)) ?_
  intro W base args ds gs before hval0 hW _ _
  have hval : ∀ (j : Nat) t v, Try.f3.params[j]? = some t → args[j]? = some v → Value.okWide Try.prog W .any base t v := hval0
  have hW' := hW
  obtain ⟨p, q, hA0, hV, rfl, hfz, hnd⟩ := hW
  have hA : DataW.TrodAll enc Try.prog W 0 (fun _ => true) true Try.f3.params.toList args.toList ds p := hA0
  rw [Try.params3] at hA hval
  obtain ⟨v0, d0, rfl, rfl, h0⟩ := trodAll_one hA
  obtain ⟨rfl, rfl⟩ := trodVars_none hV
  obtain ⟨a0, len, cap, rfl⟩ := okWide_slice Try.underlying22 (hval 0 22 v0 rfl rfl)
  have lt0 : ∀ x ∈ p, x.block < W.heap.size := by obtain ⟨m, hm⟩ := h0; exact DataW.trod_lt m _ _ _ hm
  clear hA0 hval0
  have hlaw : Calls Try.prog 3 #[.slice a0 len cap] W fun e w' => e = .returned (.bool true) ∧ Below W.heap.size W w' := by
    obtain ⟨_, hB⟩ := open_bytes h0
    by_cases hl : len ≤ 1048576
    · exact fnProg_small a0 len cap W hl hB
    · exact fnProg_big a0 len cap W (by omega)
  refine hlaw.mono fun e W' ⟨he, bel⟩ => ?_
  subst he
  exact ⟨_, rfl, _, _, _, [], _, [], hW', trodAll_mk1 (shut_bool Try.underlying4 _), trodAll_mk1 (Below.trod Try.laidOut (by kernel_rfl) (of_decide_eq_true (by kernel_rfl)) h0 bel lt0), rfl, bel.frame _, fun h => by cases h⟩

theorem fnProg_holds : Rows.FnProgSaid :=
  OpenClaim.holds_of_wide 3 Try.f3 rfl rfl rfl rfl rfl rfl rfl ⟨rfl, rfl, rfl, rfl, rfl⟩ rfl rfl rfl rfl rfl (by kernel_rfl) Try.func3 (by kernel_rfl)
    (of_decide_eq_true (by kernel_rfl)) (by unfold Func.isWrapper; first | (rw [if_pos (by decide +kernel)]; kernel_rfl) | (rw [if_neg (by decide +kernel)]; exact ⟨rfl, rfl⟩))
    (fun os started H enc _ => fnProgLifted os started H enc)

end Go.Proofs.Ytcankgnhmianbac
