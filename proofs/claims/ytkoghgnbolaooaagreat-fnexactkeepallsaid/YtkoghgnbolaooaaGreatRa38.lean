/- The walk of the model's KeptOk. -/
import Derived.Test.YtkoghgnbolaooaaGreatRa34
import Derived.Deep.RegionLaw
import Derived.BigQuiet
namespace Go.Proofs.YtkoghgnbolaooaaGreat
open Go.ChangeShapes Go.WideShapes Go.ChangeAt Go.RowKit Go.Deep Go.Sort Go.Maps

theorem slice_kp (a : Option Addr) (len cap h : Nat) (hh : h ≤ cap) (w : World) : (Instr.slice 30 (.slice a len cap) none (some (.int .i64 (h : Int))) none).run Tryz.prog w = .ok (.slice a h cap) w := by
  have hh' : (h : Int) ≤ (cap : Int) := by omega
  cases a with
  | none => simp [go_sem, sliced, hh']
  | some a => simp [go_sem, sliced, hh']

set_option maxRecDepth 100000 in
set_option maxHeartbeats 4000000 in
theorem specKeptOk_any (gb n gc : Nat) (ea : Option Addr) (m ec : Nat) (ka : Option Addr) (c kc : Nat) (g : Nat → I5) (eh : Nat → E3) (q : Nat → K9) (w : World) (hn : n ≤ maxLen) (hg : gb < w.heap.size) (hI : InsAt w gb 0 n g) (hE : EvL w ea m eh) (hm : m ≤ 1048576) (hec : m ≤ ec) (hc : c ≤ 1048576) (hA : AllKept w ka c q) (hl : ∀ i, i < c → (q i).rs.length ≤ 1048576 ∧ (q i).os.length ≤ 1048576) :
    Calls Tryz.prog 37 #[.slice (some ⟨gb, 0, none⟩) n gc, .slice ea m ec, .slice ka c kc] w fun e w' => e = .returned (.bool (pB (KpOk g n eh m q c))) ∧ Below w.heap.size w w' := by
  have hc' : (c : Int) ≤ 1048576 := by omega
  have hm' : (m : Int) ≤ 1048576 := by omega
  have HA : Hid (AllKept w ka c q) := hA
  have HL : Hid (∀ i, i < c → (q i).rs.length ≤ 1048576 ∧ (q i).os.length ≤ 1048576) := hl
  have HR : Hid (∀ wx j, j ≤ m → Below w.heap.size w wx → Calls Tryz.prog 25 #[.slice (some ⟨gb, 0, none⟩) n gc, .slice ea j ec] wx (DoneR wx (resS (repO g n eh j)) (repO g n eh j).isSome)) := fun wx j hj hb => specReplay_l gb n gc ea j ec g eh wx hn (Nat.lt_of_lt_of_le hg hb.size) (hI.below hb hg) ((hE.below hb).take hj) (by omega)
  have HEC : Hid (m ≤ ec) := hec
  clear hA hl hI hE hn hg hec
  rcases Bool.eq_false_or_eq_true (repO g n eh m).isSome with hs | hs
  case inr =>
    have HV : Hid (pB (KpOk g n eh m q c) = false) := pB_false fun h => by
      rw [h.so] at hs
      cases hs
    have HS : Hid ((repO g n eh m).isSome = false) := hs
    clear hs
    go_enter Tryz.func37, Tryz.ntmps37
    go_wp2_with fail
    refine (HR.out w m (Nat.le_refl _) (Below.refl _ _)).mono ?_
    rintro e w1 hd
    rw [HS.out] at hd
    obtain ⟨v1, rfl, o1, b1⟩ := hd
    obtain ⟨ra, rc, oa, oc, rfl, -, -⟩ := o1.read
    have B1 : Hid (Below w.heap.size w w1) := b1
    clear b1 o1
    go_wp2
    go_ret
    rw [HV.out]
    exact ⟨rfl, B1.out.trans ((below_alloc _ _).mono B1.out.size)⟩
  have HS : Hid ((repO g n eh m).isSome = true) := hs
  clear hs
  by_cases h0 : c = 0
  · subst h0
    have HV : Hid (pB (KpOk g n eh m q 0) = false) := pB_false fun h => absurd h.li.1 (by omega)
    go_enter Tryz.func37, Tryz.ntmps37
    go_wp2_with fail
    refine (HR.out w m (Nat.le_refl _) (Below.refl _ _)).mono ?_
    rintro e w1 hd
    rw [HS.out] at hd
    obtain ⟨v1, rfl, o1, b1⟩ := hd
    obtain ⟨ra, rc, oa, oc, rfl, -, -⟩ := o1.read
    have B1 : Hid (Below w.heap.size w w1) := b1
    clear b1 o1
    go_wp2
    go_ret
    rw [HV.out]
    exact ⟨rfl, B1.out.trans ((below_alloc _ _).mono B1.out.size)⟩
  have hz : ¬ ((c : Int) = 0) := by omega
  have hpos : (0 : Int) < (c : Int) := by omega
  have hcz : ((c : Int) == 0) = false := by simpa using h0
  go_enter Tryz.func37, Tryz.ntmps37
  go_wp2_with fail
  refine (HR.out w m (Nat.le_refl _) (Below.refl _ _)).mono ?_
  rintro e w1 hd
  rw [HS.out] at hd
  obtain ⟨v1, rfl, o1, b1⟩ := hd
  obtain ⟨ra, rc, oa, oc, rfl, -, -⟩ := o1.read
  generalize resS (repO g n eh m) = S0 at *
  have B2 : Hid (Below w.heap.size w (w1.alloc (.cells #[.int .i64 S0.p, .slice ra S0.rs.length rc, .slice oa S0.os.length oc, .int .i64 S0.c] 43))) := b1.trans ((below_alloc _ _).mono b1.size)
  clear b1 o1
  go_upto_region 2 with fail
  generalize w1.alloc (.cells #[.int .i64 S0.p, .slice ra S0.rs.length rc, .slice oa S0.os.length oc, .int .i64 S0.c] 43) = w2 at *
  obtain ⟨b, off, rfl, c0, -⟩ := (HA.out.below B2.out).at (show 0 < c by omega)
  have c0' : w2.cell? ⟨b, off, none⟩ = some (.int .i64 (q 0).n) := by simpa using c0
  clear c0
  rcases Bool.eq_false_or_eq_true ((q 0).n != 0) with t | t
  · have HV : Hid (pB (KpOk g n eh m q c) = false) := pB_false fun h => by
      rw [h.li.2.1] at t
      simp at t
    go_wp2
    go_ret
    rw [HV.out]
    exact ⟨rfl, B2.out⟩
  have H0 : Hid ((q 0).n = 0) := by
    show (q 0).n = 0
    simpa using t
  go_wp2_with fail
  clear c0' t
  try simp only [hcz]
  go_loopw [9] (fun i wr => ∃ k : Nat, k ≤ c ∧ i = .int .i64 k ∧ Hid (Below w.heap.size w wr) ∧ Hid (∀ j, j < k → KpAt g n eh m (q j)) ∧ Hid (∀ j, j + 1 < k → (q j).n < (q (j + 1)).n)) (fun i _ => c - (intOf i).toNat)
  case atStart => exact ⟨0, Nat.zero_le _, rfl, B2.out, fun j hj => by omega, fun j hj => by omega⟩
  case round =>
    clear B2
    obtain ⟨k, hk, rfl, HB, HK, HQ⟩ := hrel
    by_cases hlt : k < c
    · have hlt' : (k : Int) < (c : Int) := by omega
      have HAr : Hid (AllKept wr (some ⟨b, off, none⟩) c q) := HA.out.below HB.out
      obtain ⟨b1, o1, e1, c0, -⟩ := HAr.out.at hlt
      simp only [Option.some.injEq, Addr.mk.injEq, and_true] at e1
      obtain ⟨rfl, rfl⟩ := e1
      have HZ : Hid (inB (q k).n 0 m = true ↔ (0 ≤ (q k).n ∧ (q k).n ≤ (m : Int))) := by
        show _ ↔ _
        simp [inB]
      rcases Bool.eq_false_or_eq_true (inB (q k).n 0 m) with t1 | t1
      case inr =>
        have HV : Hid (pB (KpOk g n eh m q c) = false) := pB_false fun h => by
          have h1 := h.al k hlt
          rw [HZ.out.2 ⟨h1.1, h1.2.1⟩] at t1
          cases t1
        have HT1 : Hid (inB (q k).n 0 m = false) := t1
        have q0 := cell_regrown c0
        clear t1 c0 HZ
        go_upto_region 7 with fail
        refine wp_region_quiet_below (by kernel_rfl) (by kernel_rfl) ?_
        iterate 7 (quiet_step (fail))
        quiet_step (first | (go_at_call 38; exact Calls.regrown_same (l1In_any _ _ _ _)))
        rw [HT1.out]
        repeat (first | go_big_quiet_skip | quiet_step (fail))
        refine wpQuiet_nil ?_
        intro _ hw'
        obtain ⟨⟨dd, os⟩, hw''⟩ := hw'
        subst hw''
        have B3 : Hid (Below w.heap.size w (grow (redrawn wr dd) os)) := HB.out.trans ((below_regrown wr dd os).mono HB.out.size)
        generalize grow (redrawn wr dd) os = w3 at *
        clear q0
        go_wp2
        go_ret
        rw [HV.out]
        exact ⟨rfl, B3.out⟩
      -- ARM
      obtain ⟨hn0, hn1⟩ := HZ.out.1 t1
      obtain ⟨j, hj⟩ : ∃ j : Nat, (q k).n = j := ⟨(q k).n.toNat, by omega⟩
      have HJ : Hid ((q k).n = j ∧ (j : Int) ≤ m) := ⟨hj, by omega⟩
      have HT1 : Hid (inB (q k).n 0 m = true) := t1
      clear t1 HZ hj hn0 hn1
      have q0 := cell_regrown c0
      by_cases hk0 : k = 0
      · have HQ' : Hid (∀ i, i + 1 < k + 1 → (q i).n < (q (i + 1)).n) := fun i hi => by omega
        have HD : Hid (decide ((k : Int) > 0) = false) := decide_eq_false (by omega)
        have HD2 : Hid (decide (0 < k) = false) := decide_eq_false (by omega)
        clear c0 hk0
        go_upto_region 7 with fail
        refine wp_region_quiet_below (by kernel_rfl) (by kernel_rfl) ?_
        iterate 7 (quiet_step (fail))
        quiet_step (first | (go_at_call 38; exact Calls.regrown_same (l1In_any _ _ _ _)))
        rw [HT1.out]
        iterate 5 (quiet_step (fail))
        (try first | rw [HD.out] | rw [HD2.out])
        repeat (first | go_big_quiet_skip | quiet_step (fail))
        refine wpQuiet_nil ?_
        intro _ hw'
        obtain ⟨⟨dd, os⟩, hw''⟩ := hw'
        subst hw''
        have B3 : Hid (Below w.heap.size w (grow (redrawn wr dd) os)) := HB.out.trans ((below_regrown wr dd os).mono HB.out.size)
        generalize grow (redrawn wr dd) os = w3 at *
        clear q0 HAr HB HT1
        have hjm : j ≤ m := by have := HJ.out; omega
        obtain ⟨b1, o1, e1, c0, c1, c2, c3, c4⟩ := (HA.out.below B3.out).at hlt
        simp only [Option.some.injEq, Addr.mk.injEq, and_true] at e1
        obtain ⟨rfl, rfl⟩ := e1
        rw [HJ.out.1] at c0
        have hsl := slice_kp ea m ec j (Nat.le_trans hjm HEC.out)
        go_wp2_with fail
        clear c0 c1 c2 c3 c4 hsl
        refine (HR.out w3 j hjm B3.out).mono ?_
        rintro e w4 ⟨v4, rfl, o4, b4⟩
        obtain ⟨ra4, rc4, oa4, oc4, rfl, -, -⟩ := o4.read
        have HSJ : Hid (repO g n eh j = some (resS (repO g n eh j))) := by
          show repO g n eh j = some (resS (repO g n eh j))
          obtain ⟨hp, h2, Sm, hSm⟩ := repO_prog HS.out
          obtain ⟨S', hS'⟩ := rp_some hSm hjm
          unfold repO
          rw [if_pos ⟨hp, by omega⟩, hS']
          rfl
        have hrl := repO_len g n eh j
        have HRP : Hid (rp g n eh j = some (resS (repO g n eh j))) := by
          show rp g n eh j = some (resS (repO g n eh j))
          have h := HSJ.out
          unfold repO at h ⊢
          split at h
          · rename_i hc
            rw [if_pos hc]
            exact h
          · cases h
        clear HSJ
        generalize resS (repO g n eh j) = S4' at *
        have B5 : Hid (Below w.heap.size w (w4.alloc (.cells #[.int .i64 S4'.p, .slice ra4 S4'.rs.length rc4, .slice oa4 S4'.os.length oc4, .int .i64 S4'.c] 43))) := B3.out.trans ((b4.trans ((below_alloc _ _).mono b4.size)).mono B3.out.size)
        have T5 : Hid (Tl (w4.alloc (.cells #[.int .i64 S4'.p, .slice ra4 S4'.rs.length rc4, .slice oa4 S4'.os.length oc4, .int .i64 S4'.c] 43)) w3.heap.size (w4.heap.size + 1) w4.heap.size S4'.p S4'.c ra4 S4'.rs.length rc4 oa4 S4'.os.length oc4 S4'.rs S4'.os) := Tl.of_alloc o4 b4.size _
        clear o4 b4
        go_upto_region 10 with fail
        generalize w4.alloc (.cells #[.int .i64 S4'.p, .slice ra4 S4'.rs.length rc4, .slice oa4 S4'.os.length oc4, .int .i64 S4'.c] 43) = w5 at *
        generalize w4.heap.size = M4 at *
        obtain ⟨y0, y1, y2, y3⟩ := T5.out.box
        obtain ⟨b1, o1, e1, c0, c1, c2, c3, c4⟩ := (HA.out.below B5.out).at hlt
        simp only [Option.some.injEq, Addr.mk.injEq, and_true] at e1
        obtain ⟨rfl, rfl⟩ := e1
        have hql := HL.out k hlt
        have HSl := (HA.out.below B5.out.drew).lst k hlt
        have HTl : Hid (Sl w5.drew ra4 S4'.rs ∧ Sl w5.drew oa4 S4'.os) := (T5.out.below (Below.refl _ _).drew).sl
        have hcc := specSameState_any S4' (q k).s ra4 oa4 (q k).ra (q k).oa rc4 oc4 (q k).rc (q k).oc w5.drew hrl.1 hrl.2 hql.1 hql.2 HTl.out.1 HTl.out.2 HSl.1 HSl.2
        rcases Bool.eq_false_or_eq_true (eqS S4' (q k).s) with te | te
        · rw [te] at hcc
          have HK' : Hid (∀ i, i < k + 1 → KpAt g n eh m (q i)) := fun i hi => by
            by_cases e : i = k
            · subst e
              refine ⟨by rw [HJ.out.1]; omega, by rw [HJ.out.1]; omega, ?_⟩
              rw [HJ.out.1, show ((j : Int)).toNat = j by omega, HRP.out, eqS_iff.1 te]
            · exact HK.out i (by omega)
          clear te HTl HSl T5
          go_region_with (go_at_call 55; refine hcc.mono ?_; rintro e w6 ⟨rfl, b6⟩)
          all_goals
            have B6 : Hid (Below w.heap.size w w6) := B5.out.drew.trans (b6.mono B5.out.size)
            clear b6 y0 y1 y2 y3 c0 c1 c2 c3 c4 hcc
            go_wp2
            go_roundw
            case rel => exact ⟨k + 1, by omega, by go_num, B6.out, HK'.out, HQ'.out⟩
            case measure => simp [intOf]; omega
        · rw [te] at hcc
          have HV : Hid (pB (KpOk g n eh m q c) = false) := pB_false fun h => by
            have h1 := (h.al k hlt).2.2
            rw [HJ.out.1, show ((j : Int)).toNat = j by omega, HRP.out] at h1
            injection h1 with h1
            rw [eqS_iff.2 h1] at te
            cases te
          clear te HTl HSl T5
          go_region_with (go_at_call 55; refine hcc.mono ?_; rintro e w6 ⟨rfl, b6⟩)
          all_goals
            have B6 : Hid (Below w.heap.size w w6) := B5.out.drew.trans (b6.mono B5.out.size)
            clear b6 y0 y1 y2 y3 c0 c1 c2 c3 c4 hcc
            go_wp2
            go_ret
            rw [HV.out]
            exact ⟨rfl, B6.out⟩
      · obtain ⟨i0, rfl⟩ : ∃ i0, k = i0 + 1 := ⟨k - 1, by omega⟩
        have hkk : ((i0 + 1 : Nat) : Int) = (i0 : Int) + 1 := by omega
        rw [hkk]
        have HM1 : Hid (IntKind.i64.wrap (i0 : Int) = (i0 : Int)) := by
          show IntKind.i64.wrap (i0 : Int) = (i0 : Int)
          rw [IntKind.wrap_i64]
          omega
        have hnn : (0 : Int) ≤ (i0 : Int) + 1 := by omega
        have hlt1 : (i0 : Int) + 1 < (c : Int) := by omega
        have hlt2 : (i0 : Int) < (c : Int) := by omega
        have HD : Hid (decide ((i0 : Int) + 1 > 0) = true) := decide_eq_true (by omega)
        have HD2 : Hid (decide (0 < (i0 : Int) + 1) = true) := decide_eq_true (by omega)
        obtain ⟨b1, o1, e1, d0, -⟩ := HAr.out.at (show i0 < c by omega)
        simp only [Option.some.injEq, Addr.mk.injEq, and_true] at e1
        obtain ⟨rfl, rfl⟩ := e1
        have q1 := cell_regrown d0
        clear c0 d0 hlt' hkk hk0
        rcases Bool.eq_false_or_eq_true (decide ((q i0).n ≥ (q (i0 + 1)).n)) with tg | tg
        case inl =>
          have HV : Hid (pB (KpOk g n eh m q c) = false) := pB_false fun h => by
            have h1 := h.li.2.2 i0 hlt
            have h2 := of_decide_eq_true tg
            omega
          go_upto_region 7 with fail
          refine wp_region_quiet_below (by kernel_rfl) (by kernel_rfl) ?_
          iterate 7 (quiet_step (fail))
          quiet_step (first | (go_at_call 38; exact Calls.regrown_same (l1In_any _ _ _ _)))
          rw [HT1.out]
          iterate 5 (quiet_step (fail))
          (try first | rw [HD.out] | rw [HD2.out])
          iterate 3 (quiet_step (fail))
          rw [HM1.out]
          repeat (first | go_big_quiet_skip | quiet_step (fail))
          refine wpQuiet_nil ?_
          intro _ hw'
          obtain ⟨⟨dd, os⟩, hw''⟩ := hw'
          subst hw''
          have B3 : Hid (Below w.heap.size w (grow (redrawn wr dd) os)) := HB.out.trans ((below_regrown wr dd os).mono HB.out.size)
          generalize grow (redrawn wr dd) os = w3 at *
          clear q0 q1 HAr HB
          go_wp2
          go_ret
          rw [HV.out]
          exact ⟨rfl, B3.out⟩
        have HQ' : Hid (∀ i, i + 1 < i0 + 1 + 1 → (q i).n < (q (i + 1)).n) := fun i hi => by
          by_cases e : i = i0
          · subst e
            have h2 := of_decide_eq_false tg
            omega
          · exact HQ.out i (by omega)
        go_upto_region 7 with fail
        refine wp_region_quiet_below (by kernel_rfl) (by kernel_rfl) ?_
        iterate 7 (quiet_step (fail))
        quiet_step (first | (go_at_call 38; exact Calls.regrown_same (l1In_any _ _ _ _)))
        rw [HT1.out]
        iterate 5 (quiet_step (fail))
        (try first | rw [HD.out] | rw [HD2.out])
        iterate 3 (quiet_step (fail))
        rw [HM1.out]
        repeat (first | go_big_quiet_skip | quiet_step (fail))
        refine wpQuiet_nil ?_
        intro _ hw'
        obtain ⟨⟨dd, os⟩, hw''⟩ := hw'
        subst hw''
        have B3 : Hid (Below w.heap.size w (grow (redrawn wr dd) os)) := HB.out.trans ((below_regrown wr dd os).mono HB.out.size)
        generalize grow (redrawn wr dd) os = w3 at *
        clear q0 q1 HAr HB tg HT1
        have hjm : j ≤ m := by have := HJ.out; omega
        obtain ⟨b1, o1, e1, c0, c1, c2, c3, c4⟩ := (HA.out.below B3.out).at hlt
        simp only [Option.some.injEq, Addr.mk.injEq, and_true] at e1
        obtain ⟨rfl, rfl⟩ := e1
        rw [HJ.out.1] at c0
        have hsl := slice_kp ea m ec j (Nat.le_trans hjm HEC.out)
        go_wp2_with fail
        clear c0 c1 c2 c3 c4 hsl
        refine (HR.out w3 j hjm B3.out).mono ?_
        rintro e w4 ⟨v4, rfl, o4, b4⟩
        obtain ⟨ra4, rc4, oa4, oc4, rfl, -, -⟩ := o4.read
        have HSJ : Hid (repO g n eh j = some (resS (repO g n eh j))) := by
          show repO g n eh j = some (resS (repO g n eh j))
          obtain ⟨hp, h2, Sm, hSm⟩ := repO_prog HS.out
          obtain ⟨S', hS'⟩ := rp_some hSm hjm
          unfold repO
          rw [if_pos ⟨hp, by omega⟩, hS']
          rfl
        have hrl := repO_len g n eh j
        have HRP : Hid (rp g n eh j = some (resS (repO g n eh j))) := by
          show rp g n eh j = some (resS (repO g n eh j))
          have h := HSJ.out
          unfold repO at h ⊢
          split at h
          · rename_i hc
            rw [if_pos hc]
            exact h
          · cases h
        clear HSJ
        generalize resS (repO g n eh j) = S4' at *
        have B5 : Hid (Below w.heap.size w (w4.alloc (.cells #[.int .i64 S4'.p, .slice ra4 S4'.rs.length rc4, .slice oa4 S4'.os.length oc4, .int .i64 S4'.c] 43))) := B3.out.trans ((b4.trans ((below_alloc _ _).mono b4.size)).mono B3.out.size)
        have T5 : Hid (Tl (w4.alloc (.cells #[.int .i64 S4'.p, .slice ra4 S4'.rs.length rc4, .slice oa4 S4'.os.length oc4, .int .i64 S4'.c] 43)) w3.heap.size (w4.heap.size + 1) w4.heap.size S4'.p S4'.c ra4 S4'.rs.length rc4 oa4 S4'.os.length oc4 S4'.rs S4'.os) := Tl.of_alloc o4 b4.size _
        clear o4 b4
        go_upto_region 10 with fail
        generalize w4.alloc (.cells #[.int .i64 S4'.p, .slice ra4 S4'.rs.length rc4, .slice oa4 S4'.os.length oc4, .int .i64 S4'.c] 43) = w5 at *
        generalize w4.heap.size = M4 at *
        obtain ⟨y0, y1, y2, y3⟩ := T5.out.box
        obtain ⟨b1, o1, e1, c0, c1, c2, c3, c4⟩ := (HA.out.below B5.out).at hlt
        simp only [Option.some.injEq, Addr.mk.injEq, and_true] at e1
        obtain ⟨rfl, rfl⟩ := e1
        have hql := HL.out (i0 + 1) hlt
        have HSl := (HA.out.below B5.out.drew).lst (i0 + 1) hlt
        have HTl : Hid (Sl w5.drew ra4 S4'.rs ∧ Sl w5.drew oa4 S4'.os) := (T5.out.below (Below.refl _ _).drew).sl
        have hcc := specSameState_any S4' (q (i0 + 1)).s ra4 oa4 (q (i0 + 1)).ra (q (i0 + 1)).oa rc4 oc4 (q (i0 + 1)).rc (q (i0 + 1)).oc w5.drew hrl.1 hrl.2 hql.1 hql.2 HTl.out.1 HTl.out.2 HSl.1 HSl.2
        rcases Bool.eq_false_or_eq_true (eqS S4' (q (i0 + 1)).s) with te | te
        · rw [te] at hcc
          have HK' : Hid (∀ i, i < i0 + 1 + 1 → KpAt g n eh m (q i)) := fun i hi => by
            by_cases e : i = i0 + 1
            · subst e
              refine ⟨by rw [HJ.out.1]; omega, by rw [HJ.out.1]; omega, ?_⟩
              rw [HJ.out.1, show ((j : Int)).toNat = j by omega, HRP.out, eqS_iff.1 te]
            · exact HK.out i (by omega)
          clear te HTl HSl T5
          go_region_with (go_at_call 55; refine hcc.mono ?_; rintro e w6 ⟨rfl, b6⟩)
          all_goals
            have B6 : Hid (Below w.heap.size w w6) := B5.out.drew.trans (b6.mono B5.out.size)
            clear b6 y0 y1 y2 y3 c0 c1 c2 c3 c4 hcc
            go_wp2
            go_roundw
            case rel => exact ⟨i0 + 1 + 1, by omega, by go_num, B6.out, HK'.out, HQ'.out⟩
            case measure => simp [intOf]; omega
        · rw [te] at hcc
          have HV : Hid (pB (KpOk g n eh m q c) = false) := pB_false fun h => by
            have h1 := (h.al (i0 + 1) hlt).2.2
            rw [HJ.out.1, show ((j : Int)).toNat = j by omega, HRP.out] at h1
            injection h1 with h1
            rw [eqS_iff.2 h1] at te
            cases te
          clear te HTl HSl T5
          go_region_with (go_at_call 55; refine hcc.mono ?_; rintro e w6 ⟨rfl, b6⟩)
          all_goals
            have B6 : Hid (Below w.heap.size w w6) := B5.out.drew.trans (b6.mono B5.out.size)
            clear b6 y0 y1 y2 y3 c0 c1 c2 c3 c4 hcc
            go_wp2
            go_ret
            rw [HV.out]
            exact ⟨rfl, B6.out⟩
    · have HV : Hid (pB (KpOk g n eh m q c) = true) := pB_true ⟨HS.out, ⟨by omega, H0.out, fun j hj => HQ.out j (by omega)⟩, fun i hi => HK.out i (by omega)⟩
      have B3 := HB.out
      clear HK HB HQ
      go_wp2
      go_ret
      rw [HV.out]
      exact ⟨rfl, B3⟩

end Go.Proofs.YtkoghgnbolaooaaGreat
