/- How long what KeepAll keeps may be. -/
import Derived.Test.YtcmmlklanjhfoaaGreatDoorGa33
import Derived.Deep.RegionLaw
import Derived.BigQuiet
import Derived.Test.YtcmmlklanjhfoaaGreatDoorGa37
import Derived.Test.YtcmmlklanjhfoaaGreatDoorGa31
namespace Go.Proofs.YtcmmlklanjhfoaaGreatDoor
open Go.ChangeShapes Go.WideShapes Go.ChangeAt Go.RowKit Go.Deep Go.Sort Go.Maps

theorem slice_kp (a : Option Addr) (len cap h : Nat) (hh : h ≤ cap) (w : World) : (Instr.slice 25 (.slice a len cap) none (some (.int .i64 (h : Int))) none).run Tryz.prog w = .ok (.slice a h cap) w := by
  have hh' : (h : Int) ≤ (cap : Int) := by omega
  cases a with
  | none => simp [go_sem, sliced, hh']
  | some a => simp [go_sem, sliced, hh']

set_option maxRecDepth 100000 in
set_option maxHeartbeats 4000000 in
theorem specKeptOk_any (gb n gc : Nat) (ea : Option Addr) (m ec : Nat) (ka : Option Addr) (c kc : Nat) (g : Nat → I5) (eh : Nat → E3) (q : Nat → K9) (w : World) (hn : n ≤ maxLen) (hg : gb < w.heap.size) (hI : InsAt w gb 0 n g) (hE : EvL w ea m eh) (hm : m ≤ 1048576) (hec : m ≤ ec) (hc : c ≤ 1048576) (hA : AllKept w ka c q) (hl : ∀ i, i < c → (q i).rs.length ≤ 1048576 ∧ (q i).os.length ≤ 1048576) :
    Calls Tryz.prog 16 #[.slice (some ⟨gb, 0, none⟩) n gc, .slice ea m ec, .slice ka c kc] w fun e w' => e = .returned (.bool (pB (KpOk g n eh m q c))) ∧ Below w.heap.size w w' := by
  have hc' : (c : Int) ≤ 1048576 := by omega
  have hm' : (m : Int) ≤ 1048576 := by omega
  have HA : Hid (AllKept w ka c q) := hA
  have HL : Hid (∀ i, i < c → (q i).rs.length ≤ 1048576 ∧ (q i).os.length ≤ 1048576) := hl
  have HR : Hid (∀ wx j, j ≤ m → Below w.heap.size w wx → Calls Tryz.prog 21 #[.slice (some ⟨gb, 0, none⟩) n gc, .slice ea j ec] wx (DoneR wx (resS (repO g n eh j)) (repO g n eh j).isSome)) := fun wx j hj hb => specReplay_l gb n gc ea j ec g eh wx hn (Nat.lt_of_lt_of_le hg hb.size) (hI.below hb hg) ((hE.below hb).take hj) (by omega)
  have HEC : Hid (m ≤ ec) := hec
  clear hA hl hI hE hn hg hec
  rcases Bool.eq_false_or_eq_true (repO g n eh m).isSome with hs | hs
  case inr =>
    have HV : Hid (pB (KpOk g n eh m q c) = false) := pB_false fun h => by
      rw [h.so] at hs
      cases hs
    have HS : Hid ((repO g n eh m).isSome = false) := hs
    clear hs
    go_enter Tryz.func16, Tryz.ntmps16
    go_wp2_with fail
    refine (HR.out w m (Nat.le_refl _) (Below.refl _ _)).mono ?_
    rintro e w1 hd
    rw [HS.out] at hd
    obtain ⟨v1, rfl, o1, b1⟩ := hd
    obtain ⟨ra, rc, oa, oc, rfl, -, -⟩ := o1.read
    have B1 : Hid (Below w.heap.size w w1) := b1
    clear b1 o1
    go_wp2
    go_ret
    rw [HV.out]
    exact ⟨rfl, B1.out.trans ((below_alloc _ _).mono B1.out.size)⟩
  have HS : Hid ((repO g n eh m).isSome = true) := hs
  clear hs
  by_cases h0 : c = 0
  · subst h0
    have HV : Hid (pB (KpOk g n eh m q 0) = false) := pB_false fun h => absurd h.li.1 (by omega)
    go_enter Tryz.func16, Tryz.ntmps16
    go_wp2_with fail
    refine (HR.out w m (Nat.le_refl _) (Below.refl _ _)).mono ?_
    rintro e w1 hd
    rw [HS.out] at hd
    obtain ⟨v1, rfl, o1, b1⟩ := hd
    obtain ⟨ra, rc, oa, oc, rfl, -, -⟩ := o1.read
    have B1 : Hid (Below w.heap.size w w1) := b1
    clear b1 o1
    go_wp2
    go_ret
    rw [HV.out]
    exact ⟨rfl, B1.out.trans ((below_alloc _ _).mono B1.out.size)⟩
  have hz : ¬ ((c : Int) = 0) := by omega
  have hpos : (0 : Int) < (c : Int) := by omega
  have hcz : ((c : Int) == 0) = false := by simpa using h0
  go_enter Tryz.func16, Tryz.ntmps16
  go_wp2_with fail
  refine (HR.out w m (Nat.le_refl _) (Below.refl _ _)).mono ?_
  rintro e w1 hd
  rw [HS.out] at hd
  obtain ⟨v1, rfl, o1, b1⟩ := hd
  obtain ⟨ra, rc, oa, oc, rfl, -, -⟩ := o1.read
  generalize resS (repO g n eh m) = S0 at *
  have B2 : Hid (Below w.heap.size w (w1.alloc (.cells #[.int .i64 S0.p, .slice ra S0.rs.length rc, .slice oa S0.os.length oc, .int .i64 S0.c] 32))) := b1.trans ((below_alloc _ _).mono b1.size)
  clear b1 o1
  go_upto_region 2 with fail
  generalize w1.alloc (.cells #[.int .i64 S0.p, .slice ra S0.rs.length rc, .slice oa S0.os.length oc, .int .i64 S0.c] 32) = w2 at *
  obtain ⟨b, off, rfl, c0, -⟩ := (HA.out.below B2.out).at (show 0 < c by omega)
  have c0' : w2.cell? ⟨b, off, none⟩ = some (.int .i64 (q 0).n) := by simpa using c0
  clear c0
  rcases Bool.eq_false_or_eq_true ((q 0).n != 0) with t | t
  · have HV : Hid (pB (KpOk g n eh m q c) = false) := pB_false fun h => by
      rw [h.li.2.1] at t
      simp at t
    go_wp2
    go_ret
    rw [HV.out]
    exact ⟨rfl, B2.out⟩
  have H0 : Hid ((q 0).n = 0) := by
    show (q 0).n = 0
    simpa using t
  go_wp2_with fail
  clear c0' t
  try simp only [hcz]
  go_loopw [9] (fun i wr => ∃ k : Nat, k ≤ c ∧ i = .int .i64 k ∧ Hid (Below w.heap.size w wr) ∧ Hid (∀ j, j < k → KpAt g n eh m (q j)) ∧ Hid (∀ j, j + 1 < k → (q j).n < (q (j + 1)).n)) (fun i _ => c - (intOf i).toNat)
  case atStart => exact ⟨0, Nat.zero_le _, rfl, B2.out, fun j hj => by omega, fun j hj => by omega⟩
  case round =>
    clear B2
    obtain ⟨k, hk, rfl, HB, HK, HQ⟩ := hrel
    by_cases hlt : k < c
    · have hlt' : (k : Int) < (c : Int) := by omega
      have HAr : Hid (AllKept wr (some ⟨b, off, none⟩) c q) := HA.out.below HB.out
      obtain ⟨b1, o1, e1, c0, -⟩ := HAr.out.at hlt
      simp only [Option.some.injEq, Addr.mk.injEq, and_true] at e1
      obtain ⟨rfl, rfl⟩ := e1
      have HZ : Hid (inB (q k).n 0 m = true ↔ (0 ≤ (q k).n ∧ (q k).n ≤ (m : Int))) := by
        show _ ↔ _
        simp [inB]
      rcases Bool.eq_false_or_eq_true (inB (q k).n 0 m) with t1 | t1
      case inr =>
        have HV : Hid (pB (KpOk g n eh m q c) = false) := pB_false fun h => by
          have h1 := h.al k hlt
          rw [HZ.out.2 ⟨h1.1, h1.2.1⟩] at t1
          cases t1
        have HT1 : Hid (inB (q k).n 0 m = false) := t1
        have q0 := cell_regrown c0
        clear t1 c0 HZ
        go_upto_region 7 with fail
        refine wp_region_quiet_below (by kernel_rfl) (by kernel_rfl) ?_
        iterate 7 (quiet_step (fail))
        quiet_step (first | (go_at_call 31; exact Calls.regrown_same (l1In_any _ _ _ _)))
        rw [HT1.out]
        repeat (first | go_big_quiet_skip | quiet_step (fail))
        refine wpQuiet_nil ?_
        intro _ hw'
        obtain ⟨⟨dd, os⟩, hw''⟩ := hw'
        subst hw''
        have B3 : Hid (Below w.heap.size w (grow (redrawn wr dd) os)) := HB.out.trans ((below_regrown wr dd os).mono HB.out.size)
        generalize grow (redrawn wr dd) os = w3 at *
        clear q0
        go_wp2
        go_ret
        rw [HV.out]
        exact ⟨rfl, B3.out⟩
      -- ARM
      obtain ⟨hn0, hn1⟩ := HZ.out.1 t1
      obtain ⟨j, hj⟩ : ∃ j : Nat, (q k).n = j := ⟨(q k).n.toNat, by omega⟩
      have HJ : Hid ((q k).n = j ∧ (j : Int) ≤ m) := ⟨hj, by omega⟩
      have HT1 : Hid (inB (q k).n 0 m = true) := t1
      clear t1 HZ hj hn0 hn1
      have q0 := cell_regrown c0
      by_cases hk0 : k = 0
      · have HQ' : Hid (∀ i, i + 1 < k + 1 → (q i).n < (q (i + 1)).n) := fun i hi => by omega
        have HD : Hid (decide ((k : Int) > 0) = false) := decide_eq_false (by omega)
        have HD2 : Hid (decide (0 < k) = false) := decide_eq_false (by omega)
        clear c0 hk0
        go_upto_region 7 with fail
        refine wp_region_quiet_below (by kernel_rfl) (by kernel_rfl) ?_
        iterate 7 (quiet_step (fail))
        quiet_step (first | (go_at_call 31; exact Calls.regrown_same (l1In_any _ _ _ _)))
        rw [HT1.out]
        iterate 5 (quiet_step (fail))
        (try first | rw [HD.out] | rw [HD2.out])
        repeat (first | go_big_quiet_skip | quiet_step (fail))
        refine wpQuiet_nil ?_
        intro _ hw'
        obtain ⟨⟨dd, os⟩, hw''⟩ := hw'
        subst hw''
        have B3 : Hid (Below w.heap.size w (grow (redrawn wr dd) os)) := HB.out.trans ((below_regrown wr dd os).mono HB.out.size)
        generalize grow (redrawn wr dd) os = w3 at *
        clear q0 HAr HB HT1
        have hjm : j ≤ m := by have := HJ.out; omega
        obtain ⟨b1, o1, e1, c0, c1, c2, c3, c4⟩ := (HA.out.below B3.out).at hlt
        simp only [Option.some.injEq, Addr.mk.injEq, and_true] at e1
        obtain ⟨rfl, rfl⟩ := e1
        rw [HJ.out.1] at c0
        have hsl := slice_kp ea m ec j (Nat.le_trans hjm HEC.out)
        go_wp2_with fail
        clear c0 c1 c2 c3 c4 hsl
        refine (HR.out w3 j hjm B3.out).mono ?_
        rintro e w4 ⟨v4, rfl, o4, b4⟩
        obtain ⟨ra4, rc4, oa4, oc4, rfl, -, -⟩ := o4.read
        have HSJ : Hid (repO g n eh j = some (resS (repO g n eh j))) := by
          show repO g n eh j = some (resS (repO g n eh j))
          obtain ⟨hp, h2, Sm, hSm⟩ := repO_prog HS.out
          obtain ⟨S', hS'⟩ := rp_some hSm hjm
          unfold repO
          rw [if_pos ⟨hp, by omega⟩, hS']
          rfl
        have hrl := repO_len g n eh j
        have HRP : Hid (rp g n eh j = some (resS (repO g n eh j))) := by
          show rp g n eh j = some (resS (repO g n eh j))
          have h := HSJ.out
          unfold repO at h ⊢
          split at h
          · rename_i hc
            rw [if_pos hc]
            exact h
          · cases h
        clear HSJ
        generalize resS (repO g n eh j) = S4' at *
        have B5 : Hid (Below w.heap.size w (w4.alloc (.cells #[.int .i64 S4'.p, .slice ra4 S4'.rs.length rc4, .slice oa4 S4'.os.length oc4, .int .i64 S4'.c] 32))) := B3.out.trans ((b4.trans ((below_alloc _ _).mono b4.size)).mono B3.out.size)
        have T5 : Hid (Tl (w4.alloc (.cells #[.int .i64 S4'.p, .slice ra4 S4'.rs.length rc4, .slice oa4 S4'.os.length oc4, .int .i64 S4'.c] 32)) w3.heap.size (w4.heap.size + 1) w4.heap.size S4'.p S4'.c ra4 S4'.rs.length rc4 oa4 S4'.os.length oc4 S4'.rs S4'.os) := Tl.of_alloc o4 b4.size _
        clear o4 b4
        go_upto_region 10 with fail
        generalize w4.alloc (.cells #[.int .i64 S4'.p, .slice ra4 S4'.rs.length rc4, .slice oa4 S4'.os.length oc4, .int .i64 S4'.c] 32) = w5 at *
        generalize w4.heap.size = M4 at *
        obtain ⟨y0, y1, y2, y3⟩ := T5.out.box
        obtain ⟨b1, o1, e1, c0, c1, c2, c3, c4⟩ := (HA.out.below B5.out).at hlt
        simp only [Option.some.injEq, Addr.mk.injEq, and_true] at e1
        obtain ⟨rfl, rfl⟩ := e1
        have hql := HL.out k hlt
        have HSl := (HA.out.below B5.out.drew).lst k hlt
        have HTl : Hid (Sl w5.drew ra4 S4'.rs ∧ Sl w5.drew oa4 S4'.os) := (T5.out.below (Below.refl _ _).drew).sl
        have hcc := specSameState_any S4' (q k).s ra4 oa4 (q k).ra (q k).oa rc4 oc4 (q k).rc (q k).oc w5.drew hrl.1 hrl.2 hql.1 hql.2 HTl.out.1 HTl.out.2 HSl.1 HSl.2
        rcases Bool.eq_false_or_eq_true (eqS S4' (q k).s) with te | te
        · rw [te] at hcc
          have HK' : Hid (∀ i, i < k + 1 → KpAt g n eh m (q i)) := fun i hi => by
            by_cases e : i = k
            · subst e
              refine ⟨by rw [HJ.out.1]; omega, by rw [HJ.out.1]; omega, ?_⟩
              rw [HJ.out.1, show ((j : Int)).toNat = j by omega, HRP.out, eqS_iff.1 te]
            · exact HK.out i (by omega)
          clear te HTl HSl T5
          go_region_with (go_at_call 34; refine hcc.mono ?_; rintro e w6 ⟨rfl, b6⟩)
          all_goals
            have B6 : Hid (Below w.heap.size w w6) := B5.out.drew.trans (b6.mono B5.out.size)
            clear b6 y0 y1 y2 y3 c0 c1 c2 c3 c4 hcc
            go_wp2
            go_roundw
            case rel => exact ⟨k + 1, by omega, by go_num, B6.out, HK'.out, HQ'.out⟩
            case measure => simp [intOf]; omega
        · rw [te] at hcc
          have HV : Hid (pB (KpOk g n eh m q c) = false) := pB_false fun h => by
            have h1 := (h.al k hlt).2.2
            rw [HJ.out.1, show ((j : Int)).toNat = j by omega, HRP.out] at h1
            injection h1 with h1
            rw [eqS_iff.2 h1] at te
            cases te
          clear te HTl HSl T5
          go_region_with (go_at_call 34; refine hcc.mono ?_; rintro e w6 ⟨rfl, b6⟩)
          all_goals
            have B6 : Hid (Below w.heap.size w w6) := B5.out.drew.trans (b6.mono B5.out.size)
            clear b6 y0 y1 y2 y3 c0 c1 c2 c3 c4 hcc
            go_wp2
            go_ret
            rw [HV.out]
            exact ⟨rfl, B6.out⟩
      · obtain ⟨i0, rfl⟩ : ∃ i0, k = i0 + 1 := ⟨k - 1, by omega⟩
        have hkk : ((i0 + 1 : Nat) : Int) = (i0 : Int) + 1 := by omega
        rw [hkk]
        have HM1 : Hid (IntKind.i64.wrap (i0 : Int) = (i0 : Int)) := by
          show IntKind.i64.wrap (i0 : Int) = (i0 : Int)
          rw [IntKind.wrap_i64]
          omega
        have hnn : (0 : Int) ≤ (i0 : Int) + 1 := by omega
        have hlt1 : (i0 : Int) + 1 < (c : Int) := by omega
        have hlt2 : (i0 : Int) < (c : Int) := by omega
        have HD : Hid (decide ((i0 : Int) + 1 > 0) = true) := decide_eq_true (by omega)
        have HD2 : Hid (decide (0 < (i0 : Int) + 1) = true) := decide_eq_true (by omega)
        obtain ⟨b1, o1, e1, d0, -⟩ := HAr.out.at (show i0 < c by omega)
        simp only [Option.some.injEq, Addr.mk.injEq, and_true] at e1
        obtain ⟨rfl, rfl⟩ := e1
        have q1 := cell_regrown d0
        clear c0 d0 hlt' hkk hk0
        rcases Bool.eq_false_or_eq_true (decide ((q i0).n ≥ (q (i0 + 1)).n)) with tg | tg
        case inl =>
          have HV : Hid (pB (KpOk g n eh m q c) = false) := pB_false fun h => by
            have h1 := h.li.2.2 i0 hlt
            have h2 := of_decide_eq_true tg
            omega
          go_upto_region 7 with fail
          refine wp_region_quiet_below (by kernel_rfl) (by kernel_rfl) ?_
          iterate 7 (quiet_step (fail))
          quiet_step (first | (go_at_call 31; exact Calls.regrown_same (l1In_any _ _ _ _)))
          rw [HT1.out]
          iterate 5 (quiet_step (fail))
          (try first | rw [HD.out] | rw [HD2.out])
          iterate 3 (quiet_step (fail))
          rw [HM1.out]
          repeat (first | go_big_quiet_skip | quiet_step (fail))
          refine wpQuiet_nil ?_
          intro _ hw'
          obtain ⟨⟨dd, os⟩, hw''⟩ := hw'
          subst hw''
          have B3 : Hid (Below w.heap.size w (grow (redrawn wr dd) os)) := HB.out.trans ((below_regrown wr dd os).mono HB.out.size)
          generalize grow (redrawn wr dd) os = w3 at *
          clear q0 q1 HAr HB
          go_wp2
          go_ret
          rw [HV.out]
          exact ⟨rfl, B3.out⟩
        have HQ' : Hid (∀ i, i + 1 < i0 + 1 + 1 → (q i).n < (q (i + 1)).n) := fun i hi => by
          by_cases e : i = i0
          · subst e
            have h2 := of_decide_eq_false tg
            omega
          · exact HQ.out i (by omega)
        go_upto_region 7 with fail
        refine wp_region_quiet_below (by kernel_rfl) (by kernel_rfl) ?_
        iterate 7 (quiet_step (fail))
        quiet_step (first | (go_at_call 31; exact Calls.regrown_same (l1In_any _ _ _ _)))
        rw [HT1.out]
        iterate 5 (quiet_step (fail))
        (try first | rw [HD.out] | rw [HD2.out])
        iterate 3 (quiet_step (fail))
        rw [HM1.out]
        repeat (first | go_big_quiet_skip | quiet_step (fail))
        refine wpQuiet_nil ?_
        intro _ hw'
        obtain ⟨⟨dd, os⟩, hw''⟩ := hw'
        subst hw''
        have B3 : Hid (Below w.heap.size w (grow (redrawn wr dd) os)) := HB.out.trans ((below_regrown wr dd os).mono HB.out.size)
        generalize grow (redrawn wr dd) os = w3 at *
        clear q0 q1 HAr HB tg HT1
        have hjm : j ≤ m := by have := HJ.out; omega
        obtain ⟨b1, o1, e1, c0, c1, c2, c3, c4⟩ := (HA.out.below B3.out).at hlt
        simp only [Option.some.injEq, Addr.mk.injEq, and_true] at e1
        obtain ⟨rfl, rfl⟩ := e1
        rw [HJ.out.1] at c0
        have hsl := slice_kp ea m ec j (Nat.le_trans hjm HEC.out)
        go_wp2_with fail
        clear c0 c1 c2 c3 c4 hsl
        refine (HR.out w3 j hjm B3.out).mono ?_
        rintro e w4 ⟨v4, rfl, o4, b4⟩
        obtain ⟨ra4, rc4, oa4, oc4, rfl, -, -⟩ := o4.read
        have HSJ : Hid (repO g n eh j = some (resS (repO g n eh j))) := by
          show repO g n eh j = some (resS (repO g n eh j))
          obtain ⟨hp, h2, Sm, hSm⟩ := repO_prog HS.out
          obtain ⟨S', hS'⟩ := rp_some hSm hjm
          unfold repO
          rw [if_pos ⟨hp, by omega⟩, hS']
          rfl
        have hrl := repO_len g n eh j
        have HRP : Hid (rp g n eh j = some (resS (repO g n eh j))) := by
          show rp g n eh j = some (resS (repO g n eh j))
          have h := HSJ.out
          unfold repO at h ⊢
          split at h
          · rename_i hc
            rw [if_pos hc]
            exact h
          · cases h
        clear HSJ
        generalize resS (repO g n eh j) = S4' at *
        have B5 : Hid (Below w.heap.size w (w4.alloc (.cells #[.int .i64 S4'.p, .slice ra4 S4'.rs.length rc4, .slice oa4 S4'.os.length oc4, .int .i64 S4'.c] 32))) := B3.out.trans ((b4.trans ((below_alloc _ _).mono b4.size)).mono B3.out.size)
        have T5 : Hid (Tl (w4.alloc (.cells #[.int .i64 S4'.p, .slice ra4 S4'.rs.length rc4, .slice oa4 S4'.os.length oc4, .int .i64 S4'.c] 32)) w3.heap.size (w4.heap.size + 1) w4.heap.size S4'.p S4'.c ra4 S4'.rs.length rc4 oa4 S4'.os.length oc4 S4'.rs S4'.os) := Tl.of_alloc o4 b4.size _
        clear o4 b4
        go_upto_region 10 with fail
        generalize w4.alloc (.cells #[.int .i64 S4'.p, .slice ra4 S4'.rs.length rc4, .slice oa4 S4'.os.length oc4, .int .i64 S4'.c] 32) = w5 at *
        generalize w4.heap.size = M4 at *
        obtain ⟨y0, y1, y2, y3⟩ := T5.out.box
        obtain ⟨b1, o1, e1, c0, c1, c2, c3, c4⟩ := (HA.out.below B5.out).at hlt
        simp only [Option.some.injEq, Addr.mk.injEq, and_true] at e1
        obtain ⟨rfl, rfl⟩ := e1
        have hql := HL.out (i0 + 1) hlt
        have HSl := (HA.out.below B5.out.drew).lst (i0 + 1) hlt
        have HTl : Hid (Sl w5.drew ra4 S4'.rs ∧ Sl w5.drew oa4 S4'.os) := (T5.out.below (Below.refl _ _).drew).sl
        have hcc := specSameState_any S4' (q (i0 + 1)).s ra4 oa4 (q (i0 + 1)).ra (q (i0 + 1)).oa rc4 oc4 (q (i0 + 1)).rc (q (i0 + 1)).oc w5.drew hrl.1 hrl.2 hql.1 hql.2 HTl.out.1 HTl.out.2 HSl.1 HSl.2
        rcases Bool.eq_false_or_eq_true (eqS S4' (q (i0 + 1)).s) with te | te
        · rw [te] at hcc
          have HK' : Hid (∀ i, i < i0 + 1 + 1 → KpAt g n eh m (q i)) := fun i hi => by
            by_cases e : i = i0 + 1
            · subst e
              refine ⟨by rw [HJ.out.1]; omega, by rw [HJ.out.1]; omega, ?_⟩
              rw [HJ.out.1, show ((j : Int)).toNat = j by omega, HRP.out, eqS_iff.1 te]
            · exact HK.out i (by omega)
          clear te HTl HSl T5
          go_region_with (go_at_call 34; refine hcc.mono ?_; rintro e w6 ⟨rfl, b6⟩)
          all_goals
            have B6 : Hid (Below w.heap.size w w6) := B5.out.drew.trans (b6.mono B5.out.size)
            clear b6 y0 y1 y2 y3 c0 c1 c2 c3 c4 hcc
            go_wp2
            go_roundw
            case rel => exact ⟨i0 + 1 + 1, by omega, by go_num, B6.out, HK'.out, HQ'.out⟩
            case measure => simp [intOf]; omega
        · rw [te] at hcc
          have HV : Hid (pB (KpOk g n eh m q c) = false) := pB_false fun h => by
            have h1 := (h.al (i0 + 1) hlt).2.2
            rw [HJ.out.1, show ((j : Int)).toNat = j by omega, HRP.out] at h1
            injection h1 with h1
            rw [eqS_iff.2 h1] at te
            cases te
          clear te HTl HSl T5
          go_region_with (go_at_call 34; refine hcc.mono ?_; rintro e w6 ⟨rfl, b6⟩)
          all_goals
            have B6 : Hid (Below w.heap.size w w6) := B5.out.drew.trans (b6.mono B5.out.size)
            clear b6 y0 y1 y2 y3 c0 c1 c2 c3 c4 hcc
            go_wp2
            go_ret
            rw [HV.out]
            exact ⟨rfl, B6.out⟩
    · have HV : Hid (pB (KpOk g n eh m q c) = true) := pB_true ⟨HS.out, ⟨by omega, H0.out, fun j hj => HQ.out j (by omega)⟩, fun i hi => HK.out i (by omega)⟩
      have B3 := HB.out
      clear HK HB HQ
      go_wp2
      go_ret
      rw [HV.out]
      exact ⟨rfl, B3⟩

end Go.Proofs.YtcmmlklanjhfoaaGreatDoor

namespace Go.Proofs.YtcmmlklanjhfoaaGreatDoor
open Go.ChangeShapes Go.WideShapes Go.ChangeAt Go.RowKit Go.Deep

/-- Kept states of one's own: the row, and each state's lists, all apart. -/
structure LK (w : World) (P : Nat → Prop) (v : Value) (n : Nat) (N : Nat → Int) (vs : Nat → Value) (S : Nat → S4) : Prop where
  row : w.ownsRow 0 48 5 v n (flat (fun i => .int .i64 (N i) :: cellsL (vs i)) n)
  own : ∀ i, i < n → StOwn w 0 (vs i) (S i).p (S i).rs (S i).os (S i).c
  rb : ∀ k, v.ownBlock = some k → P k
  ob : ∀ i, i < n → ∀ k, hasBlock (vs i) k → P k
  ra : ∀ i, i < n → ∀ k, hasBlock (vs i) k → v.ownBlock ≠ some k
  oa : ∀ i j, i < n → j < n → i ≠ j → ∀ k, hasBlock (vs i) k → ¬ hasBlock (vs j) k

section
variable {w : World} {P : Nat → Prop} {v : Value} {n : Nat} {N : Nat → Int} {vs : Nat → Value} {S : Nat → S4}
theorem LK.keep (o : LK w P v n N vs S) {w' : World} (hb : ∀ k, P k → k < w.heap.size → w'.heap[k]? = w.heap[k]?) : LK w' P v n N vs S :=
  ⟨ownsRow_blkL o.row fun k hk => hb k (o.rb k hk) (o.row.lt k hk).2, fun i hi => (o.own i hi).blk fun k hk => hb k (o.ob i hi k hk) ((o.own i hi).lt hk).2, o.rb, o.ob, o.ra, o.oa⟩
theorem LK.below (o : LK w P v n N vs S) {w' : World} (hb : Below w.heap.size w w') : LK w' P v n N vs S := o.keep fun k _ hk => hb.block k hk
theorem LK.mono (o : LK w P v n N vs S) {P' : Nat → Prop} (h : ∀ k, P k → k < w.heap.size → P' k) : LK w P' v n N vs S :=
  ⟨o.row, o.own, fun k hk => h k (o.rb k hk) (o.row.lt k hk).2, fun i hi k hk => h k (o.ob i hi k hk) ((o.own i hi).lt hk).2, o.ra, o.oa⟩
theorem LK.nil (w : World) (P : Nat → Prop) (N : Nat → Int) (vs : Nat → Value) (S : Nat → S4) : LK w P (.slice none 0 0) 0 N vs S :=
  ⟨World.ownsRow_nil _ _ _ _, fun i hi => (by omega), fun k hk => (by cases hk), fun i hi => (by omega), fun i hi => (by omega), fun i j hi => (by omega)⟩

theorem LK.push (o : LK w P v n N vs S) {w1 w2 : World} {u' v' : Value} (b1 : Below w.heap.size w w1) (hu : StOwn w1 w.heap.size u' (S n).p (S n).rs (S n).os (S n).c) (hv : w2.ownsRow 0 48 5 v' (n + 1) (flat (fun i => .int .i64 (N i) :: cellsL (vs i)) n ++ (.int .i64 (N n) :: cellsL u'))) (g : w1.grownBy w2 v.ownBlock)
    (hv' : ∀ j, v'.ownBlock = some j → v.ownBlock = some j ∨ w1.heap.size ≤ j) {P' : Nat → Prop} (hP : ∀ k, P k → k < w.heap.size → P' k) (hP' : ∀ k, w.heap.size ≤ k → k < w2.heap.size → P' k) : LK w2 P' v' (n + 1) N (fun j => if j = n then u' else vs j) S := by
  have hvlt : ∀ k, v.ownBlock = some k → k < w.heap.size := fun k hk => (o.row.lt k hk).2
  have lts : ∀ i, i < n → ∀ k, hasBlock (vs i) k → k < w.heap.size := fun i hi k hk => ((o.own i hi).lt hk).2
  have hu2 : StOwn w2 w.heap.size u' (S n).p (S n).rs (S n).os (S n).c := hu.blk fun k hk => g.block k (hu.lt hk).2 fun e => by
    have q1 := (hu.lt hk).1
    have q2 := hvlt k e.symm
    omega
  have ho2 : ∀ i, i < n → StOwn w2 0 (vs i) (S i).p (S i).rs (S i).os (S i).c := fun i hi => (o.own i hi).blk fun k hk => (g.block k (Nat.lt_of_lt_of_le (lts i hi k hk) b1.size) fun e => o.ra i hi k hk e.symm).trans (b1.block k (lts i hi k hk))
  refine ⟨?_, fun i hi => ?_, fun k hk => ?_, fun i hi k hk => ?_, fun i hi k hk => ?_, fun i j hi hj hij k hk => ?_⟩
  · have e : flat (fun i => .int .i64 (N i) :: cellsL (if i = n then u' else vs i)) (n + 1) = flat (fun i => .int .i64 (N i) :: cellsL (vs i)) n ++ (.int .i64 (N n) :: cellsL u') := by
      rw [flat, if_pos rfl]
      congr 1
      exact flat_congr fun i hi => by rw [if_neg (by omega)]
    rw [e]
    exact hv
  · by_cases ei : i = n
    · subst ei
      simp only [if_true]
      exact hu2.mono (Nat.zero_le _)
    · simp only [if_neg ei]
      exact ho2 i (by omega)
  · rcases hv' k hk with h | h
    · exact hP k (o.rb k h) (hvlt k h)
    · exact hP' k (Nat.le_trans b1.size h) (hv.lt k hk).2
  · by_cases ei : i = n
    · simp only [if_pos ei] at hk
      exact hP' k (hu.lt hk).1 (hu2.lt hk).2
    · simp only [if_neg ei] at hk
      exact hP k (o.ob i (by omega) k hk) (lts i (by omega) k hk)
  · intro hvk
    by_cases ei : i = n
    · simp only [if_pos ei] at hk
      rcases hv' k hvk with h | h
      · have := hvlt k h
        have := (hu.lt hk).1
        omega
      · have := (hu.lt hk).2
        omega
    · simp only [if_neg ei] at hk
      rcases hv' k hvk with h | h
      · exact o.ra i (by omega) k hk h
      · have := lts i (by omega) k hk
        have := b1.size
        omega
  · intro hjk
    by_cases ei : i = n
    · have ej : j ≠ n := fun e => hij (by omega)
      simp only [if_pos ei] at hk
      simp only [if_neg ej] at hjk
      have := lts j (by omega) k hjk
      have := (hu.lt hk).1
      omega
    · simp only [if_neg ei] at hk
      by_cases ej : j = n
      · simp only [if_pos ej] at hjk
        have := lts i (by omega) k hk
        have := (hu.lt hjk).1
        omega
      · simp only [if_neg ej] at hjk
        exact o.oa i j (by omega) (by omega) hij k hk hjk

theorem LK.cell (o : LK w P v n N vs S) {i : Nat} (hi : i < n) : ∃ g cap, v = .slice (some ⟨g, 0, none⟩) n cap ∧ P g ∧ g < w.heap.size ∧ Cel5 w g (i * 5) (N i) (S i) (vs i) ∧ ∀ j, w.frozen? ⟨g, j, none⟩ = false := by
  have hr := o.row
  rcases hr.2 with ⟨_, h0⟩ | ⟨g, cap, cur, rfl, hb, hg, hcap, _⟩
  · omega
  · refine ⟨g, cap, rfl, o.rb g rfl, (o.row.lt g rfl).2, ?_, fun j => o.row.frozenAt j⟩
    have hl : ∀ j, j < n → ((fun i => Value.int .i64 (N i) :: cellsL (vs i)) j).length = 5 := fun j hj => by
      have := (o.own j hj).cellsL.1
      simp [this]
    have hc : ∀ j, j < 5 → w.cell? ⟨g, i * 5 + j, none⟩ = (Value.int .i64 (N i) :: cellsL (vs i))[j]? := fun j hj => by
      rw [o.row.cellAt (i * 5 + j) (by omega)]
      exact flat_at hl hi hj
    obtain ⟨vr, vo, e, h1, h2, -⟩ := o.own i hi
    obtain ⟨a1, c1, rfl, -⟩ := h1.form
    obtain ⟨a2, c2, rfl, -⟩ := h2.form
    rw [e] at hc
    exact ⟨a1, c1, a2, c2, e, hc 0 (by omega), hc 1 (by omega), hc 2 (by omega), hc 3 (by omega), hc 4 (by omega)⟩
end

theorem ownsRow_sliceK {w : World} {B : Nat} {e : TypeId} {sz : Nat} {v : Value} {n : Nat} {xs : List Value} (h : w.ownsRow B e sz v n xs) : ∃ a c, v = .slice a n c := by
  rcases h.2 with ⟨rfl, rfl⟩ | ⟨g, cap, cur, rfl, _⟩
  · exact ⟨none, 0, rfl⟩
  · exact ⟨_, _, rfl⟩
theorem kndK : Kind 28 48 5 72 := by
  have hinfo := infoKpt
  cases hi : Tryz.prog.info? 48 with
  | none => rw [hi] at hinfo; cases hinfo
  | some i =>
    rw [hi] at hinfo
    simp only [Option.map_some, Option.some.injEq, Prod.mk.injEq] at hinfo
    exact ⟨Tryz.underlying28, ⟨i, _, hi, hinfo.1, hinfo.2.1, hinfo.2.2, rfl⟩, by omega, by omega⟩
theorem LK.made (w : World) (P : Nat → Prop) (hP : P w.heap.size) (N : Nat → Int) (vs : Nat → Value) (S : Nat → S4) : LK (w.alloc (.cells #[] 48)) P (.slice (some ⟨w.heap.size, 0, none⟩) 0 0) 0 N vs S :=
  ⟨World.ownsRow_made (base := 0) w #[] 0 (Nat.zero_le _) (by unfold maxLen; omega) (by simp), fun i hi => (by omega), fun k hk => by cases hk; exact hP, fun i hi => (by omega), fun i hi => (by omega), fun i j hi => (by omega)⟩
/-- One kept state more is appended. -/
theorem LK.appended {w w1 w2 : World} {P : Nat → Prop} {v v' : Value} {n : Nat} {N : Nat → Int} {vs : Nat → Value} {S : Nat → S4} (o : LK w P v n N vs S) (b1 : Below w.heap.size w w1) {ra oa : Option Addr} {rc oc : Nat} (hu : StOwn w1 w.heap.size (stV (S n).p ra (S n).rs.length rc oa (S n).os.length oc (S n).c) (S n).p (S n).rs (S n).os (S n).c) (hP' : ∀ k, w.heap.size ≤ k → P k)
    (r2 : w2.ownsRow 0 48 5 v' (n + 1) (flat (fun i => .int .i64 (N i) :: cellsL (vs i)) n ++ [.int .i64 (N n), .int .i64 (S n).p, .slice ra (S n).rs.length rc, .slice oa (S n).os.length oc, .int .i64 (S n).c])) (r3 : w1.grownBy w2 v.ownBlock) (r4 : ∀ j, v'.ownBlock = some j → v.ownBlock = some j ∨ w1.heap.size ≤ j) :
    LK w2 P v' (n + 1) N (fun j => if j = n then stV (S n).p ra (S n).rs.length rc oa (S n).os.length oc (S n).c else vs j) S ∧ Touch P w w2 :=
  ⟨o.push b1 hu r2 r3 r4 (fun _ hk _ => hk) (fun k hk _ => hP' k hk), (Touch.of_below b1).trans (Touch.of_grown r3 fun k hk => o.rb k hk)⟩

/-- Kept states of one's own, seen as ones that came in. -/
theorem LK.all {w : World} {P : Nat → Prop} {a : Option Addr} {n cap : Nat} {N : Nat → Int} {vs : Nat → Value} {S : Nat → S4} (o : LK w P (.slice a n cap) n N vs S) : ∃ q : Nat → K9, AllKept w a n q ∧ ∀ i, (q i).n = N i ∧ (q i).s = S i := by
  by_cases h0 : n = 0
  · exact ⟨fun i => ⟨⟨(S i).p, none, 0, (S i).rs, none, 0, (S i).os, (S i).c⟩, N i⟩, ⟨.inl h0, fun i hi => by omega⟩, fun i => ⟨rfl, rfl⟩⟩
  obtain ⟨g, cap', e, -, hg, -, -⟩ := o.cell (show 0 < n by omega)
  simp only [Value.slice.injEq] at e
  obtain ⟨rfl, -, rfl⟩ := e
  have h : ∀ i, ∃ x : K9, (x.n = N i ∧ x.s = S i) ∧ (i < n → (w.cell? ⟨g, 0 + i * 5, none⟩ = some (.int .i64 x.n) ∧ w.cell? ⟨g, 0 + i * 5 + 1, none⟩ = some (.int .i64 x.p) ∧ w.cell? ⟨g, 0 + i * 5 + 2, none⟩ = some (.slice x.ra x.rs.length x.rc) ∧ w.cell? ⟨g, 0 + i * 5 + 3, none⟩ = some (.slice x.oa x.os.length x.oc) ∧ w.cell? ⟨g, 0 + i * 5 + 4, none⟩ = some (.int .i64 x.c)) ∧ Sl w x.ra x.rs ∧ Sl w x.oa x.os) := by
    intro i
    by_cases hi : i < n
    · obtain ⟨g', cap2, e2, -, -, ⟨ra, rc, oa, oc, ev, a0, a1, a2, a3, a4⟩, -⟩ := o.cell hi
      simp only [Value.slice.injEq, Option.some.injEq, Addr.mk.injEq, and_true, true_and] at e2
      obtain ⟨rfl, -⟩ := e2
      refine ⟨⟨⟨(S i).p, ra, rc, (S i).rs, oa, oc, (S i).os, (S i).c⟩, N i⟩, ⟨rfl, rfl⟩, fun _ => ⟨?_, ?_⟩⟩
      · rw [Nat.zero_add]
        exact ⟨a0, a1, a2, a3, a4⟩
      · obtain ⟨x1, x2, x3, x4, e, s1, s2⟩ := (o.own i hi).read
        rw [ev] at e
        simp only [Value.agg.injEq, Array.mk.injEq, List.cons.injEq, Value.slice.injEq, and_true, true_and] at e
        obtain ⟨⟨rfl, rfl⟩, rfl, rfl⟩ := e
        exact ⟨s1, s2⟩
    · exact ⟨⟨⟨(S i).p, none, 0, (S i).rs, none, 0, (S i).os, (S i).c⟩, N i⟩, ⟨rfl, rfl⟩, fun h => absurd h hi⟩
  exact ⟨fun i => Classical.choose (h i), ⟨.inr ⟨g, 0, rfl, hg, fun i hi => ((Classical.choose_spec (h i)).2 hi).1⟩, fun i hi => ((Classical.choose_spec (h i)).2 hi).2⟩, fun i => (Classical.choose_spec (h i)).1⟩

/-- The states that are kept: behind 0, 8, 16, .. events. -/
def kaS (g : Nat → I5) (n : Nat) (eh : Nat → E3) (i : Nat) : S4 := resS (repO g n eh (8 * i))
noncomputable def kaN (g : Nat → I5) (n : Nat) (eh : Nat → E3) (m : Nat) : Nat := if (repO g n eh m).isSome = true then m / 8 + 1 else 0

def KaR (w : World) (g : Nat → I5) (n : Nat) (eh : Nat → E3) (m : Nat) (e : Ending) (w' : World) : Prop := ∃ a cap vs, e = .returned (.slice a (kaN g n eh m) cap) ∧ LK w' (fun k => w.heap.size ≤ k) (.slice a (kaN g n eh m) cap) (kaN g n eh m) (fun i => ((8 * i : Nat) : Int)) vs (kaS g n eh) ∧ Below w.heap.size w w' ∧ a ≠ none

set_option maxRecDepth 100000 in
set_option maxHeartbeats 2000000 in
theorem specKeepAll_any (gb n gc : Nat) (ea : Option Addr) (m ec : Nat) (g : Nat → I5) (eh : Nat → E3) (w : World) (hn : n ≤ maxLen) (hg : gb < w.heap.size) (hI : InsAt w gb 0 n g) (hE : EvL w ea m eh) (hm : m ≤ 1048576) (hec : m ≤ ec) :
    Calls Tryz.prog 8 #[.slice (some ⟨gb, 0, none⟩) n gc, .slice ea m ec] w (KaR w g n eh m) := by
  have hm' : (m : Int) ≤ 1048576 := by omega
  have HR : Hid (∀ wx j, j ≤ m → Below w.heap.size w wx → Calls Tryz.prog 21 #[.slice (some ⟨gb, 0, none⟩) n gc, .slice ea j ec] wx (DoneR wx (resS (repO g n eh j)) (repO g n eh j).isSome)) := fun wx j hj hb => specReplay_l gb n gc ea j ec g eh wx hn (Nat.lt_of_lt_of_le hg hb.size) (hI.below hb hg) ((hE.below hb).take hj) (by omega)
  have HEC : Hid (m ≤ ec) := hec
  have LK0 : Hid (LK (w.alloc (.cells #[] 48)) (fun k => w.heap.size ≤ k) (.slice (some ⟨w.heap.size, 0, none⟩) 0 0) 0 (fun i => ((8 * i : Nat) : Int)) (fun _ => .int .i64 0) (kaS g n eh)) := LK.made w _ (Nat.le_refl _) _ _ _
  have BA : Hid (Below w.heap.size w (w.alloc (.cells #[] 48))) := below_alloc _ _
  clear hI hE hn hg hec
  go_enter Tryz.func8, Tryz.ntmps8
  go_wp2_with fail
  generalize w.alloc (.cells #[] 48) = wa at *
  refine (HR.out wa m (Nat.le_refl _) BA.out).mono ?_
  rintro e w1 ⟨v1, rfl, o1, b1⟩
  obtain ⟨ra, rc, oa, oc, rfl, -, -⟩ := o1.read
  generalize hb0 : (repO g n eh m).isSome = ok at *
  have HOK : Hid ((repO g n eh m).isSome = ok) := hb0
  clear hb0
  generalize resS (repO g n eh m) = S0 at *
  have BQ : Below wa.heap.size wa (w1.alloc (.cells #[.int .i64 S0.p, .slice ra S0.rs.length rc, .slice oa S0.os.length oc, .int .i64 S0.c] 32)) := b1.trans ((below_alloc _ _).mono b1.size)
  have LK1 : Hid (LK (w1.alloc (.cells #[.int .i64 S0.p, .slice ra S0.rs.length rc, .slice oa S0.os.length oc, .int .i64 S0.c] 32)) (fun k => w.heap.size ≤ k) (.slice (some ⟨w.heap.size, 0, none⟩) 0 0) 0 (fun i => ((8 * i : Nat) : Int)) (fun _ => .int .i64 0) (kaS g n eh) ∧ Below w.heap.size w (w1.alloc (.cells #[.int .i64 S0.p, .slice ra S0.rs.length rc, .slice oa S0.os.length oc, .int .i64 S0.c] 32))) := ⟨LK0.out.below BQ, BA.out.trans (BQ.mono BA.out.size)⟩
  clear o1 b1 BQ LK0 BA
  go_upto_region 3 with fail
  generalize w1.alloc (.cells #[.int .i64 S0.p, .slice ra S0.rs.length rc, .slice oa S0.os.length oc, .int .i64 S0.c] 32) = w2 at *
  cases ok
  case false =>
    have HN : Hid (kaN g n eh m = 0) := by
      show kaN g n eh m = 0
      unfold kaN
      rw [HOK.out]
      rfl
    have h0 : (0 : Int) ≤ (m : Int) := by omega
    go_wp2_with fail
    go_loopw [5, 8] (fun v i wr => v = .slice (some ⟨w.heap.size, 0, none⟩) 0 0 ∧ i = .int .i64 0 ∧ wr = w2) (fun _ _ _ => 0)
    case atStart => exact ⟨rfl, rfl, rfl⟩
    case round =>
      obtain ⟨rfl, rfl, rfl⟩ := hrel
      go_wp2
      refine bodyPost_ret (v := .slice (some ⟨w.heap.size, 0, none⟩) 0 0) (by simp [results, Tryz.results8, go_sem]) rfl ?_
      unfold KaR
      rw [HN.out]
      exact ⟨_, _, _, rfl, LK1.out.1, LK1.out.2, fun h => by cases h⟩
  case true =>
    have HN : Hid (kaN g n eh m = m / 8 + 1) := by
      show kaN g n eh m = m / 8 + 1
      unfold kaN
      rw [HOK.out]
      rfl
    go_wp2_with fail
    go_loopw [5, 8] (fun v i wr => ∃ (k : Nat) (a : Option Addr) (cap : Nat) (vs : Nat → Value), 8 * k ≤ m + 8 ∧ i = .int .i64 ((8 * k : Nat) : Int) ∧ v = .slice a k cap ∧ Hid (LK wr (fun j => w.heap.size ≤ j) (.slice a k cap) k (fun i => ((8 * i : Nat) : Int)) vs (kaS g n eh) ∧ Below w.heap.size w wr)) (fun _ i _ => m + 8 - (intOf i).toNat)
    case atStart => exact ⟨0, _, _, _, by omega, rfl, rfl, LK1.out⟩
    case round =>
      clear LK1
      obtain ⟨k, a, cap, vs, hk, rfl, rfl, HK⟩ := hrel
      by_cases hlt : 8 * k ≤ m
      · have hlt' : ((8 * k : Nat) : Int) ≤ (m : Int) := by omega
        have hsl := slice_kp ea m ec (8 * k) (Nat.le_trans hlt HEC.out)
        generalize hJ : 8 * k = J at *
        have HJ : Hid (8 * k = J) := hJ
        clear hJ
        go_wp2_with fail
        clear hsl
        refine (HR.out wr J hlt HK.out.2).mono ?_
        rintro e w3 ⟨v3, rfl, o3, b3⟩
        obtain ⟨ra3, rc3, oa3, oc3, rfl, -, -⟩ := o3.read
        have HSk : Hid (resS (repO g n eh J) = kaS g n eh k) := by
          show resS (repO g n eh J) = kaS g n eh k
          unfold kaS
          rw [HJ.out]
        rw [HSk.out] at o3 ⊢
        generalize (repO g n eh J).isSome = okJ
        have bq := below_alloc w3 (.cells #[.int .i64 (kaS g n eh k).p, .slice ra3 (kaS g n eh k).rs.length rc3, .slice oa3 (kaS g n eh k).os.length oc3, .int .i64 (kaS g n eh k).c] 32)
        have B4 : Hid (Below wr.heap.size wr (w3.alloc (.cells #[.int .i64 (kaS g n eh k).p, .slice ra3 (kaS g n eh k).rs.length rc3, .slice oa3 (kaS g n eh k).os.length oc3, .int .i64 (kaS g n eh k).c] 32))) := b3.trans (bq.mono b3.size)
        have O4 : Hid (StOwn (w3.alloc (.cells #[.int .i64 (kaS g n eh k).p, .slice ra3 (kaS g n eh k).rs.length rc3, .slice oa3 (kaS g n eh k).os.length oc3, .int .i64 (kaS g n eh k).c] 32)) wr.heap.size (stV (kaS g n eh k).p ra3 (kaS g n eh k).rs.length rc3 oa3 (kaS g n eh k).os.length oc3 (kaS g n eh k).c) (kaS g n eh k).p (kaS g n eh k).rs (kaS g n eh k).os (kaS g n eh k).c) := o3.below bq
        have N4 : Hid (BoxC (w3.alloc (.cells #[.int .i64 (kaS g n eh k).p, .slice ra3 (kaS g n eh k).rs.length rc3, .slice oa3 (kaS g n eh k).os.length oc3, .int .i64 (kaS g n eh k).c] 32)) w3.heap.size (.int .i64 (kaS g n eh k).p) (.slice ra3 (kaS g n eh k).rs.length rc3) (.slice oa3 (kaS g n eh k).os.length oc3) (.int .i64 (kaS g n eh k).c)) := BoxC.new w3 _ _ _ _ _
        clear o3 b3 bq HSk
        go_upto_region 7 with fail
        generalize w3.alloc (.cells #[.int .i64 (kaS g n eh k).p, .slice ra3 (kaS g n eh k).rs.length rc3, .slice oa3 (kaS g n eh k).os.length oc3, .int .i64 (kaS g n eh k).c] 32) = w4 at *
        generalize w3.heap.size = M3 at *
        obtain ⟨y0, y1, y2, y3⟩ := N4.out
        go_wp2_with (at_builtin; refine step_append_val kndK w4 rfl rfl _ _ rfl 0 (.slice a k cap) k _ rfl (HK.out.1.below B4.out).row #[.int .i64 (J : Int), .int .i64 (kaS g n eh k).p, .slice ra3 (kaS g n eh k).rs.length rc3, .slice oa3 (kaS g n eh k).os.length oc3, .int .i64 (kaS g n eh k).c] rfl rfl (by intro u hu; simp at hu; rcases hu with rfl | rfl | rfl | rfl | rfl <;> rfl) (by have := HJ.out; omega) (Nat.zero_le _) ?_; intro v5 w5 r2 r3 r4 r5; obtain ⟨a5, c5, rfl⟩ := ownsRow_sliceK r2; have hap := HK.out.1.appended (N := fun i => ((8 * i : Nat) : Int)) (S := kaS g n eh) B4.out O4.out (fun j hj => Nat.le_trans HK.out.2.size hj) (by rw [HJ.out]; exact r2) r3 r4; have HN5 : Hid (LK w5 (fun j => w.heap.size ≤ j) (.slice a5 (k + 1) c5) (k + 1) (fun i => ((8 * i : Nat) : Int)) _ (kaS g n eh) ∧ Below w.heap.size w w5) := ⟨hap.1, HK.out.2.trans ⟨hap.2.os, hap.2.tape, hap.2.output, hap.2.size, fun j hj => hap.2.block j (Nat.lt_of_lt_of_le hj HK.out.2.size) (by omega)⟩⟩; clear hap r2 r3 r4 r5 y0 y1 y2 y3)
        go_roundw
        case rel => exact ⟨k + 1, a5, c5, _, by have := HJ.out; omega, by have := HJ.out; go_num, rfl, HN5.out⟩
        case measure => simp [intOf]; omega
      · have hkk : kaN g n eh m = k := by rw [HN.out]; omega
        have hlt' : ¬ ((8 * k : Nat) : Int) ≤ (m : Int) := by omega
        have HKK : Hid (kaN g n eh m = k) := hkk
        clear hkk
        go_wp2
        refine bodyPost_ret (v := .slice a k cap) (by simp [results, Tryz.results8, go_sem]) rfl ?_
        unfold KaR
        rw [HKK.out]
        refine ⟨_, _, _, rfl, HK.out.1, HK.out.2, fun h => ?_⟩
        obtain ⟨D0, cap0, ea, -⟩ := HK.out.1.cell (i := 0) (by have := HN.out; have := HKK.out; omega)
        rw [h] at ea
        cases ea

end Go.Proofs.YtcmmlklanjhfoaaGreatDoor

namespace Go.Proofs.YtcmmlklanjhfoaaGreatDoor
open Go.ChangeShapes Go.WideShapes Go.ChangeAt Go.RowKit Go.Deep

theorem ka_len (g : Nat → I5) (n : Nat) (eh : Nat → E3) (m : Nat) : kaN g n eh m ≤ 26 ∧ ∀ i, i < kaN g n eh m → (kaS g n eh i).rs.length ≤ 4 ∧ (kaS g n eh i).os.length ≤ 60 := by
  unfold kaN
  by_cases h : (repO g n eh m).isSome = true
  · rw [if_pos h]
    unfold repO at h
    by_cases h1 : progOkB g n 4 = true ∧ m ≤ 200
    · rw [if_pos h1] at h
      obtain ⟨S, hS⟩ := Option.isSome_iff_exists.1 h
      refine ⟨by omega, fun i hi => ?_⟩
      obtain ⟨S', hS'⟩ := rp_some hS (k := 8 * i) (by omega)
      have := OkS.len (rp_ok h1.1 _ _ hS')
      unfold kaS repO
      rw [if_pos ⟨h1.1, by omega⟩, hS']
      show S'.rs.length ≤ 4 ∧ S'.os.length ≤ 60
      omega
    · rw [if_neg h1] at h
      cases h
  · rw [if_neg h]
    exact ⟨by omega, fun i hi => by omega⟩
theorem ka_sum {S : Nat → S4} {nn : Nat} (h : ∀ i, i < nn → (S i).rs.length ≤ 4 ∧ (S i).os.length ≤ 60) : sumL (lenS S) nn ≤ 64 * nn := by
  induction nn with
  | zero => exact Nat.le_refl _
  | succ k ih =>
    have h1 := ih fun i hi => h i (by omega)
    have h2 := h k (by omega)
    have h3 : lenS S k = (S k).rs.length + (S k).os.length := rfl
    simp only [sumL]
    omega

end Go.Proofs.YtcmmlklanjhfoaaGreatDoor
