/- The model's LiveOk, whole. -/
import Derived.Test.YtdfhpimdgfemjaaGreatDoorLa41
namespace Go.Proofs.YtdfhpimdgfemjaaGreatDoor
open Go.ChangeShapes Go.WideShapes Go.ChangeAt Go.RowKit Go.Deep Go.Sort

/-- What the model asks of who comes first: its cut, and, where it is not drawn, all ways to it. -/
def UpTo (y : Sy) (z : Sh) (j : Nat) : Prop := ∀ p, p < j → (-1 ≤ z.cH p ∧ z.cH p ≤ y.hL p) ∧ (z.cH p < 0 → ∀ a, a < y.pn → z.oH (a * y.pn + p) = false ∧ z.kL (a * y.pn + p) = 0)
theorem upTo_iff {y : Sy} {z : Sh} (h1 : 1 ≤ y.pn) (hf : z.Fit y) (hw : y.wn = y.pn * y.pn) : UpTo y z y.pn ↔ (z.DrOk y ∧ z.UnOk) := by
  obtain ⟨f1, f2, f3⟩ := hf
  constructor
  · intro h
    refine ⟨fun p hp => (h p (by omega)).1, fun i hi hc => ?_⟩
    have hm : i % z.cn < y.pn := by
      rw [f1]
      exact Nat.mod_lt _ (by omega)
    have hd : i / z.cn < y.pn := by
      rw [f1]
      exact Nat.div_lt_of_lt_mul (by omega)
    have h2 := (h (i % z.cn) hm).2 (by omega) (i / z.cn) hd
    have e : i / z.cn * y.pn + i % z.cn = i := by
      rw [f1, Nat.mul_comm]
      exact Nat.div_add_mod i y.pn
    rw [e] at h2
    exact h2
  · rintro ⟨hd, hu⟩ p hp
    refine ⟨hd p (by omega), fun hc a ha => ?_⟩
    have h2 := hd p (by omega)
    have hlt : a * y.pn + p < y.pn * y.pn := by
      have : (a + 1) * y.pn ≤ y.pn * y.pn := Nat.mul_le_mul_right _ (by omega)
      rw [Nat.add_mul] at this
      omega
    have e : (a * y.pn + p) % z.cn = p := by
      rw [f1, Nat.add_comm, Nat.add_mul_mod_self_right, Nat.mod_eq_of_lt hp]
    exact hu (a * y.pn + p) (by omega) (by rw [e]; omega)
theorem UpTo.next {y : Sy} {z : Sh} {j : Nat} (h : UpTo y z j) (hj : (-1 ≤ z.cH j ∧ z.cH j ≤ y.hL j) ∧ (z.cH j < 0 → ∀ a, a < y.pn → z.oH (a * y.pn + j) = false ∧ z.kL (a * y.pn + j) = 0)) : UpTo y z (j + 1) := fun p hp => by
  by_cases e : p = j
  · subst e; exact hj
  · exact h p (by omega)

set_option maxRecDepth 100000 in
set_option maxHeartbeats 4000000 in
theorem specLiveOk_any (x : LvIn) (w : World) (hG : LvG w x) (hL : x.Len) (hcap : ∀ i, i < x.s.hn → x.s.hL i ≤ x.s.hC i) :
    Calls Tryz.prog 19 #[x.v] w fun e w' => e = .returned (.bool (pB (LvOk x.s.y x.h.z))) ∧ Below w.heap.size w w' := by
  have HG : Hid (LvG w x) := hG
  have HL : Hid x.Len := hL
  have HCP : Hid (∀ i, i < x.s.hn → x.s.hL i ≤ x.s.hC i) := hcap
  have lc : (x.h.cn : Int) ≤ 1048576 := by have := hL.h.c; omega
  have lo : (x.h.ol : Int) ≤ 1048576 := by have := hL.h.o; omega
  have lk : (x.h.kn : Int) ≤ 1048576 := by have := hL.h.k.1; omega
  clear hG hL hcap
  have X0 : Hid (LvX w (w.alloc (.cells #[.slice x.s.pa x.s.pn x.s.pc, .slice x.s.sa x.s.sn x.s.sc, .slice x.s.wa x.s.wn x.s.wc, .slice x.s.ha x.s.hn x.s.hc, .bool x.h.on, .slice x.h.ca x.h.cn x.h.cc, .slice x.h.oa x.h.ol x.h.oc, .slice x.h.ka x.h.kn x.h.kc] 41)) x) := LvX.new _ _ _
  go_enter Tryz.func19, Tryz.ntmps19
  go_wp2_with fail
  generalize w.alloc (.cells #[.slice x.s.pa x.s.pn x.s.pc, .slice x.s.sa x.s.sn x.s.sc, .slice x.s.wa x.s.wn x.s.wc, .slice x.s.ha x.s.hn x.s.hc, .bool x.h.on, .slice x.h.ca x.h.cn x.h.cc, .slice x.h.oa x.h.ol x.h.oc, .slice x.h.ka x.h.kn x.h.kc] 41) = wA at *
  refine (specSysOk_any x.s wA (HG.out.s.below X0.out.1) HL.out.s HCP.out).mono ?_
  rintro e w1 ⟨rfl, b1⟩
  have X1 : Hid (LvX w w1 x) := X0.out.below b1
  clear b1 X0
  generalize ht : x.s.y.okB = T
  cases T
  · have HN : Hid (¬ LvOk x.s.y x.h.z) := fun h => by
      have := h.s
      rw [ht] at this
      cases this
    clear ht
    have B1 : Hid (Below w.heap.size w w1) := X1.out.1
    clear X1
    go_wp2
    go_ret
    exact ⟨ret_bool (pB_false HN.out).symm, B1.out⟩
  have HO : Hid (x.s.y.okB = true) := ht
  have h4 := (Sy.ok_of ht).cn
  have hp1 : 1 ≤ x.s.pn := h4.1.1
  have hp4n : x.s.pn ≤ 4 := h4.1.2
  have hp4 : (x.s.pn : Int) ≤ 4 := by omega
  have HHN : Hid (x.s.hn = x.s.pn) := h4.2.2.1
  have HWN : Hid (x.s.wn = x.s.pn * x.s.pn) := h4.2.2.2
  have hw0 : 0 ≤ (x.s.pn : Int) * (x.s.pn : Int) := Int.mul_nonneg (by omega) (by omega)
  have hw1 : (x.s.pn : Int) * (x.s.pn : Int) ≤ 16 := by
    have := Int.mul_le_mul hp4 hp4 (by omega) (by omega)
    omega
  clear ht h4
  obtain ⟨B1, p0, p1, p2, p3, p4, p5, p6, p7⟩ := X1.out
  have BB1 : Hid (Below w.heap.size w w1) := B1
  clear B1
  by_cases hf : x.h.z.Fit x.s.y
  case neg =>
    have HN : Hid (¬ LvOk x.s.y x.h.z) := fun h => hf h.f
    have hq : ¬ (x.h.cn = x.s.pn ∧ x.h.ol = x.s.wn ∧ x.h.kn = x.s.wn) := hf
    clear hf
    by_cases q1 : x.h.cn = x.s.pn
    · have t1 : ((x.h.cn : Int) != (x.s.pn : Int)) = false := by simp [q1]
      by_cases q2 : x.h.ol = x.s.wn
      · have t2 : ((x.h.ol : Int) != (x.s.pn : Int) * (x.s.pn : Int)) = false := by rw [q2, HWN.out, Int.natCast_mul]; simp
        have t3 : ((x.h.kn : Int) != (x.s.pn : Int) * (x.s.pn : Int)) = true := by
          have : ¬ x.h.kn = x.s.wn := fun h => hq ⟨q1, q2, h⟩
          rw [HWN.out] at this
          simp only [bne_iff_ne, ne_eq]
          intro e
          apply this
          have e2 : (x.h.kn : Int) = ((x.s.pn * x.s.pn : Nat) : Int) := by rw [e, Int.natCast_mul]
          omega
        clear q1 q2 hq
        go_wp2
        go_ret
        exact ⟨ret_bool (pB_false HN.out).symm, BB1.out⟩
      · have t2 : ((x.h.ol : Int) != (x.s.pn : Int) * (x.s.pn : Int)) = true := by
          rw [HWN.out] at q2
          simp only [bne_iff_ne, ne_eq]
          intro e
          apply q2
          have e2 : (x.h.ol : Int) = ((x.s.pn * x.s.pn : Nat) : Int) := by rw [e, Int.natCast_mul]
          omega
        clear q1 q2 hq
        go_wp2
        go_ret
        exact ⟨ret_bool (pB_false HN.out).symm, BB1.out⟩
    · have t1 : ((x.h.cn : Int) != (x.s.pn : Int)) = true := by simp; omega
      clear q1 hq
      go_wp2
      go_ret
      exact ⟨ret_bool (pB_false HN.out).symm, BB1.out⟩
  have HF : Hid (x.h.z.Fit x.s.y ∧ x.h.cn = x.s.pn ∧ x.h.ol = x.s.wn ∧ x.h.kn = x.s.wn) := ⟨hf, hf⟩
  have t1 : ((x.h.cn : Int) != (x.s.pn : Int)) = false := by have := HF.out.2.1; simp [this]
  have t2 : ((x.h.ol : Int) != (x.s.pn : Int) * (x.s.pn : Int)) = false := by rw [HF.out.2.2.1, HWN.out, Int.natCast_mul]; simp
  have t3 : ((x.h.kn : Int) != (x.s.pn : Int) * (x.s.pn : Int)) = false := by rw [HF.out.2.2.2, HWN.out, Int.natCast_mul]; simp
  clear hf
  go_wp2_with fail
  clear t1 t2 t3 p0 p1 p2 p3 p4 p5 p6 p7 hw0 hw1 BB1
  go_loopw [4, 5] (fun s i wr => ∃ j : Nat, j ≤ x.s.pn ∧ i = .int .i64 j ∧ s = .bool (decide (0 < cntD x.h.cH j)) ∧ Hid (LvX w wr x) ∧ Hid (UpTo x.s.y x.h.z j)) (fun _ i _ => x.s.pn - (intOf i).toNat)
  case atStart => exact ⟨0, Nat.zero_le _, rfl, by simp [cntD], X1.out, fun p hp => by omega⟩
  case round =>
    clear X1
    obtain ⟨j, hj, rfl, rfl, HX, HU⟩ := hrel
    by_cases hlt : j < x.s.pn
    · have hlt' : (j : Int) < (x.s.pn : Int) := by omega
      have hjc : j < x.h.cn := by have := HF.out.2.1; omega
      have hjc' : (j : Int) < (x.h.cn : Int) := by omega
      have hjh : j < x.s.hn := by have := HHN.out; omega
      have hjh' : (j : Int) < (x.s.hn : Int) := by omega
      have hll : (x.s.hL j : Int) ≤ 1048576 := by have := HL.out.s.h.2 j hjh; omega
      obtain ⟨cb, co, ec, -, c0⟩ := (HG.out.h.c.below HX.out.1).at hjc
      obtain ⟨hb, ho, eh, ch⟩ := (HG.out.s.h.below HX.out.1).at hjh
      obtain ⟨-, p0, p1, p2, p3, p4, p5, p6, p7⟩ := HX.out
      rw [ec] at p5
      rw [eh] at p3
      have EC : Hid (x.h.ca = some ⟨cb, co, none⟩) := ec
      clear ec eh
      have HZ : Hid (inB (x.h.cH j) (-1) (x.s.hL j) = true ↔ (-1 ≤ x.h.cH j ∧ x.h.cH j ≤ (x.s.hL j : Int))) := by
        show _ ↔ _
        simp [inB]
      have q0 := cell_regrown c0
      have qh := cell_regrown ch
      have q3 := cell_regrown p3
      have q5 := cell_regrown p5
      clear c0 ch p0 p1 p2 p3 p4 p5 p6 p7
      go_upto_region 8 with fail
      refine wp_region_quiet_below (by kernel_rfl) (by kernel_rfl) ?_
      repeat (quiet_step (first | (go_at_call 56; exact Calls.regrown_same (l1In_any _ _ _ _))))
      refine wpQuiet_nil ?_
      intro _ hw'
      obtain ⟨⟨dd, os⟩, hw''⟩ := hw'
      subst hw''
      have X3 : Hid (LvX w (grow (redrawn wr dd) os) x) := HX.out.below (below_regrown wr dd os)
      generalize grow (redrawn wr dd) os = w3 at *
      clear q0 qh q3 q5 HX
      generalize hT : inB (x.h.cH j) (-1) (x.s.hL j) = T at *
      cases T
      · have HN : Hid (¬ LvOk x.s.y x.h.z) := fun h => by
          have h1 := HZ.out.2 (h.d j hjc)
          cases h1
        have B1 : Hid (Below w.heap.size w w3) := X3.out.1
        clear HZ hT X3 HU
        go_wp2
        go_ret
        exact ⟨ret_bool (pB_false HN.out).symm, B1.out⟩
      have HR : Hid (-1 ≤ x.h.cH j ∧ x.h.cH j ≤ (x.s.hL j : Int)) := HZ.out.1 rfl
      clear HZ hT
      obtain ⟨cb', co', ec', -, c0⟩ := (HG.out.h.c.below X3.out.1).at hjc
      rw [EC.out] at ec'
      simp only [Option.some.injEq, Addr.mk.injEq, and_true] at ec'
      obtain ⟨rfl, rfl⟩ := ec'
      obtain ⟨-, p0, p1, p2, p3, p4, p5, p6, p7⟩ := X3.out
      rw [EC.out] at p5
      have HCN : Hid (decide (0 < cntD x.h.cH (j + 1)) = (decide (0 < cntD x.h.cH j) || decide (0 ≤ x.h.cH j))) := by
        have h1 := HR.out
        show decide (0 < cntD x.h.cH (j + 1)) = _
        conv => lhs; unfold cntD
        by_cases e : x.h.cH j = -1
        · rw [if_pos e, Nat.add_zero, e]
          simp
        · rw [if_neg e]
          have h2 : 0 ≤ x.h.cH j := by omega
          simp [h2]
      generalize hcd : decide (0 < cntD x.h.cH j) = sm at *
      by_cases hng : x.h.cH j < 0
      · have hge : ¬ x.h.cH j ≥ 0 := by omega
        have hS : Hid (decide (0 < cntD x.h.cH (j + 1)) = sm) := by
          show decide (0 < cntD x.h.cH (j + 1)) = sm
          rw [HCN.out, decide_eq_false (show ¬ 0 ≤ x.h.cH j by omega)]
          simp
        clear HCN hcd
        have HN1 : Hid (x.h.cH j < 0) := hng
        cases sm
        · go_wp2_with fail
          go_loopw [6] (fun i wq => ∃ a : Nat, a ≤ x.s.pn ∧ i = .int .i64 a ∧ wq = w3 ∧ Hid (∀ m, m < a → x.h.oH (m * x.s.pn + j) = false ∧ x.h.kL (m * x.s.pn + j) = 0)) (fun i _ => x.s.pn - (intOf i).toNat)
          case atStart => exact ⟨0, Nat.zero_le _, rfl, rfl, fun m hm => by omega⟩
          case round =>
            obtain ⟨a, ha, rfl, rfl, HA⟩ := hrel
            by_cases hat : a < x.s.pn
            · have hat' : (a : Int) < (x.s.pn : Int) := by omega
              have hJl : a * x.s.pn + j < x.s.wn := by
                rw [HWN.out]
                have : (a + 1) * x.s.pn ≤ x.s.pn * x.s.pn := Nat.mul_le_mul_right _ (by omega)
                rw [Nat.add_mul] at this
                omega
              have hJo : a * x.s.pn + j < x.h.ol := by have := HF.out.2.2.1; omega
              have hJk : a * x.s.pn + j < x.h.kn := by have := HF.out.2.2.2; omega
              have hJe : (a : Int) * (x.s.pn : Int) + (j : Int) = ((a * x.s.pn + j : Nat) : Int) := by rw [Int.natCast_add, Int.natCast_mul]
              have hm0 : 0 ≤ (a : Int) * (x.s.pn : Int) := Int.mul_nonneg (by omega) (by omega)
              have hm1 : (a : Int) * (x.s.pn : Int) ≤ 16 := by
                have := Int.mul_le_mul (show (a : Int) ≤ 4 by omega) hp4 (by omega) (by omega)
                omega
              have HA1 : Hid (x.h.oH (a * x.s.pn + j) = false → x.h.kL (a * x.s.pn + j) = 0 → ∀ m, m < a + 1 → x.h.oH (m * x.s.pn + j) = false ∧ x.h.kL (m * x.s.pn + j) = 0) := fun h1 h2 m hm => by
                by_cases e : m = a
                · subst e; exact ⟨h1, h2⟩
                · exact HA.out m (by omega)
              have HNo : Hid (x.h.oH (a * x.s.pn + j) = true ∨ 0 < x.h.kL (a * x.s.pn + j) → ¬ LvOk x.s.y x.h.z) := fun h1 h => by
                have h2 := (upTo_iff (y := x.s.y) (z := x.h.z) hp1 HF.out.1 HWN.out).2 ⟨h.d, h.u⟩ j hlt
                obtain ⟨h3, h4⟩ := h2.2 HN1.out a hat
                have h3 : x.h.oH (a * x.s.pn + j) = false := h3
                have h4 : x.h.kL (a * x.s.pn + j) = 0 := h4
                rcases h1 with h1 | h1
                · rw [h3] at h1; cases h1
                · omega
              generalize hJ : a * x.s.pn + j = J at *
              have hJo' : (J : Int) < (x.h.ol : Int) := by omega
              have hJk' : (J : Int) < (x.h.kn : Int) := by omega
              have hkl : (x.h.kL J : Int) ≤ 1048576 := by have := HL.out.h.k.2 J hJk; omega
              obtain ⟨ob, oo, eo, -, o0⟩ := (HG.out.h.o.below X3.out.1).at hJo
              obtain ⟨kb, ko, ek, k0⟩ := (HG.out.h.k.below X3.out.1).at hJk
              rw [eo] at p6
              rw [ek] at p7
              clear eo ek hJ HA
              generalize hq : x.h.oH J = t at *
              cases t
              · by_cases d2 : (x.h.kL J : Int) > 0
                · have HN : Hid (¬ LvOk x.s.y x.h.z) := HNo.out (.inr (by omega))
                  have B1 : Hid (Below w.heap.size w _) := X3.out.1
                  clear HNo HA1 HU X3
                  go_wp2
                  go_ret
                  exact ⟨ret_bool (pB_false HN.out).symm, B1.out⟩
                · have HA2 : Hid (∀ m, m < a + 1 → x.h.oH (m * x.s.pn + j) = false ∧ x.h.kL (m * x.s.pn + j) = 0) := HA1.out rfl (by omega)
                  clear HNo HA1
                  go_wp2
                  go_roundw
                  case rel => exact ⟨a + 1, by omega, by go_num, by trivial, HA2.out⟩
                  case measure => simp [intOf]; omega
              · have HN : Hid (¬ LvOk x.s.y x.h.z) := HNo.out (.inl rfl)
                have B1 : Hid (Below w.heap.size w _) := X3.out.1
                clear HNo HA1 HU X3
                go_wp2
                go_ret
                exact ⟨ret_bool (pB_false HN.out).symm, B1.out⟩
            · have HJ : Hid (UpTo x.s.y x.h.z (j + 1)) := HU.out.next ⟨HR.out, fun _ m hm => HA.out m (by have : m < x.s.pn := hm; omega)⟩
              clear HA HU HR
              go_wp2
              go_roundw
              case rel => exact ⟨j + 1, by omega, by go_num, by rw [hS.out], X3.out, HJ.out⟩
              case measure => simp [intOf]; omega
        · go_wp2_with fail
          go_loopw [6] (fun i wq => ∃ a : Nat, a ≤ x.s.pn ∧ i = .int .i64 a ∧ wq = w3 ∧ Hid (∀ m, m < a → x.h.oH (m * x.s.pn + j) = false ∧ x.h.kL (m * x.s.pn + j) = 0)) (fun i _ => x.s.pn - (intOf i).toNat)
          case atStart => exact ⟨0, Nat.zero_le _, rfl, rfl, fun m hm => by omega⟩
          case round =>
            obtain ⟨a, ha, rfl, rfl, HA⟩ := hrel
            by_cases hat : a < x.s.pn
            · have hat' : (a : Int) < (x.s.pn : Int) := by omega
              have hJl : a * x.s.pn + j < x.s.wn := by
                rw [HWN.out]
                have : (a + 1) * x.s.pn ≤ x.s.pn * x.s.pn := Nat.mul_le_mul_right _ (by omega)
                rw [Nat.add_mul] at this
                omega
              have hJo : a * x.s.pn + j < x.h.ol := by have := HF.out.2.2.1; omega
              have hJk : a * x.s.pn + j < x.h.kn := by have := HF.out.2.2.2; omega
              have hJe : (a : Int) * (x.s.pn : Int) + (j : Int) = ((a * x.s.pn + j : Nat) : Int) := by rw [Int.natCast_add, Int.natCast_mul]
              have hm0 : 0 ≤ (a : Int) * (x.s.pn : Int) := Int.mul_nonneg (by omega) (by omega)
              have hm1 : (a : Int) * (x.s.pn : Int) ≤ 16 := by
                have := Int.mul_le_mul (show (a : Int) ≤ 4 by omega) hp4 (by omega) (by omega)
                omega
              have HA1 : Hid (x.h.oH (a * x.s.pn + j) = false → x.h.kL (a * x.s.pn + j) = 0 → ∀ m, m < a + 1 → x.h.oH (m * x.s.pn + j) = false ∧ x.h.kL (m * x.s.pn + j) = 0) := fun h1 h2 m hm => by
                by_cases e : m = a
                · subst e; exact ⟨h1, h2⟩
                · exact HA.out m (by omega)
              have HNo : Hid (x.h.oH (a * x.s.pn + j) = true ∨ 0 < x.h.kL (a * x.s.pn + j) → ¬ LvOk x.s.y x.h.z) := fun h1 h => by
                have h2 := (upTo_iff (y := x.s.y) (z := x.h.z) hp1 HF.out.1 HWN.out).2 ⟨h.d, h.u⟩ j hlt
                obtain ⟨h3, h4⟩ := h2.2 HN1.out a hat
                have h3 : x.h.oH (a * x.s.pn + j) = false := h3
                have h4 : x.h.kL (a * x.s.pn + j) = 0 := h4
                rcases h1 with h1 | h1
                · rw [h3] at h1; cases h1
                · omega
              generalize hJ : a * x.s.pn + j = J at *
              have hJo' : (J : Int) < (x.h.ol : Int) := by omega
              have hJk' : (J : Int) < (x.h.kn : Int) := by omega
              have hkl : (x.h.kL J : Int) ≤ 1048576 := by have := HL.out.h.k.2 J hJk; omega
              obtain ⟨ob, oo, eo, -, o0⟩ := (HG.out.h.o.below X3.out.1).at hJo
              obtain ⟨kb, ko, ek, k0⟩ := (HG.out.h.k.below X3.out.1).at hJk
              rw [eo] at p6
              rw [ek] at p7
              clear eo ek hJ HA
              generalize hq : x.h.oH J = t at *
              cases t
              · by_cases d2 : (x.h.kL J : Int) > 0
                · have HN : Hid (¬ LvOk x.s.y x.h.z) := HNo.out (.inr (by omega))
                  have B1 : Hid (Below w.heap.size w _) := X3.out.1
                  clear HNo HA1 HU X3
                  go_wp2
                  go_ret
                  exact ⟨ret_bool (pB_false HN.out).symm, B1.out⟩
                · have HA2 : Hid (∀ m, m < a + 1 → x.h.oH (m * x.s.pn + j) = false ∧ x.h.kL (m * x.s.pn + j) = 0) := HA1.out rfl (by omega)
                  clear HNo HA1
                  go_wp2
                  go_roundw
                  case rel => exact ⟨a + 1, by omega, by go_num, by trivial, HA2.out⟩
                  case measure => simp [intOf]; omega
              · have HN : Hid (¬ LvOk x.s.y x.h.z) := HNo.out (.inl rfl)
                have B1 : Hid (Below w.heap.size w _) := X3.out.1
                clear HNo HA1 HU X3
                go_wp2
                go_ret
                exact ⟨ret_bool (pB_false HN.out).symm, B1.out⟩
            · have HJ : Hid (UpTo x.s.y x.h.z (j + 1)) := HU.out.next ⟨HR.out, fun _ m hm => HA.out m (by have : m < x.s.pn := hm; omega)⟩
              clear HA HU HR
              go_wp2
              go_roundw
              case rel => exact ⟨j + 1, by omega, by go_num, by rw [hS.out], X3.out, HJ.out⟩
              case measure => simp [intOf]; omega
      · have hge : x.h.cH j ≥ 0 := by omega
        have hS : Hid (decide (0 < cntD x.h.cH (j + 1)) = true) := by
          show decide (0 < cntD x.h.cH (j + 1)) = true
          rw [HCN.out, decide_eq_true (show 0 ≤ x.h.cH j by omega)]
          simp
        have HJ : Hid (UpTo x.s.y x.h.z (j + 1)) := HU.out.next ⟨HR.out, fun h => absurd h hng⟩
        clear HCN hcd HU HR
        have z0 : (0 : Int) < (x.s.pn : Int) := by omega
        cases sm
        · go_wp2_with fail
          go_rounds 1
          go_roundw
          case rel => exact ⟨j + 1, by omega, by go_num, by rw [hS.out], X3.out, HJ.out⟩
          case measure => simp [intOf]; omega
        · go_wp2_with fail
          go_rounds 1
          go_roundw
          case rel => exact ⟨j + 1, by omega, by go_num, by rw [hS.out], X3.out, HJ.out⟩
          case measure => simp [intOf]; omega
    · have hjn : j = x.s.pn := by omega
      have HE : Hid (LvOk x.s.y x.h.z ↔ ((x.h.on = true ↔ 0 < cntD x.h.cH j) ∧ (x.h.on = true ∨ ¬ x.s.y.Marks))) := by
        have hu := (upTo_iff (y := x.s.y) (z := x.h.z) hp1 HF.out.1 HWN.out).1 (by rw [hjn] at HU; exact HU.out)
        have hcn : x.h.cn = j := by have := HF.out.2.1; omega
        constructor
        · intro h
          have := h.o
          have e : x.h.z.Drawn ↔ 0 < cntD x.h.cH j := by
            show 0 < cntD x.h.cH x.h.cn ↔ _
            rw [hcn]
          exact ⟨h.o.trans e, h.m⟩
        · intro h
          refine ⟨HO.out, HF.out.1, hu.1, hu.2, h.1.trans ?_, h.2⟩
          show _ ↔ 0 < cntD x.h.cH x.h.cn
          rw [hcn]
      clear HU HO HF hjn
      generalize hon : x.h.on = on at *
      obtain ⟨B1, p0, p1, p2, p3, p4, p5, p6, p7⟩ := HX.out
      have BB1 : Hid (Below w.heap.size w wr) := B1
      rw [hon] at p4
      clear B1
      by_cases hc : 0 < cntD x.h.cH j
      · rw [decide_eq_true hc]
        have hH : Hid (LvOk x.s.y x.h.z ↔ on = true) := by
          have h1 := HE.out
          simp only [hc] at h1
          refine h1.trans ⟨fun h => h.1.2 trivial, fun h => ⟨⟨fun _ => trivial, fun _ => h⟩, .inl h⟩⟩
        clear hc HE hon HX
        cases on
        · go_wp2
          go_ret
          exact ⟨ret_bool (pB_false (fun h => by cases hH.out.1 h)).symm, BB1.out⟩
        · go_wp2
          go_ret
          exact ⟨ret_bool (pB_true (hH.out.2 (by simp))).symm, BB1.out⟩
      · rw [decide_eq_false hc]
        have hH : Hid (LvOk x.s.y x.h.z ↔ (on = false ∧ ¬ x.s.y.Marks)) := by
          have h1 := HE.out
          simp only [hc, iff_false] at h1
          refine h1.trans ⟨fun h => ⟨by simpa using h.1, h.2.resolve_left h.1⟩, fun h => ⟨by rw [h.1]; simp, .inr h.2⟩⟩
        clear hc HE hon
        cases on
        · go_wp2_with fail
          clear p0 p1 p2 p3 p4 p5 p6 p7
          refine (l11Marks_any x.s wr (HG.out.s.below HX.out.1) HL.out.s).mono ?_
          rintro e w7 ⟨rfl, b7⟩
          have BB : Hid (Below w.heap.size w w7) := HX.out.1.trans (b7.mono HX.out.1.size)
          clear b7 HX
          by_cases hm : x.s.y.Marks
          · rw [pB_true hm]
            have HN : Hid (¬ LvOk x.s.y x.h.z) := fun h => (hH.out.1 h).2 hm
            clear hm hH
            go_wp2
            go_ret
            exact ⟨ret_bool (pB_false HN.out).symm, BB.out⟩
          · rw [pB_false hm]
            have HN : Hid (LvOk x.s.y x.h.z) := hH.out.2 ⟨by simp, hm⟩
            clear hm hH
            go_wp2
            go_ret
            exact ⟨ret_bool (pB_true HN.out).symm, BB.out⟩
        · clear HX
          go_wp2
          go_ret
          exact ⟨ret_bool (pB_false (fun h => by cases (hH.out.1 h).1)).symm, BB1.out⟩

end Go.Proofs.YtdfhpimdgfemjaaGreatDoor
