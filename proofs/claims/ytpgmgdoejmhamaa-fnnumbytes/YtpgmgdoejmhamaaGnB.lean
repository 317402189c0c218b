/- The walk of the model's GetNum. -/
import Derived.Test.YtpgmgdoejmhamaaGnA
namespace Go.Proofs.Ytpgmgdoejmhamaa
open Go.RowKit Go.Deep

theorem or_step (v j : Nat) (d : Int) (hj : j < 5) (hv : v < 128 ^ j) : bits .or .i64 (v : Int) (wrap64 (d % 128 * 2 ^ (7 * j))) = ((v + (d % 128).toNat * 128 ^ j : Nat) : Int) := by
  have hm : (d % 128).toNat < 128 := by omega
  have e1 : (128 : Nat) ^ j = 2 ^ (7 * j) := by rw [Nat.pow_mul]
  have e2 : d % 128 * 2 ^ (7 * j) = (((d % 128).toNat * 2 ^ (7 * j) : Nat) : Int) := by
    rw [Int.natCast_mul, Int.natCast_pow]
    congr 1
    omega
  have hp : (2 : Nat) ^ (7 * j) ≤ 2 ^ 28 := Nat.pow_le_pow_right (by omega) (by omega)
  have hq : (d % 128).toNat * 2 ^ (7 * j) ≤ 127 * 2 ^ 28 := Nat.mul_le_mul (by omega) hp
  rw [e1] at hv ⊢
  rw [e2]
  generalize hP : (d % 128).toNat * 2 ^ (7 * j) = p at hq
  have hw : wrap64 ((p : Nat) : Int) = ((p : Nat) : Int) := by
    unfold wrap64
    omega
  rw [hw, ← hP]
  refine i64_orN v _ (7 * j) hv ?_
  omega

theorem gn_no {ys : List Int} {a : Nat} (h : a < ys.length) (hf : frm 5 (ys.drop a) = none) : gnO ys (a : Int) = none := by
  rw [gnO, if_pos ⟨by omega, by omega⟩]
  show (match frm 5 (ys.drop a) with | none => none | some F => _) = none
  rw [hf]
theorem gn_yes {ys F : List Int} {a : Nat} (h : a < ys.length) (hf : frm 5 (ys.drop a) = some F) : gnO ys (a : Int) = if puB (unf (val F)) = true ∧ okF F = true then some (unf (val F), (a : Int) + F.length) else none := by
  rw [gnO, if_pos ⟨by omega, by omega⟩]
  show (match frm 5 (ys.drop a) with | none => none | some F => _) = _
  rw [hf]
theorem puL_nil (x : Int) (h : puB x = false) : puL x = [] := by rw [puL, if_neg (by rw [h]; decide)]
theorem puL_pos (x : Int) (h : puB x = true) : 0 < (puL x).length := by rw [puL, if_pos h]; exact fm_pos 4 _
/-- Of a byte below 128 behind j greater ones: the form, its number, whether it is the shortest. -/
theorem gn_hit {ys : List Int} {a j v : Nat} {d : Int} (hj : j < 5) (hl : a + j < ys.length) (hv : v = val ((ys.drop a).take j)) (hi : ∀ i, i < j → 128 ≤ zi ys (a + i)) (hd : zi ys (a + j) = d) (d1 : d < 128) :
    v < 128 ^ j ∧ ((v + (d % 128).toNat * 128 ^ j : Nat)) < 34359738368 ∧ gnO ys (a : Int) = if puB (unf (v + (d % 128).toNat * 128 ^ j)) = true ∧ ¬ (d = 0 ∧ 0 < j) then some (unf (v + (d % 128).toNat * 128 ^ j), (a : Int) + j + 1) else none := by
  have hL : j < (ys.drop a).length := by rw [List.length_drop]; omega
  have hF := frm_hit (ys.drop a) j hj hL (fun i h => by rw [zi_drop]; exact hi i h) (by rw [zi_drop, hd]; exact d1)
  have hl1 : ((ys.drop a).take (j + 1)).length = j + 1 := by rw [List.length_take]; omega
  have hvv := val_take j (ys.drop a) hL
  rw [zi_drop, hd, ← hv] at hvv
  have hlt := val_lt ((ys.drop a).take j)
  rw [← hv, List.length_take, Nat.min_eq_left (by omega)] at hlt
  have hlt2 := val_lt ((ys.drop a).take (j + 1))
  rw [hl1, hvv] at hlt2
  have hp : (128 : Nat) ^ (j + 1) ≤ 128 ^ 5 := Nat.pow_le_pow_right (by omega) (by omega)
  refine ⟨hlt, by omega, ?_⟩
  rw [gn_yes (by omega) hF, hvv, hl1]
  have hk : (okF ((ys.drop a).take (j + 1)) = true) ↔ ¬ (d = 0 ∧ 0 < j) := by
    unfold okF
    rw [decide_eq_true_iff, hl1, Nat.add_sub_cancel, zi_take _ _ _ (by omega), zi_drop, hd]
    omega
  simp only [hk]
  split <;> simp <;> omega

set_option maxRecDepth 100000 in
set_option maxHeartbeats 2000000 in
theorem specGetNum_any (a0 : Option Addr) (cap : Nat) (ys : List Int) (z : Int) (w : World) (hlen : ys.length ≤ 1048576) (hc : SlB w a0 ys) (hb : By ys) :
    Calls Try.prog 13 #[.slice a0 ys.length cap, .int .i64 z] w fun e w' => e = .returned (gnV (gnO ys z)) ∧ Below w.heap.size w w' := by
  have hl' : (ys.length : Int) ≤ 1048576 := by omega
  by_cases hz : 0 ≤ z ∧ z < ys.length
  · obtain ⟨z0, z1⟩ := hz
    obtain ⟨a, rfl⟩ := Int.eq_ofNat_of_zero_le z0
    have ha : a < ys.length := by omega
    have hna : ¬ ((ys.length : Int) ≤ (a : Int)) := by omega
    obtain ⟨b, off, rfl, hbl, -⟩ := hc.at (k := a) (by omega)
    have HC : Hid (SlB w (some ⟨b, off, none⟩) ys) := hc
    have HB : Hid (By ys) := hb
    clear hc hb
    go_enter Try.func13, Try.ntmps13
    go_wp2_with fail
    go_loopw [7, 8] (fun n k wr => ∃ j v : Nat, k = .int .i64 (j : Int) ∧ n = .int .i64 (v : Int) ∧ j ≤ 5 ∧ a + j ≤ ys.length ∧ wr = w ∧ Hid (v = val ((ys.drop a).take j) ∧ ∀ i, i < j → 128 ≤ zi ys (a + i))) (fun _ k _ => 5 - (intOf k).toNat)
    case atStart => exact ⟨0, 0, rfl, rfl, by omega, by omega, rfl, rfl, fun i hi => by omega⟩
    case round =>
      obtain ⟨j, v, rfl, rfl, hj, hjl, rfl, HI⟩ := hrel
      by_cases h5 : j < 5
      · have h5' : (j : Int) < 5 := by omega
        by_cases hl : a + j < ys.length
        · have hl2 : (a : Int) + (j : Int) < (ys.length : Int) := by omega
          obtain ⟨b', off', e, -, ck⟩ := HC.out.at (k := a + j) hl
          cases e
          obtain ⟨d0, d1⟩ := HB.out (a + j) hl
          generalize hzd : zi ys (a + j) = d at ck d0 d1
          have HD : Hid (zi ys (a + j) = d) := hzd
          clear hzd
          by_cases hd : 128 ≤ d
          · go_wp2
            go_roundw
            case rel =>
              have hL : j < (ys.drop a).length := by rw [List.length_drop]; omega
              have hvv := val_take j (ys.drop a) hL
              rw [zi_drop, HD.out, ← HI.out.1] at hvv
              have hlt := val_lt ((ys.drop a).take j)
              rw [← HI.out.1, List.length_take, Nat.min_eq_left (by omega)] at hlt
              refine ⟨j + 1, v + (d % 128).toNat * 128 ^ j, by go_num, by rw [or_step v j d h5 hlt], by omega, by omega, trivial, hvv.symm, fun i hi => ?_⟩
              by_cases e : i = j
              · subst e; rw [HD.out]; exact hd
              · exact HI.out.2 i (by omega)
            case measure => simp [intOf]; omega
          · have hd' : d < 128 := by omega
            obtain ⟨hlt, hN, hG⟩ := gn_hit h5 hl HI.out.1 HI.out.2 HD.out hd'
            by_cases hsp : d = 0 ∧ j = 0
            · obtain ⟨rfl, rfl⟩ := hsp
              have hv0 : v = 0 := by simpa using hlt
              subst hv0
              have HV : Hid (gnO ys (a : Int) = some (0, (a : Int) + 1)) := by
                show gnO ys (a : Int) = some (0, (a : Int) + 1)
                rw [hG, if_pos ⟨by decide, by omega⟩]
                simp [unf]
              clear hG hlt hN HI HD hj
              have ck' : wr.cell? ⟨b, off + a, none⟩ = some (.int .u8 0) := ck
              have hor0 : bits .or .i64 0 0 = 0 := by decide
              go_wp2_with fail
              refine (specPutNum_any 0 wr).mono ?_
              rintro e w1 ⟨u1, rfl, o1, b1⟩
              obtain ⟨ap, cp, rfl, -⟩ := o1.form
              clear o1
              have hpl : (puL 0).length = 1 := by decide
              rw [hpl]
              go_wp2
              exact bodyPost_ret (v := .tuple #[.int .i64 0, .int .i64 ((a : Int) + 1), .bool true]) (by simp [results, Try.results13, go_sem]) rfl ⟨by rw [HV.out]; rfl, b1⟩
            have hor := or_step v j d h5 hlt
            generalize hNN : v + (d % 128).toNat * 128 ^ j = N at hN hG hor
            clear hNN hlt HI HD hj
            have HG : Hid (gnO ys (a : Int) = if puB (unf N) = true ∧ ¬ (d = 0 ∧ 0 < j) then some (unf N, (a : Int) + j + 1) else none) := hG
            clear hG
            have hNi : (N : Int) < 34359738368 := by omega
            by_cases ho : N % 2 = 1
            · have hob : ((N : Int) % 2 == 1) = true := by simp; omega
              by_cases hq : d = 0 ∧ 0 < j
              · have HV : Hid (gnO ys (a : Int) = none) := by show gnO ys (a : Int) = none; rw [HG.out, if_neg (fun h => h.2 hq)]
                obtain ⟨q0, q1⟩ := hq
                have qb : (d == 0) = true := by simp [q0]
                have q2 : (0 : Int) < (j : Int) := by omega
                clear q0
                go_wp2
                exact bodyPost_ret (v := .tuple #[.int .i64 0, .int .i64 0, .bool false]) (by simp [results, Try.results13, go_sem]) rfl ⟨by rw [HV.out]; rfl, Below.refl _ _⟩
              · have hu : unf N = -((N : Int) / 2) - 1 := by unfold unf; split <;> omega
                rw [hu] at HG
                clear hu
                have qb : (d == 0) = false := by simp; omega
                have HQ : Hid (¬ (d = 0 ∧ 0 < j)) := hq
                clear hq hsp
                go_wp2_with fail
                refine (specPutNum_any (-((N : Int) / 2) - 1) wr).mono ?_
                rintro e w1 ⟨u1, rfl, o1, b1⟩
                obtain ⟨ap, cp, rfl, -⟩ := o1.form
                clear o1
                have hpl := puL_len (-((N : Int) / 2) - 1)
                cases hpb : puB (-((N : Int) / 2) - 1) with
                | false =>
                  have hpn : ((puL (-((N : Int) / 2) - 1)).length : Int) = 0 := by rw [puL_nil _ hpb]; rfl
                  have HV : Hid (gnO ys (a : Int) = none) := by show gnO ys (a : Int) = none; rw [HG.out, if_neg (fun h => by rw [hpb] at h; cases h.1)]
                  generalize (puL (-((N : Int) / 2) - 1)).length = m at *
                  have hm : ((m : Int) == 0) = true := by simp; omega
                  go_wp2
                  exact bodyPost_ret (v := .tuple #[.int .i64 0, .int .i64 0, .bool false]) (by simp [results, Try.results13, go_sem]) rfl ⟨by rw [HV.out]; rfl, b1⟩
                | true =>
                  have hpn := puL_pos _ hpb
                  have HV : Hid (gnO ys (a : Int) = some (-((N : Int) / 2) - 1, (a : Int) + j + 1)) := by show gnO ys (a : Int) = some (-((N : Int) / 2) - 1, (a : Int) + j + 1); rw [HG.out, if_pos ⟨hpb, HQ.out⟩]
                  generalize (puL (-((N : Int) / 2) - 1)).length = m at *
                  have hm : ((m : Int) == 0) = false := by simp; omega
                  go_wp2
                  exact bodyPost_ret (v := .tuple #[.int .i64 (-((N : Int) / 2) - 1), .int .i64 ((a : Int) + j + 1), .bool true]) (by simp [results, Try.results13, go_sem]) rfl ⟨by rw [HV.out]; rfl, b1⟩
            · have hob : ((N : Int) % 2 == 1) = false := by simp; omega
              by_cases hq : d = 0 ∧ 0 < j
              · have HV : Hid (gnO ys (a : Int) = none) := by show gnO ys (a : Int) = none; rw [HG.out, if_neg (fun h => h.2 hq)]
                obtain ⟨q0, q1⟩ := hq
                have qb : (d == 0) = true := by simp [q0]
                have q2 : (0 : Int) < (j : Int) := by omega
                clear q0
                go_wp2
                exact bodyPost_ret (v := .tuple #[.int .i64 0, .int .i64 0, .bool false]) (by simp [results, Try.results13, go_sem]) rfl ⟨by rw [HV.out]; rfl, Below.refl _ _⟩
              · have hu : unf N = (N : Int) / 2 := by unfold unf; split <;> omega
                rw [hu] at HG
                clear hu
                have qb : (d == 0) = false := by simp; omega
                have HQ : Hid (¬ (d = 0 ∧ 0 < j)) := hq
                clear hq hsp
                go_wp2_with fail
                refine (specPutNum_any ((N : Int) / 2) wr).mono ?_
                rintro e w1 ⟨u1, rfl, o1, b1⟩
                obtain ⟨ap, cp, rfl, -⟩ := o1.form
                clear o1
                have hpl := puL_len ((N : Int) / 2)
                cases hpb : puB ((N : Int) / 2) with
                | false =>
                  have hpn : ((puL ((N : Int) / 2)).length : Int) = 0 := by rw [puL_nil _ hpb]; rfl
                  have HV : Hid (gnO ys (a : Int) = none) := by show gnO ys (a : Int) = none; rw [HG.out, if_neg (fun h => by rw [hpb] at h; cases h.1)]
                  generalize (puL ((N : Int) / 2)).length = m at *
                  have hm : ((m : Int) == 0) = true := by simp; omega
                  go_wp2
                  exact bodyPost_ret (v := .tuple #[.int .i64 0, .int .i64 0, .bool false]) (by simp [results, Try.results13, go_sem]) rfl ⟨by rw [HV.out]; rfl, b1⟩
                | true =>
                  have hpn := puL_pos _ hpb
                  have HV : Hid (gnO ys (a : Int) = some ((N : Int) / 2, (a : Int) + j + 1)) := by show gnO ys (a : Int) = some ((N : Int) / 2, (a : Int) + j + 1); rw [HG.out, if_pos ⟨hpb, HQ.out⟩]
                  generalize (puL ((N : Int) / 2)).length = m at *
                  have hm : ((m : Int) == 0) = false := by simp; omega
                  go_wp2
                  exact bodyPost_ret (v := .tuple #[.int .i64 ((N : Int) / 2), .int .i64 ((a : Int) + j + 1), .bool true]) (by simp [results, Try.results13, go_sem]) rfl ⟨by rw [HV.out]; rfl, b1⟩
        · have HV : Hid (gnO ys (a : Int) = none) := gn_no ha (frm_no _ j hj (by rw [List.length_drop]; omega) (fun i h => by rw [zi_drop]; exact HI.out.2 i h) (.inr (by rw [List.length_drop]; omega)))
          have hl2 : ¬ ((a : Int) + (j : Int) < (ys.length : Int)) := by omega
          clear HI
          go_wp2
          exact bodyPost_ret (v := .tuple #[.int .i64 0, .int .i64 0, .bool false]) (by simp [results, Try.results13, go_sem]) rfl ⟨by rw [HV.out]; rfl, Below.refl _ _⟩
      · have HV : Hid (gnO ys (a : Int) = none) := gn_no ha (frm_no _ j hj (by rw [List.length_drop]; omega) (fun i h => by rw [zi_drop]; exact HI.out.2 i h) (.inl (by omega)))
        have h5' : ¬ ((j : Int) < 5) := by omega
        clear HI
        go_wp2
        exact bodyPost_ret (v := .tuple #[.int .i64 0, .int .i64 0, .bool false]) (by simp [results, Try.results13, go_sem]) rfl ⟨by rw [HV.out]; rfl, Below.refl _ _⟩
  · have HV : Hid (gnO ys z = none) := by show gnO ys z = none; rw [gnO, if_neg hz]
    clear hc hb
    by_cases z0 : z < 0
    · clear hz
      go_enter Try.func13, Try.ntmps13
      go_wp2
      exact bodyPost_ret (v := .tuple #[.int .i64 0, .int .i64 0, .bool false]) (by simp [results, Try.results13, go_sem]) rfl ⟨by rw [HV.out]; rfl, Below.refl _ _⟩
    · have z1 : (ys.length : Int) ≤ z := by omega
      clear hz
      go_enter Try.func13, Try.ntmps13
      go_wp2
      exact bodyPost_ret (v := .tuple #[.int .i64 0, .int .i64 0, .bool false]) (by simp [results, Try.results13, go_sem]) rfl ⟨by rw [HV.out]; rfl, Below.refl _ _⟩

end Go.Proofs.Ytpgmgdoejmhamaa
