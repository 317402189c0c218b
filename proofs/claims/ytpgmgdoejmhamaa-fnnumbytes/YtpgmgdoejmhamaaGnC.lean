/- The walks of the program's GetNum: the form from a place on, its number, and what is written again. -/
import Derived.Test.YtpgmgdoejmhamaaGnB
import Derived.Laws.BytesArg
namespace Go.Proofs.Ytpgmgdoejmhamaa
open Go.RowKit Go.Deep

theorem conv_bytes {w : World} {a0 : Option Addr} {xs : List Int} (h : SlB w a0 xs) (cap : Nat) : (convert 22 9 (.slice a0 xs.length cap)).run Try.prog w = .ok (.string (strOfNums xs)) w := by
  cases a0 with
  | none =>
    have hx : xs = [] := by
      rcases h with h | ⟨b, off, e, -⟩
      · exact h
      · cases e
    subst hx
    exact run_convert_bytes_nil w _ 5 Try.underlying22 Try.underlying5 _ _ _ Try.underlying9
  | some a =>
    rcases h with rfl | ⟨b, off, e, -, hc⟩
    · rw [run_convert_bytes_string w _ _ 5 _ _ _ Try.underlying22 Try.underlying5 Try.underlying9]
      have hl : (loadCells a ([] : List Int).length).run Try.prog w = .ok (([] : List Int).map (Value.int .u8)).toArray w := run_loadCells_list (P := Try.prog) w a [] (fun j v hj => by simp at hj)
      rw [run_bytesToString w _ _ cap [] hl]
      rfl
    · cases e
      exact run_convert_bytes_arg w _ 5 Try.underlying22 Try.underlying5 b off xs.length cap xs rfl hc _ Try.underlying9

theorem u8_inj {a b : Int} (a0 : 0 ≤ a) (a1 : a ≤ 255) (b0 : 0 ≤ b) (b1 : b ≤ 255) (h : UInt8.ofNat a.toNat = UInt8.ofNat b.toNat) : a = b := by
  have := congrArg UInt8.toNat h
  rw [UInt8.toNat_ofNat', UInt8.toNat_ofNat'] at this
  omega
theorem strOf_inj : ∀ {xs ys : List Int}, By xs → By ys → (xs.map fun n => UInt8.ofNat n.toNat) = (ys.map fun n => UInt8.ofNat n.toNat) → xs = ys
  | [], [], _, _, _ => rfl
  | [], _ :: _, _, _, h => by simp at h
  | _ :: _, [], _, _, h => by simp at h
  | a :: xs, b :: ys, hx, hy, h => by
    simp only [List.map_cons, List.cons.injEq] at h
    have h1 := hx 0 (by simp)
    have h2 := hy 0 (by simp)
    rw [zi_zero] at h1 h2
    rw [u8_inj h1.1 h1.2 h2.1 h2.2 h.1, strOf_inj (fun i hi => by have := hx (i + 1) (by simp; omega); rwa [zi_cons] at this) (fun i hi => by have := hy (i + 1) (by simp; omega); rwa [zi_cons] at this) h.2]
theorem strOf_eq {xs ys : List Int} (hx : By xs) (hy : By ys) : strOfNums xs = strOfNums ys ↔ xs = ys := by
  constructor
  · intro h
    refine strOf_inj hx hy ?_
    rw [← strOfNums_data, ← strOfNums_data, h]
  · rintro rfl
    rfl
theorem fm_by : ∀ (k n : Nat), n < 128 ^ (k + 1) → By (fmN k n)
  | 0, n, h => fun i hi => by
    simp [fmN] at hi h
    subst hi
    simp [fmN, zi]
    omega
  | k + 1, n, h => fun i hi => by
    rw [fmN] at hi ⊢
    split
    · rename_i hn
      rw [if_pos hn] at hi
      simp at hi
      subst hi
      rw [zi_zero]
      omega
    · rename_i hn
      rw [if_neg hn] at hi
      cases i with
      | zero => rw [zi_zero]; omega
      | succ i =>
        rw [zi_cons]
        refine fm_by k (n / 128) ?_ i (by simp at hi; omega)
        rw [Nat.pow_succ] at h
        exact Nat.div_lt_of_lt_mul (by rw [Nat.mul_comm]; exact h)
theorem puL_by (x : Int) : By (puL x) := by
  unfold puL
  split
  · rename_i h
    exact fm_by 4 _ (by have := fd_le x h; omega)
  · intro i hi
    simp at hi

theorem beq_str {a b : ByteArray} {p : Prop} [Decidable p] (h : a = b ↔ p) : (a.toList == b.toList) = decide p := by
  by_cases e : a = b
  · subst e
    rw [decide_eq_true (h.1 rfl)]
    simp
  · rw [decide_eq_false (fun hp => e (h.2 hp)), ByteArray.toList_eq, ByteArray.toList_eq]
    refine beq_eq_false_iff_ne.2 (fun hd => e ?_)
    obtain ⟨⟨l⟩⟩ := a
    obtain ⟨⟨m⟩⟩ := b
    simp only at hd
    rw [hd]

set_option maxRecDepth 100000 in
set_option maxHeartbeats 400000 in
theorem bytesEqual_any (a0 a1 : Option Addr) (c0 c1 : Nat) (xs ys : List Int) (w : World) (h0 : SlB w a0 xs) (h1 : SlB w a1 ys) (hx : By xs) (hy : By ys) :
    Calls Try.prog 25 #[.slice a0 xs.length c0, .slice a1 ys.length c1] w fun e w' => e = .returned (.bool (decide (xs = ys))) ∧ w' = w := by
  have e0 := conv_bytes h0 c0
  have e1 := conv_bytes h1 c1
  have HE : Hid (strOfNums xs = strOfNums ys ↔ xs = ys) := strOf_eq hx hy
  clear h0 h1 hx hy
  go_enter Try.func25, Try.ntmps25
  go_wp2
  go_ret
  refine ⟨?_, rfl⟩
  show Ending.returned (.bool ((strOfNums xs).toList == (strOfNums ys).toList)) = _
  rw [beq_str HE.out]

set_option maxHeartbeats 400000 in
theorem unfolded_any (n : Nat) (w : World) (h : n < 34359738368) :
    Calls Try.prog 24 #[.int .i64 (n : Int)] w fun e w' => e = .returned (.int .i64 (unf n)) ∧ w' = w := by
  have h' : (n : Int) < 34359738368 := by omega
  by_cases ho : n % 2 = 1
  · have hob : ((n : Int) % 2 == 1) = true := by simp; omega
    go_enter Try.func24, Try.ntmps24
    go_wp2
    go_ret
    refine ⟨ret_int ?_, rfl⟩
    rw [unf, if_pos ho, Int.tdiv_eq_ediv_of_nonneg (by omega)]
    unfold wrap64
    omega
  · have hob : ((n : Int) % 2 == 1) = false := by simp; omega
    go_enter Try.func24, Try.ntmps24
    go_wp2
    go_ret
    exact ⟨ret_int (by unfold unf; rw [if_neg ho]; omega), rfl⟩

/-- The form that the bytes begin with from a place on. -/
def foO (ys : List Int) (z : Int) : Option (List Int) := if 0 ≤ z ∧ z < ys.length then frm 5 (ys.drop z.toNat) else none
def FoR (w : World) (ys : List Int) (z : Int) (e : Ending) : Prop :=
  match foO ys z with
  | none => e = .returned (.tuple #[.slice none 0 0, .bool false])
  | some F => ∃ a1 c1, e = .returned (.tuple #[.slice a1 F.length c1, .bool true]) ∧ SlB w a1 F

set_option maxRecDepth 100000 in
set_option maxHeartbeats 1000000 in
theorem formAt_any (a0 : Option Addr) (cap : Nat) (ys : List Int) (z : Int) (w : World) (hlen : ys.length ≤ 1048576) (hcap : ys.length ≤ cap) (hc : SlB w a0 ys) (hb : By ys) :
    Calls Try.prog 23 #[.slice a0 ys.length cap, .int .i64 z] w fun e w' => FoR w ys z e ∧ w' = w := by
  have hl' : (ys.length : Int) ≤ 1048576 := by omega
  by_cases hz : 0 ≤ z ∧ z < ys.length
  · obtain ⟨z0, z1⟩ := hz
    obtain ⟨a, rfl⟩ := Int.eq_ofNat_of_zero_le z0
    have ha : a < ys.length := by omega
    have HF : Hid (foO ys (a : Int) = frm 5 (ys.drop a)) := by show foO ys (a : Int) = _; rw [foO, if_pos ⟨z0, z1⟩]; rfl
    have hbe : belB (a : Int) (ys.length : Int) = true := decide_eq_true ⟨z0, z1⟩
    obtain ⟨b, off, rfl, hbl, -⟩ := hc.at (k := a) (by omega)
    have HC : Hid (SlB w (some ⟨b, off, none⟩) ys) := hc
    have HB : Hid (By ys) := hb
    have hcc : (ys.length : Int) ≤ (cap : Int) := by omega
    clear hc hb
    go_enter Try.func23, Try.ntmps23
    go_wp2_with fail
    refine (isBelow_any (a : Int) (ys.length : Int) w).mono ?_
    rintro e w1 ⟨rfl, e1⟩
    obtain rfl := e1.symm
    rw [hbe]
    clear hbe
    go_wp2_with fail
    all_goals
      obtain ⟨n, hn⟩ : ∃ n, ys.length = a + n := ⟨ys.length - a, by omega⟩
      have en : ys.length - a = n := by omega
      rename_i hle
      simp only [en] at hle ⊢
      clear en
    · go_loopw [19] (fun q wr => ∃ j : Nat, q = .int .i64 (j : Int) ∧ j ≤ 5 ∧ wr = w ∧ Hid (∀ i, i < j → 128 ≤ zi ys (a + i))) (fun q _ => 5 - (intOf q).toNat)
      case atStart => exact ⟨0, rfl, by omega, rfl, fun i hi => by omega⟩
      case round =>
        obtain ⟨j, rfl, hj, rfl, HI⟩ := hrel
        by_cases hjM : j < 5
        · have hjM' : (j : Int) < 5 := by omega
          have hjn : (j : Int) < (n : Int) := by omega
          obtain ⟨b', off', e, -, ck⟩ := HC.out.at (k := a + j) (by omega)
          cases e
          rw [← Nat.add_assoc] at ck
          obtain ⟨d0, d1⟩ := HB.out (a + j) (by omega)
          generalize hzd : zi ys (a + j) = d at ck d0 d1
          have HD : Hid (zi ys (a + j) = d) := hzd
          clear hzd
          by_cases hd : d < 128
          · have HV : Hid (foO ys (a : Int) = some ((ys.drop a).take (j + 1))) := by
              show foO ys (a : Int) = _
              rw [HF.out]
              exact frm_hit (ys.drop a) j (by omega) (by rw [List.length_drop]; omega) (fun i h => by rw [zi_drop]; exact HI.out i h) (by rw [zi_drop, HD.out]; exact hd)
            have hjc : (j : Int) + 1 ≤ ((cap - a : Nat) : Int) := by omega
            clear HI hjM'
            go_wp2
            refine bodyPost_ret (v := .tuple #[.slice (some ⟨b, off + a, none⟩) (j + 1) (cap - a), .bool true]) (by simp [results, Try.results23, go_sem]) rfl ⟨?_, rfl⟩
            unfold FoR
            rw [HV.out]
            have hl1 : ((ys.drop a).take (j + 1)).length = j + 1 := by rw [List.length_take, List.length_drop]; omega
            refine ⟨_, _, by rw [hl1], .inr ⟨b, off + a, rfl, hbl, fun i hi => ?_⟩⟩
            rw [hl1] at hi
            rw [zi_take _ _ _ hi, zi_drop, Nat.add_assoc]
            obtain ⟨b', off', e, -, ck⟩ := HC.out.at (k := a + i) (by omega)
            cases e
            exact ck
          · go_wp2
            go_roundw
            case rel =>
              refine ⟨j + 1, by go_num, by omega, trivial, fun i hi => ?_⟩
              by_cases e : i = j
              · subst e; rw [HD.out]; omega
              · exact HI.out i (by omega)
            case measure => simp [intOf]; omega
        · have HV : Hid (foO ys (a : Int) = none) := by
            show foO ys (a : Int) = none
            rw [HF.out]
            exact frm_no _ j (by omega) (by rw [List.length_drop]; omega) (fun i h => by rw [zi_drop]; exact HI.out i h) (.inl (by omega))
          have hjM' : ¬ ((j : Int) < 5) := by omega
          clear HI
          go_wp2
          refine bodyPost_ret (v := .tuple #[.slice none 0 0, .bool false]) (by simp [results, Try.results23, go_sem]) rfl ⟨?_, rfl⟩
          unfold FoR
          rw [HV.out]
    · go_loopw [19] (fun q wr => ∃ j : Nat, q = .int .i64 (j : Int) ∧ j ≤ n ∧ wr = w ∧ Hid (∀ i, i < j → 128 ≤ zi ys (a + i))) (fun q _ => n - (intOf q).toNat)
      case atStart => exact ⟨0, rfl, by omega, rfl, fun i hi => by omega⟩
      case round =>
        obtain ⟨j, rfl, hj, rfl, HI⟩ := hrel
        by_cases hjM : j < n
        · have hjM' : (j : Int) < (n : Int) := by omega
          have hjn : (j : Int) < (n : Int) := by omega
          obtain ⟨b', off', e, -, ck⟩ := HC.out.at (k := a + j) (by omega)
          cases e
          rw [← Nat.add_assoc] at ck
          obtain ⟨d0, d1⟩ := HB.out (a + j) (by omega)
          generalize hzd : zi ys (a + j) = d at ck d0 d1
          have HD : Hid (zi ys (a + j) = d) := hzd
          clear hzd
          by_cases hd : d < 128
          · have HV : Hid (foO ys (a : Int) = some ((ys.drop a).take (j + 1))) := by
              show foO ys (a : Int) = _
              rw [HF.out]
              exact frm_hit (ys.drop a) j (by omega) (by rw [List.length_drop]; omega) (fun i h => by rw [zi_drop]; exact HI.out i h) (by rw [zi_drop, HD.out]; exact hd)
            have hjc : (j : Int) + 1 ≤ ((cap - a : Nat) : Int) := by omega
            clear HI hjM'
            go_wp2
            refine bodyPost_ret (v := .tuple #[.slice (some ⟨b, off + a, none⟩) (j + 1) (cap - a), .bool true]) (by simp [results, Try.results23, go_sem]) rfl ⟨?_, rfl⟩
            unfold FoR
            rw [HV.out]
            have hl1 : ((ys.drop a).take (j + 1)).length = j + 1 := by rw [List.length_take, List.length_drop]; omega
            refine ⟨_, _, by rw [hl1], .inr ⟨b, off + a, rfl, hbl, fun i hi => ?_⟩⟩
            rw [hl1] at hi
            rw [zi_take _ _ _ hi, zi_drop, Nat.add_assoc]
            obtain ⟨b', off', e, -, ck⟩ := HC.out.at (k := a + i) (by omega)
            cases e
            exact ck
          · go_wp2
            go_roundw
            case rel =>
              refine ⟨j + 1, by go_num, by omega, trivial, fun i hi => ?_⟩
              by_cases e : i = j
              · subst e; rw [HD.out]; omega
              · exact HI.out i (by omega)
            case measure => simp [intOf]; omega
        · have HV : Hid (foO ys (a : Int) = none) := by
            show foO ys (a : Int) = none
            rw [HF.out]
            exact frm_no _ j (by omega) (by rw [List.length_drop]; omega) (fun i h => by rw [zi_drop]; exact HI.out i h) (.inr (by rw [List.length_drop]; omega))
          have hjM' : ¬ ((j : Int) < (n : Int)) := by omega
          clear HI
          go_wp2
          refine bodyPost_ret (v := .tuple #[.slice none 0 0, .bool false]) (by simp [results, Try.results23, go_sem]) rfl ⟨?_, rfl⟩
          unfold FoR
          rw [HV.out]
  · have HV : Hid (foO ys z = none) := by show foO ys z = none; rw [foO, if_neg hz]
    have hbe : belB z (ys.length : Int) = false := decide_eq_false hz
    clear hc hb hz
    go_enter Try.func23, Try.ntmps23
    go_wp2_with fail
    refine (isBelow_any z (ys.length : Int) w).mono ?_
    rintro e w1 ⟨rfl, e1⟩
    obtain rfl := e1.symm
    rw [hbe]
    clear hbe
    go_wp2
    refine bodyPost_ret (v := .tuple #[.slice none 0 0, .bool false]) (by simp [results, Try.results23, go_sem]) rfl ⟨?_, rfl⟩
    unfold FoR
    rw [HV.out]

theorem pow_le_five {j : Nat} (h : j ≤ 5) : (128 : Nat) ^ j ≤ 34359738368 := Nat.le_trans (Nat.pow_le_pow_right (by omega) h) (by decide)
theorem gn_fo (ys : List Int) (z : Int) : gnO ys z = match foO ys z with | none => none | some F => if puB (unf (val F)) = true ∧ okF F = true then some (unf (val F), z + F.length) else none := by
  unfold gnO foO
  split
  · rfl
  · rfl
theorem fo_is {ys F : List Int} {z : Int} (hb : By ys) (h : foO ys z = some F) : isF F ∧ F.length ≤ 5 ∧ 1 ≤ F.length ∧ By F ∧ 0 ≤ z ∧ z + F.length ≤ ys.length := by
  unfold foO at h
  split at h
  · rename_i hz
    generalize ha : z.toNat = a at h
    have hbd : By (ys.drop a) := fun i hi => by rw [List.length_drop] at hi; rw [zi_drop]; exact hb _ (by omega)
    have key : ∀ k, k ≤ 5 → k ≤ (ys.drop a).length → (∀ j, j < k → 128 ≤ zi (ys.drop a) j) → ∃ m, m < 5 ∧ m < (ys.drop a).length ∧ (∀ j, j < m → 128 ≤ zi (ys.drop a) j) ∧ zi (ys.drop a) m < 128 := by
      intro k hk
      obtain ⟨q, hq⟩ : ∃ q, q = 5 - k := ⟨_, rfl⟩
      induction q generalizing k with
      | zero =>
        intro h1 h2
        rw [frm_no _ k hk h1 h2 (.inl (by omega))] at h
        cases h
      | succ q ih =>
        intro h1 h2
        by_cases e : k = (ys.drop a).length
        · rw [frm_no _ k hk h1 h2 (.inr e)] at h
          cases h
        · by_cases hd : zi (ys.drop a) k < 128
          · exact ⟨k, by omega, by omega, h2, hd⟩
          · exact ih (k + 1) (by omega) (by omega) (by omega) (fun j hj => by
              by_cases e : j = k
              · subst e; omega
              · exact h2 j (by omega))
    obtain ⟨m, h5, hl, hm, hd⟩ := key 0 (by omega) (by omega) (fun j hj => by omega)
    rw [frm_hit _ m h5 hl hm hd] at h
    cases h
    have hl1 : ((ys.drop a).take (m + 1)).length = m + 1 := by rw [List.length_take]; omega
    refine ⟨isF_take m _ hl hbd hm hd, by omega, by omega, fun i hi => ?_, hz.1, ?_⟩
    · rw [hl1] at hi
      rw [zi_take _ _ _ hi]
      exact hbd i (by omega)
    · rw [hl1]
      rw [List.length_drop] at hl
      omega
  · cases h

set_option maxRecDepth 100000 in
set_option maxHeartbeats 2000000 in
theorem implGetNum_any (a0 : Option Addr) (cap : Nat) (ys : List Int) (z : Int) (w : World) (hlen : ys.length ≤ 1048576) (hcap : ys.length ≤ cap) (hc : SlB w a0 ys) (hb : By ys) :
    Calls Try.prog 10 #[.slice a0 ys.length cap, .int .i64 z] w fun e w' => e = .returned (gnV (gnO ys z)) ∧ Below w.heap.size w w' := by
  have HG : Hid (gnO ys z = match foO ys z with | none => none | some F => if puB (unf (val F)) = true ∧ okF F = true then some (unf (val F), z + F.length) else none) := gn_fo ys z
  have HC : Hid (SlB w a0 ys) := hc
  have HB : Hid (By ys) := hb
  have HL : Hid (ys.length ≤ 1048576 ∧ ys.length ≤ cap) := ⟨hlen, hcap⟩
  clear hc hb hlen hcap
  go_enter Try.func10, Try.ntmps10
  go_wp2_with fail
  refine (formAt_any a0 cap ys z w HL.out.1 HL.out.2 HC.out HB.out).mono ?_
  rintro e w1 ⟨hr, e1⟩
  obtain rfl := e1.symm
  unfold FoR at hr
  cases hf : foO ys z with
  | none =>
    rw [hf] at hr
    subst hr
    have HV : Hid (gnO ys z = none) := by show gnO ys z = none; rw [HG.out, hf]
    clear hf
    go_wp2
    exact bodyPost_ret (v := .tuple #[.int .i64 0, .int .i64 0, .bool false]) (by simp [results, Try.results10, go_sem]) rfl ⟨by rw [HV.out]; rfl, Below.refl _ _⟩
  | some F =>
    rw [hf] at hr
    obtain ⟨a1, c1, rfl, sl⟩ := hr
    obtain ⟨f1, f2, f3, f4, f5, f6⟩ := fo_is HB.out hf
    have hll := HL.out.1
    have HV : Hid (gnO ys z = if puB (unf (val F)) = true ∧ okF F = true then some (unf (val F), z + F.length) else none) := by show gnO ys z = _; rw [HG.out, hf]
    have HS : Hid (SlB w a1 F) := sl
    have HF : Hid (isF F ∧ By F) := ⟨f1, f4⟩
    have hFl : (F.length : Int) ≤ 5 := by omega
    have hFu : z + (F.length : Int) ≤ 1048576 := by omega
    have hFs : F.length ≤ 1048576 := by omega
    clear sl f1 f4 hf HG hll f6
    go_wp2_with fail
    go_loopw [9, 10, 24] (fun s q i wr => ∃ j v p : Nat, i = .int .i64 (j : Int) ∧ s = .int .i64 (v : Int) ∧ q = .int .i64 (p : Int) ∧ j ≤ F.length ∧ wr = w ∧ Hid (v = val (F.take j) ∧ p = 128 ^ j)) (fun _ _ i _ => F.length - (intOf i).toNat)
    case atStart => exact ⟨0, 0, 1, rfl, rfl, rfl, by omega, rfl, rfl, rfl⟩
    case round =>
      obtain ⟨j, v, p, rfl, rfl, rfl, hj, rfl, HI⟩ := hrel
      by_cases hjl : j < F.length
      · have hjl' : (j : Int) < (F.length : Int) := by omega
        obtain ⟨b, off, rfl, hbl, ck⟩ := HS.out.at hjl
        obtain ⟨d0, d1⟩ := HF.out.2 j hjl
        generalize hzd : zi F j = d at ck d0 d1
        have HD : Hid (zi F j = d) := hzd
        clear hzd
        have hp : p ≤ 34359738368 := by rw [HI.out.2]; exact pow_le_five (by omega)
        have hvl : v < 34359738368 := by
          have := val_lt (F.take j)
          rw [List.length_take, Nat.min_eq_left (by omega), ← HI.out.1] at this
          have := pow_le_five (j := j) (by omega)
          omega
        have hmn : (d % 128).toNat * p ≤ 127 * 34359738368 := Nat.mul_le_mul (by omega) hp
        have hmi : (d % 128) * (p : Int) = (((d % 128).toNat * p : Nat) : Int) := by
          rw [Int.natCast_mul]
          congr 1
          omega
        have hm0 : 0 ≤ (d % 128) * (p : Int) := by rw [hmi]; omega
        have hm1 : (d % 128) * (p : Int) ≤ 4363686772736 := by rw [hmi]; omega
        have HM : Hid ((d % 128) * (p : Int) = (((d % 128).toNat * p : Nat) : Int)) := hmi
        clear hmi hmn
        have hp' : (p : Int) ≤ 34359738368 := by omega
        have hv' : (v : Int) < 34359738368 := by omega
        go_wp2
        go_roundw
        case rel =>
          have hvv := val_take j F hjl
          rw [HD.out, ← HI.out.1, ← HI.out.2] at hvv
          refine ⟨j + 1, v + (d % 128).toNat * p, p * 128, by go_num, ?_, by go_num, by omega, trivial, hvv.symm, by rw [Nat.pow_succ, HI.out.2]⟩
          rw [HM.out]
          go_num
        case measure => simp [intOf]; omega
      · have hjl' : ¬ ((j : Int) < (F.length : Int)) := by omega
        have hvl : v < 34359738368 := by
          have := val_lt (F.take j)
          rw [List.length_take, Nat.min_eq_left (by omega), ← HI.out.1] at this
          have := pow_le_five (j := j) (by omega)
          omega
        have HW : Hid (v = val F) := by show v = val F; rw [HI.out.1, List.take_of_length_le (by omega)]
        clear HI
        go_wp2_with fail
        refine (unfolded_any v wr hvl).mono ?_
        rintro e w2 ⟨rfl, e2⟩
        obtain rfl := e2.symm
        go_wp2_with fail
        refine (implPutNum_any (unf v) wr).mono ?_
        rintro e w3 ⟨u3, rfl, o3, b3⟩
        obtain ⟨ap, cp, rfl, sp⟩ := o3.form
        have SP : Hid (SlB w3 ap (puL (unf v))) := sp
        have S3 : Hid (SlB w3 a1 F) := HS.out.below b3
        clear o3 sp
        go_wp2_with fail
        refine (bytesEqual_any ap a1 cp c1 (puL (unf v)) F w3 SP.out S3.out (puL_by _) HF.out.2).mono ?_
        rintro e w4 ⟨rfl, e4⟩
        obtain rfl := e4.symm
        have HP : Hid (puL (unf v) = F ↔ puB (unf (val F)) = true ∧ okF F = true) := by
          have := pu_form HF.out.1 f2
          rw [← HW.out] at this ⊢
          exact this
        by_cases hq : puL (unf v) = F
        · have hq2 : decide (puL (unf v) = F) = true := decide_eq_true hq
          have HV2 : Hid (gnO ys z = some (unf v, z + F.length)) := by show gnO ys z = _; rw [HV.out, if_pos (HP.out.1 hq), HW.out]
          rw [hq2]
          clear hq hq2 HV
          go_wp2
          exact bodyPost_ret (v := .tuple #[.int .i64 (unf v), .int .i64 (z + F.length), .bool true]) (by simp [results, Try.results10, go_sem]) rfl ⟨by rw [HV2.out]; rfl, b3⟩
        · have hq2 : decide (puL (unf v) = F) = false := decide_eq_false hq
          have HV2 : Hid (gnO ys z = none) := by show gnO ys z = _; rw [HV.out, if_neg (fun h => hq (HP.out.2 h))]
          rw [hq2]
          clear hq hq2 HV
          go_wp2
          exact bodyPost_ret (v := .tuple #[.int .i64 0, .int .i64 0, .bool false]) (by simp [results, Try.results10, go_sem]) rfl ⟨by rw [HV2.out]; rfl, b3⟩

end Go.Proofs.Ytpgmgdoejmhamaa
