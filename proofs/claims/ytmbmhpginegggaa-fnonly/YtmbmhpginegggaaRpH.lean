/- Where a place stands among its kind; the walk of the law on what is counted. -/
import Derived.Test.YtmbmhpginegggaaRpG
import Derived.Test.YtmbmhpginegggaaStO
import Derived.Lib.QuietBelow
namespace Go.Proofs.Ytmbmhpginegggaa
open Go.ChangeShapes Go.WideShapes Go.ChangeAt Go.RowKit Go.Deep Go.Sort

set_option maxRecDepth 100000 in
set_option maxHeartbeats 1000000 in
theorem sameInts_same (a0 a1 : Option Addr) (c0 c1 : Nat) (xs : List Int) (w : World) (hlen : xs.length ≤ 1048576) (h0 : Sl w a0 xs) (h1 : Sl w a1 xs) :
    Calls Try.prog 19 #[.slice a0 xs.length c0, .slice a1 xs.length c1] w fun e w' => e = .returned (.bool true) ∧ Below w.heap.size w w' := by
  have hl' : (xs.length : Int) ≤ 1048576 := by omega
  have H0 : Hid (Sl w a0 xs) := h0
  have H1 : Hid (Sl w a1 xs) := h1
  clear h0 h1
  go_enter Try.func19, Try.ntmps19
  go_wp2_with fail
  go_loopw [5] (fun i wr => ∃ k : Nat, k ≤ xs.length ∧ i = .int .i64 k ∧ Below w.heap.size w wr) (fun i _ => xs.length - (intOf i).toNat)
  case atStart => exact ⟨0, Nat.zero_le _, rfl, Below.refl _ _⟩
  case round =>
    obtain ⟨k, hk, rfl, hbw⟩ := hrel
    by_cases hlt : k < xs.length
    · obtain ⟨b, off, rfl, hbl, ck⟩ := (H0.out.below hbw).at hlt
      obtain ⟨b', off', rfl, hbl', ck'⟩ := (H1.out.below hbw).at hlt
      have hlt' : (k : Int) < (xs.length : Int) := by omega
      go_wp2_with fail
      go_quiet (fail)
      go_wp2
      go_roundw
      case rel => exact ⟨k + 1, by omega, by go_num, below_drewN hbw _⟩
      case measure => simp [intOf]; omega
    · go_wp2
      go_ret
      exact ⟨rfl, hbw⟩

set_option maxHeartbeats 400000 in
theorem big_any (a0 : Option Addr) (len cap : Nat) (w : World) :
    Calls Try.prog 7 #[.slice a0 len cap] w fun e w' => e = .returned (.bool (decide ((1048576 : Int) < len))) ∧ w' = w := by
  go_enter Try.func7, Try.ntmps7
  go_wp2
  go_ret
  exact ⟨rfl, rfl⟩

/-- Bytes that came in: as many as an int can count, each in memory that was there. -/
theorem open_bytes {H : Type} {enc : TypeId × Value → H} {w : World} {a0 : Option Addr} {len cap : Nat} {d : DataW H} {p : List MemPlace}
    (h : DataW.Trod enc Try.prog w 0 (fun _ => true) true 22 (.slice a0 len cap) d p) : len ≤ maxLen ∧ BytesAt w w.heap.size a0 len := by
  obtain ⟨fuel, hf⟩ := h
  rcases open_ints Try.underlying22 Try.underlying5 (by kernel_rfl) hf with ⟨hcs, _⟩ | ⟨x, l, c, zs, hcs, _, hl, hm, hz, _, hcell, hwz⟩
  · simp [Value.cells] at hcs
    obtain ⟨_, rfl, _⟩ := hcs
    exact ⟨Nat.zero_le _, .inl rfl⟩
  · simp [Value.cells] at hcs
    obtain ⟨rfl, rfl, rfl⟩ := hcs
    refine ⟨Nat.le_trans hl hm, ?_⟩
    by_cases h0 : len = 0
    · exact .inl h0
    right
    have hz' : zs.length = cap := by simpa using hz
    obtain ⟨b, off, rfl, hc⟩ := ints_at hcell (by omega)
    refine ⟨b, off, rfl, cell_lt (hc 0 (by omega)), fun j hj => ⟨zs.getD j 0, hc j (by omega), ?_⟩⟩
    have hmem : zs.getD j 0 ∈ zs := by
      rw [List.getD_eq_getElem?_getD, List.getElem?_eq_getElem (by omega)]
      exact List.getElem_mem _
    exact bounds_u8 (hwz _ hmem)

theorem plN_hits (eh : Nat → E3) (kd pr : Int) : ∀ n, ∀ q ∈ plN eh kd pr n, hitB eh kd pr q = true
  | 0, q, h => by simp [plN] at h
  | n + 1, q, h => by
    unfold plN at h
    split at h
    · rename_i hh
      simp at h
      rcases h with h | h
      · exact plN_hits eh kd pr n q h
      · rw [h]; exact hh
    · exact plN_hits eh kd pr n q h
theorem plN_index (eh : Nat → E3) (kd pr : Int) : ∀ n m q, (plN eh kd pr n)[m]? = some q → (plN eh kd pr q).length = m
  | 0, m, q, h => by simp [plN] at h
  | n + 1, m, q, h => by
    unfold plN at h
    split at h
    · by_cases hm : m < (plN eh kd pr n).length
      · rw [List.getElem?_append_left hm] at h
        exact plN_index eh kd pr n m q h
      · rw [List.getElem?_append_right (by omega)] at h
        have h1 : m - (plN eh kd pr n).length = 0 := by
          apply Classical.byContradiction
          intro hn
          rw [List.getElem?_eq_none (by simp; omega)] at h
          cases h
        rw [h1] at h
        simp at h
        subst h
        omega
    · exact plN_index eh kd pr n m q h
theorem nthV_no {eh : Nat → E3} {kd pr : Int} {len : Nat} {n : Int} (h : belB n ((plI eh kd pr len).length : Nat) = false) : nthV eh kd pr len n = -1 := by
  unfold nthV
  rw [if_neg (by rw [h]; decide)]
/-- The place of number n is one of its kind, with its number, and behind n of them. -/
theorem nthV_yes {eh : Nat → E3} {kd pr : Int} {len m : Nat} (h : m < (plI eh kd pr len).length) : ∃ q : Nat, nthV eh kd pr len m = q ∧ q < len ∧ ((eh q).k == kd) = true ∧ ((eh q).q == pr) = true ∧ zi (valL eh kd pr len) m = (eh q).v ∧ (plN eh kd pr q).length = m := by
  obtain ⟨q, h1, h2, h3⟩ := plI_place eh kd pr len m h
  have hh := plN_hits eh kd pr len q (List.mem_of_getElem? h3)
  unfold hitB at hh
  simp only [Bool.and_eq_true] at hh
  refine ⟨q, ?_, h2, hh.1, hh.2, ?_, plN_index eh kd pr len m q h3⟩
  · unfold nthV
    rw [if_pos (by simp [belB]; omega), Int.toNat_natCast, h1]
  · unfold zi valL
    rw [List.getD_eq_getElem?_getD, List.getElem?_map, h3]
    rfl
theorem EvAt.take {w : World} {b off len q : Nat} {h : Nat → E3} (hh : EvAt w b off len h) (hq : q ≤ len) : EvAt w b off q h := fun i hi => hh i (by omega)

set_option maxRecDepth 100000 in
set_option maxHeartbeats 4000000 in
theorem counted_small (a0 : Option Addr) (len cap : Nat) (w : World) (hl : len ≤ 1048576) (hB : BytesAt w w.heap.size a0 len) :
    Calls Try.prog 4 #[.slice a0 len cap] w fun e w' => e = .returned (.bool true) ∧ Below w.heap.size w w' := by
  have hl' : ¬ (1048576 : Int) < (len : Int) := by omega
  have HB : Hid (BytesAt w w.heap.size a0 len) := hB
  clear hB
  go_enter Try.func4, Try.ntmps4
  go_wp2_with fail
  refine (big_any a0 len cap _).mono ?_
  rintro e w0 ⟨rfl, rfl⟩
  go_wp2_with fail
  refine (DrawNth_any w0.heap.size len cap a0 _ HB.out (Nat.le_refl _) hl).mono ?_
  rintro e w1 ⟨v, k, kd, pr, n, rfl, hk, l1, ⟨n0, n1⟩, g1⟩
  obtain ⟨eg, ec, rfl, hg1, hg2⟩ := l1.form
  obtain ⟨E, hE⟩ := l1.at
  obtain ⟨hec, hem⟩ := l1.cap
  have HE1 : Hid (EvAt w1 eg 0 k E) := hE
  have B1 : Hid (Below w0.heap.size w0 w1) := below_of_grown g1
  have hk' : k ≤ 1048576 := by omega
  clear l1 g1 hE HB
  go_wp2_with fail
  refine (implValues_any eg 0 k ec E kd pr _ hk' hg2 HE1.out).mono ?_
  rintro e w2 ⟨lv, rfl, o2, b2⟩
  have hXl := valL_length E kd pr k
  have hXp := plI_length E kd pr k
  have hXk := plN_le E kd pr k
  generalize hX : valL E kd pr k = X at o2 hXl
  have HX : Hid (valL E kd pr k = X ∧ X.length = (plN E kd pr k).length ∧ X.length ≤ 25) := ⟨hX, hXl, by omega⟩
  have hX1 : X.length ≤ 1048576 := by omega
  obtain ⟨al, cl, rfl, -⟩ := o2.form
  have O2 : Hid (OwnI w2 w1.heap.size (.slice al X.length cl) X) := o2
  have HE2 : Hid (EvAt w2 eg 0 k E) := HE1.out.below b2 hg2
  have z2 : eg < w2.heap.size := Nat.lt_of_lt_of_le hg2 b2.size
  have B2 : Hid (Below w0.heap.size w0 w2) := B1.out.trans (b2.mono B1.out.size)
  clear o2 b2 HE1 B1 hX hXl hXk
  have hcase : (nthV E kd pr k n = -1 ∧ (n < 0 ∨ (¬ n < 0 ∧ (X.length : Int) ≤ n))) ∨ ∃ m q : Nat, n = m ∧ (m : Int) < (X.length : Int) ∧ nthV E kd pr k n = q ∧ q < k ∧ ((E q).k == kd) = true ∧ ((E q).q == pr) = true ∧ zi X m = (E q).v ∧ (plN E kd pr q).length = m := by
    obtain ⟨x1, x2, -⟩ := HX.out
    rcases Bool.eq_false_or_eq_true (belB n ((plI E kd pr k).length : Nat)) with t | t
    · right
      have hn : 0 ≤ n ∧ n < ((plI E kd pr k).length : Int) := by simpa [belB] using t
      obtain ⟨m, rfl⟩ : ∃ m : Nat, n = m := ⟨n.toNat, by omega⟩
      obtain ⟨q, h1, h2, h3, h4, h5, h6⟩ := nthV_yes (eh := E) (kd := kd) (pr := pr) (len := k) (m := m) (by omega)
      rw [x1] at h5
      exact ⟨m, q, rfl, by omega, h1, h2, h3, h4, h5, h6⟩
    · left
      refine ⟨nthV_no t, ?_⟩
      simp [belB] at t
      by_cases hn : n < 0
      · exact .inl hn
      · exact .inr ⟨hn, by have := t (by omega); omega⟩
  clear hXp
  generalize hV : nthV E kd pr k n = V at hcase
  have HV : Hid (nthV E kd pr k n = V) := hV
  have HK : Hid ((V = -1 ∧ (n < 0 ∨ (¬ n < 0 ∧ (X.length : Int) ≤ n))) ∨ ∃ m q : Nat, n = m ∧ (m : Int) < (X.length : Int) ∧ V = q ∧ q < k ∧ ((E q).k == kd) = true ∧ ((E q).q == pr) = true ∧ zi X m = (E q).v ∧ (plN E kd pr q).length = m) := hcase
  clear hV hcase
  go_wp2_with fail
  refine (implNth_any eg 0 k ec E kd pr n _ hk' z2 HE2.out).mono ?_
  rintro e w3 ⟨he, b3⟩
  rw [HV.out] at he
  subst he
  have O3 : Hid (OwnI w3 w1.heap.size (.slice al X.length cl) X) := O2.out.below b3
  have HE3 : Hid (EvAt w3 eg 0 k E) := HE2.out.below b3 z2
  have z3 : eg < w3.heap.size := Nat.lt_of_lt_of_le z2 b3.size
  have B3 : Hid (Below w0.heap.size w0 w3) := B2.out.trans (b3.mono B2.out.size)
  clear O2 b3 HE2 B2
  go_wp2_with fail
  refine (specValues_any eg 0 k ec E kd pr _ hk' z3 HE3.out).mono ?_
  rintro e w4 ⟨sv, rfl, o4, b4⟩
  rw [HX.out.1] at o4
  obtain ⟨as4, cs4, rfl, s4⟩ := o4.form
  have S4' : Hid (Sl w4 as4 X) := s4
  have O4 : Hid (OwnI w4 w1.heap.size (.slice al X.length cl) X) := O3.out.below b4
  have HE4 : Hid (EvAt w4 eg 0 k E) := HE3.out.below b4 z3
  have z4 : eg < w4.heap.size := Nat.lt_of_lt_of_le z3 b4.size
  have B4 : Hid (Below w0.heap.size w0 w4) := B3.out.trans (b4.mono B3.out.size)
  clear O3 b4 HE3 B3 o4 s4
  go_wp2_with fail
  refine (sameInts_same al as4 cl cs4 X _ hX1 O4.out.slOf S4'.out).mono ?_
  rintro e w5 ⟨rfl, b5⟩
  have O5 : Hid (OwnI w5 w1.heap.size (.slice al X.length cl) X) := O4.out.below b5
  have HE5 : Hid (EvAt w5 eg 0 k E) := HE4.out.below b5 z4
  have z5 : eg < w5.heap.size := Nat.lt_of_lt_of_le z4 b5.size
  have B5 : Hid (Below w0.heap.size w0 w5) := B4.out.trans (b5.mono B4.out.size)
  clear O4 b5 HE4 B4 S4'
  go_wp2_with fail
  refine (specNth_any eg 0 k ec E kd pr n _ hk' z5 HE5.out (by omega) (by omega)).mono ?_
  rintro e w6 ⟨he, b6⟩
  rw [HV.out] at he
  subst he
  have O6 : Hid (OwnI w6 w1.heap.size (.slice al X.length cl) X) := O5.out.below b6
  have HE6 : Hid (EvAt w6 eg 0 k E) := HE5.out.below b6 z5
  have z6 : eg < w6.heap.size := Nat.lt_of_lt_of_le z5 b6.size
  have B6 : Hid (Below w0.heap.size w0 w6) := B5.out.trans (b6.mono B5.out.size)
  clear O5 b6 HE5 B5
  go_wp2_with fail
  refine (implCount_any eg 0 k ec E kd pr _ hk' z6 HE6.out).mono ?_
  rintro e w7 ⟨he, b7⟩
  rw [← HX.out.2.1] at he
  subst he
  have O7 : Hid (OwnI w7 w1.heap.size (.slice al X.length cl) X) := O6.out.below b7
  have HE7 : Hid (EvAt w7 eg 0 k E) := HE6.out.below b7 z6
  have z7 : eg < w7.heap.size := Nat.lt_of_lt_of_le z6 b7.size
  have B7 : Hid (Below w0.heap.size w0 w7) := B6.out.trans (b7.mono B6.out.size)
  clear O6 b7 HE6 B6
  rcases HK.out with ⟨rfl, hn | ⟨hn, hm⟩⟩ | ⟨m, q, rfl, hm, rfl, hq, t1, t2, hz, hp⟩
  · clear HK HV HX
    go_wp2
    go_ret
    exact ⟨rfl, B7.out⟩
  · clear HK HV HX
    go_wp2
    go_ret
    exact ⟨rfl, B7.out⟩
  · have hq' : (q : Int) < (k : Int) := by omega
    obtain ⟨c0, c1, c2⟩ := HE7.out q hq
    rw [Nat.zero_add] at c0 c1 c2
    obtain ⟨bx, ox, rfl, -, cx⟩ := O7.out.slOf.at (k := m) (by omega)
    rw [hz] at cx
    have HP : Hid ((plN E kd pr q).length = m) := hp
    have hqc : (q : Int) ≤ (ec : Int) := by omega
    clear HK HV HX hz hp
    have HQ : Hid (∀ d os', Below w7.heap.size w7 (grow (redrawn w7 d) os')) := fun d os' => below_regrown w7 d os'
    have HCt : Hid (∀ wx, Below w7.heap.size w7 wx → Calls Try.prog 22 #[.slice (some ⟨eg, 0, none⟩) q ec, .int .i64 kd, .int .i64 pr] wx fun e w' => e = .returned (.int .i64 (m : Nat)) ∧ Below wx.heap.size wx w') := fun wx hb => by
      have h := implCount_any eg 0 q ec E kd pr wx (by omega) (Nat.lt_of_lt_of_le z7 hb.size) ((HE7.out.take (by omega)).below hb z7)
      rw [HP.out] at h
      exact h
    go_wp2_with fail
    have c0' := cell_regrown c0
    have c1' := cell_regrown c1
    have c2' := cell_regrown c2
    have cx' := cell_regrown cx
    refine wp_region_quiet_below (by kernel_rfl) (by kernel_rfl) ?_
    repeat (quiet_step (first | (go_at_call 22; exact Calls.regrown_of (HCt.out _ (HQ.out _ _))) | fail))
    refine wpQuiet_nil ?_
    intro _ hw'
    obtain ⟨⟨dq, osq⟩, hw''⟩ := hw'
    subst hw''
    have B8 : Hid (Below w0.heap.size w0 (grow (redrawn w7 dq) osq)) := B7.out.trans ((below_regrown w7 dq osq).mono B7.out.size)
    generalize grow (redrawn w7 dq) osq = w8 at *
    clear c0' c1' c2' cx'
    go_wp2
    go_ret
    exact ⟨rfl, B8.out⟩

set_option maxHeartbeats 400000 in
theorem counted_big (a0 : Option Addr) (len cap : Nat) (w : World) (hl : 1048576 < len) :
    Calls Try.prog 4 #[.slice a0 len cap] w fun e w' => e = .returned (.bool true) ∧ Below w.heap.size w w' := by
  have hl' : (1048576 : Int) < (len : Int) := by omega
  go_enter Try.func4, Try.ntmps4
  go_wp2_with fail
  refine (big_any a0 len cap _).mono ?_
  rintro e w0 ⟨rfl, rfl⟩
  go_wp2
  go_ret
  exact ⟨rfl, Below.refl _ _⟩

end Go.Proofs.Ytmbmhpginegggaa
