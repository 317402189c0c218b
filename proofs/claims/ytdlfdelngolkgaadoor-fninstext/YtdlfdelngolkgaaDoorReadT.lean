/- The walk of the model's l1Read: what is the text of a number is read as that number. -/
import Derived.Test.YtdlfdelngolkgaaDoorReadS
namespace Go.Proofs.YtdlfdelngolkgaaDoor
open Go.RowKit Go.Lib

/-- Bytes that are n's text, its digits from place a on. -/
def DigitsOf (s : ByteArray) (a m : Nat) : Prop := s.data.toList.drop a = decDigits m ∧ m ≤ 1000000000 ∧ s.size = a + (decDigits m).length
theorem digits_of (s : ByteArray) (a : Nat) (n : Int) (hn : Fit n) (h : s = numT n) (ha : a ≤ 1) (h1 : a = 1 ↔ (1 < s.size ∧ s.data.toList[0]? = some 45)) : ∃ m, DigitsOf s a m ∧ n = if a = 1 then -(m : Int) else m := by
  have hsz := Lib.size_eq s
  have hd : s.data.toList = itoa n := by rw [h, numT]
  unfold Fit at hn
  by_cases hneg : n < 0
  · have e : itoa n = 45 :: decDigits n.natAbs := by rw [itoa, if_pos hneg]
    rw [e] at hd
    have hne := digits_ne n.natAbs
    have hl : 0 < (decDigits n.natAbs).length := List.length_pos_iff.2 hne
    have hl2 : s.data.toList.length = (decDigits n.natAbs).length + 1 := by rw [hd]; rfl
    have a1 : a = 1 := h1.2 ⟨by omega, by rw [hd]; rfl⟩
    subst a1
    refine ⟨n.natAbs, ⟨by rw [hd]; rfl, by omega, by omega⟩, by simp; omega⟩
  · have e : itoa n = decDigits n.toNat := by rw [itoa, if_neg hneg]
    rw [e] at hd
    have a0 : a = 0 := by
      rcases Nat.lt_or_ge 0 a with hp | hp
      · exfalso
        have a1 : a = 1 := by omega
        have h45 := (h1.1 a1).2
        rw [hd] at h45
        have hm : (45 : UInt8) ∈ decDigits n.toNat := List.mem_of_getElem? h45
        have := digits_bytes _ _ (Nat.le_refl _) _ hm
        have e45 : (45 : UInt8).toNat = 45 := rfl
        omega
      · omega
    subst a0
    refine ⟨n.toNat, ⟨by rw [hd]; rfl, by omega, by rw [hsz, hd]; omega⟩, by simp; omega⟩
theorem DigitsOf.size {s : ByteArray} {a m : Nat} (h : DigitsOf s a m) : a < s.size ∧ s.size ≤ a + 10 := by
  have h1 : 0 < (decDigits m).length := List.length_pos_iff.2 (digits_ne m)
  have h2 := digits_len 9 m (by have := h.2.1; omega)
  have h3 := h.2.2
  omega
theorem DigitsOf.byte {s : ByteArray} {a m k : Nat} (h : DigitsOf s a m) (ha : a ≤ k) (hk : k < s.size) : 48 ≤ s[k].toNat ∧ s[k].toNat ≤ 57 := by
  have hl := Lib.size_eq s
  have hm : s[k] ∈ decDigits m := by
    rw [← h.1, ← byte_at s k hk]
    refine List.mem_iff_getElem.2 ⟨k - a, by simp; omega, ?_⟩
    rw [List.getElem_drop]
    congr 1
    omega
  exact digits_bytes _ _ (Nat.le_refl _) _ hm

/-- The digits from place a up to place k are X. -/
def ReadTo (s : ByteArray) (a k X : Nat) : Prop := a ≤ k ∧ X < 10 ^ (k - a) ∧ decFrom 0 ((s.data.toList.drop a).take (k - a)) = some X
theorem ReadTo.zero (s : ByteArray) (a : Nat) : ReadTo s a a 0 := ⟨Nat.le_refl _, by simp, by simp [decFrom]⟩
theorem ReadTo.step {s : ByteArray} {a k X : Nat} (h : ReadTo s a k X) (hk : k < s.size) (h1 : 48 ≤ s[k].toNat) (h2 : s[k].toNat ≤ 57) : ReadTo s a (k + 1) (10 * X + s[k].toNat - 48) := by
  obtain ⟨ha, hX, hd⟩ := h
  have hl := Lib.size_eq s
  have ek : k + 1 - a = (k - a) + 1 := by omega
  refine ⟨by omega, ?_, ?_⟩
  · rw [ek, Nat.pow_succ]
    omega
  · rw [ek, List.take_add_one, List.getElem?_drop, show a + (k - a) = k by omega, List.getElem?_eq_getElem (by omega), byte_at s k hk]
    rw [Option.toList_some, decFrom_snoc s[k] (s[k].toNat - 48) (by rw [digitVal, if_pos ⟨h1, h2⟩]) _ _ X hd]
    congr 1
    omega
theorem ReadTo.small {s : ByteArray} {a k X : Nat} (h : ReadTo s a k X) (hk : k ≤ a + 10) : X ≤ 9999999999 := by
  have h1 : 10 ^ (k - a) ≤ 10 ^ 10 := Nat.pow_le_pow_right (by omega) (by omega)
  have h2 := h.2.1
  omega
theorem ReadTo.done {s : ByteArray} {a m X : Nat} (h : ReadTo s a s.size X) (hm : DigitsOf s a m) : X = m := by
  obtain ⟨_, _, hd⟩ := h
  have hl := Lib.size_eq s
  rw [List.take_of_length_le (by rw [List.length_drop]; omega), hm.1, dec_digits _ _ (Nat.le_refl _)] at hd
  exact (Option.some.inj hd).symm

/-- How l1Read ends. -/
def NumR (s : ByteArray) (e : Ending) : Prop := ∃ (x : Int) (ok : Bool), e = .returned (.tuple #[.int .i64 x, .bool ok]) ∧ (∀ n, Fit n → s = numT n → x = n ∧ ok = true)

theorem head_at (s : ByteArray) (h : 0 < s.size) : s.data.toList[0]? = some s[0] := by
  rw [List.getElem?_eq_getElem (by rw [← Lib.size_eq]; exact h), byte_at s 0 h]

set_option maxRecDepth 100000 in
set_option maxHeartbeats 1000000 in
theorem l1Read_neg (s : ByteArray) (w : World) (hs : s.size ≤ 1048576) (h0 : 0 < s.size) (h1 : 1 < s.size) (t : ((s[0].toNat : Int) == 45) = true) :
    Calls Tryd.prog 31 #[.string s] w fun e w' => NumR s e ∧ Below w.heap.size w w' := by
  have hs' : (s.size : Int) ≤ 1048576 := by omega
  have h1' : (1 : Int) < (s.size : Int) := by omega
  have HA : Hid (1 = 1 ↔ (1 < s.size ∧ s.data.toList[0]? = some 45)) := by
    refine ⟨fun _ => ⟨h1, ?_⟩, fun _ => rfl⟩
    rw [head_at s h0]
    congr 1
    apply UInt8.toNat_inj.1
    have e45 : (45 : UInt8).toNat = 45 := rfl
    have := eq_of_beq t
    omega
  have HDG : Hid (∀ n, Fit n → s = numT n → ∃ m, DigitsOf s 1 m ∧ n = if 1 = 1 then -(m : Int) else m) := fun n hn he => digits_of s 1 n hn he (by omega) HA.out
  by_cases hbig : s.size ≤ 1 + 10
  · have hbig1 : (s.size : Int) ≤ 11 := by omega
    have hbig2 : (s.size : Int) - 1 ≤ 10 := by omega
    have hbig3 : ((s.size : Int) == 1) = false := beq_eq_false_iff_ne.2 (by omega)
    go_enter Tryd.func31, Tryd.ntmps31
    go_wp2_with fail
    go_loopw [5, 6] (fun x i wr => ∃ k X : Nat, k ≤ s.size ∧ X ≤ 9999999999 ∧ x = .int .i64 X ∧ i = .int .i64 k ∧ Hid (ReadTo s 1 k X) ∧ Below w.heap.size w wr) (fun _ i _ => s.size - (RowKit.intOf i).toNat)
    case atStart => exact ⟨1, 0, by omega, by omega, rfl, rfl, ReadTo.zero s 1, Below.refl _ _⟩
    case round =>
      obtain ⟨k, X, hk, hX, rfl, rfl, HR, hbw⟩ := hrel
      have hsz := hbw.size
      have hX' : (X : Int) ≤ 9999999999 := by omega
      by_cases hlt : k < s.size
      · have hlt' : (k : Int) < (s.size : Int) := by omega
        have hab : 1 ≤ k := HR.out.1
        by_cases b1 : 48 ≤ s[k].toNat
        · by_cases b2 : s[k].toNat ≤ 57
          · have b1' : ¬ (s[k].toNat : Int) < 48 := by omega
            have b2' : ¬ (57 : Int) < (s[k].toNat : Int) := by omega
            have HS : Hid (ReadTo s 1 (k + 1) (10 * X + s[k].toNat - 48)) := HR.out.step hlt b1 b2
            have hY : 10 * X + s[k].toNat - 48 ≤ 9999999999 := HS.out.small (by omega)
            go_wp2
            go_roundw
            case rel => exact ⟨k + 1, 10 * X + s[k].toNat - 48, by omega, hY, by go_num, by go_num, HS, hbw⟩
            case measure => simp [RowKit.intOf]; omega
          · have b2' : (57 : Int) < (s[k].toNat : Int) := by omega
            have HF : Hid (∀ n, Fit n → s = numT n → False) := fun n hn he => by
              obtain ⟨m, hm, _⟩ := HDG.out n hn he
              exact b2 (hm.byte hab hlt).2
            have b1' : ¬ (s[k].toNat : Int) < 48 := by omega
            clear b1 b2
            go_wp2
            go_ret2
            exact ⟨⟨0, false, rfl, fun n hn he => (HF.out n hn he).elim⟩, hbw⟩
        · have b1' : (s[k].toNat : Int) < 48 := by omega
          have HF : Hid (∀ n, Fit n → s = numT n → False) := fun n hn he => by
            obtain ⟨m, hm, _⟩ := HDG.out n hn he
            exact b1 (hm.byte hab hlt).1
          clear b1
          go_wp2
          go_ret2
          exact ⟨⟨0, false, rfl, fun n hn he => (HF.out n hn he).elim⟩, hbw⟩
      · have hlt' : ¬ (k : Int) < (s.size : Int) := by omega
        have HF : Hid (∀ n, Fit n → s = numT n → -(X : Int) = n) := fun n hn he => by
          obtain ⟨m, hm, e⟩ := HDG.out n hn he
          have hks : k = s.size := by omega
          have hr := HR.out
          rw [hks] at hr
          have := hr.done hm
          simp at e
          omega
        go_wp2_with fail
        refine (l1Digits_big (-(X : Int)) _ (by omega) (by omega)).mono ?_
        rintro e w1 ⟨rfl, hb1⟩
        by_cases hq : numT (-(X : Int)) = s
        · have t := eqT_yes hq
          clear hq
          go_wp2
          go_ret2
          exact ⟨⟨_, true, rfl, fun n hn he => ⟨HF.out n hn he, rfl⟩⟩, hbw.trans (hb1.mono hsz)⟩
        · have t := eqT_no hq
          have HG : Hid (∀ n, Fit n → s = numT n → False) := fun n hn he => hq (by rw [HF.out n hn he]; exact he.symm)
          clear hq
          go_wp2
          go_ret2
          exact ⟨⟨_, false, rfl, fun n hn he => (HG.out n hn he).elim⟩, hbw.trans (hb1.mono hsz)⟩
  · have hbig1 : ¬ (s.size : Int) ≤ 11 := by omega
    have hbig2 : ¬ (s.size : Int) - 1 ≤ 10 := by omega
    have hbig4 : (10 : Int) < (s.size : Int) - 1 := by omega
    have hbig5 : (11 : Int) < (s.size : Int) := by omega
    have hbig3 : ((s.size : Int) == 1) = false := beq_eq_false_iff_ne.2 (by omega)
    have HF : Hid (∀ n, Fit n → s = numT n → False) := fun n hn he => by
      obtain ⟨m, hm, _⟩ := HDG.out n hn he
      exact hbig hm.size.2
    go_enter Tryd.func31, Tryd.ntmps31
    go_wp2
    go_ret2
    exact ⟨⟨0, false, rfl, fun n hn he => (HF.out n hn he).elim⟩, Below.refl _ _⟩

set_option maxRecDepth 100000 in
set_option maxHeartbeats 1000000 in
theorem l1Read_pos (s : ByteArray) (w : World) (hs : s.size ≤ 1048576) (h0 : 0 < s.size) (h1 : 1 < s.size) (t : ((s[0].toNat : Int) == 45) = false) :
    Calls Tryd.prog 31 #[.string s] w fun e w' => NumR s e ∧ Below w.heap.size w w' := by
  have hs' : (s.size : Int) ≤ 1048576 := by omega
  have h1' : (1 : Int) < (s.size : Int) := by omega
  have HA : Hid (0 = 1 ↔ (1 < s.size ∧ s.data.toList[0]? = some 45)) := by
    refine ⟨(fun h => by cases h), fun ⟨_, h⟩ => ?_⟩
    rw [head_at s h0] at h
    have e := Option.some.inj h
    rw [e] at t
    cases t
  have HDG : Hid (∀ n, Fit n → s = numT n → ∃ m, DigitsOf s 0 m ∧ n = if 0 = 1 then -(m : Int) else m) := fun n hn he => digits_of s 0 n hn he (by omega) HA.out
  by_cases hbig : s.size ≤ 0 + 10
  · have hbig1 : (s.size : Int) ≤ 10 := by omega
    have hbig2 : (s.size : Int) - 0 ≤ 10 := by omega
    have hbig3 : ((s.size : Int) == 0) = false := beq_eq_false_iff_ne.2 (by omega)
    go_enter Tryd.func31, Tryd.ntmps31
    go_wp2_with fail
    go_loopw [5, 6] (fun x i wr => ∃ k X : Nat, k ≤ s.size ∧ X ≤ 9999999999 ∧ x = .int .i64 X ∧ i = .int .i64 k ∧ Hid (ReadTo s 0 k X) ∧ Below w.heap.size w wr) (fun _ i _ => s.size - (RowKit.intOf i).toNat)
    case atStart => exact ⟨0, 0, by omega, by omega, rfl, rfl, ReadTo.zero s 0, Below.refl _ _⟩
    case round =>
      obtain ⟨k, X, hk, hX, rfl, rfl, HR, hbw⟩ := hrel
      have hsz := hbw.size
      have hX' : (X : Int) ≤ 9999999999 := by omega
      by_cases hlt : k < s.size
      · have hlt' : (k : Int) < (s.size : Int) := by omega
        have hab : 0 ≤ k := HR.out.1
        by_cases b1 : 48 ≤ s[k].toNat
        · by_cases b2 : s[k].toNat ≤ 57
          · have b1' : ¬ (s[k].toNat : Int) < 48 := by omega
            have b2' : ¬ (57 : Int) < (s[k].toNat : Int) := by omega
            have HS : Hid (ReadTo s 0 (k + 1) (10 * X + s[k].toNat - 48)) := HR.out.step hlt b1 b2
            have hY : 10 * X + s[k].toNat - 48 ≤ 9999999999 := HS.out.small (by omega)
            go_wp2
            go_roundw
            case rel => exact ⟨k + 1, 10 * X + s[k].toNat - 48, by omega, hY, by go_num, by go_num, HS, hbw⟩
            case measure => simp [RowKit.intOf]; omega
          · have b2' : (57 : Int) < (s[k].toNat : Int) := by omega
            have HF : Hid (∀ n, Fit n → s = numT n → False) := fun n hn he => by
              obtain ⟨m, hm, _⟩ := HDG.out n hn he
              exact b2 (hm.byte hab hlt).2
            have b1' : ¬ (s[k].toNat : Int) < 48 := by omega
            clear b1 b2
            go_wp2
            go_ret2
            exact ⟨⟨0, false, rfl, fun n hn he => (HF.out n hn he).elim⟩, hbw⟩
        · have b1' : (s[k].toNat : Int) < 48 := by omega
          have HF : Hid (∀ n, Fit n → s = numT n → False) := fun n hn he => by
            obtain ⟨m, hm, _⟩ := HDG.out n hn he
            exact b1 (hm.byte hab hlt).1
          clear b1
          go_wp2
          go_ret2
          exact ⟨⟨0, false, rfl, fun n hn he => (HF.out n hn he).elim⟩, hbw⟩
      · have hlt' : ¬ (k : Int) < (s.size : Int) := by omega
        have HF : Hid (∀ n, Fit n → s = numT n → (X : Int) = n) := fun n hn he => by
          obtain ⟨m, hm, e⟩ := HDG.out n hn he
          have hks : k = s.size := by omega
          have hr := HR.out
          rw [hks] at hr
          have := hr.done hm
          simp at e
          omega
        go_wp2_with fail
        refine (l1Digits_big ((X : Int)) _ (by omega) (by omega)).mono ?_
        rintro e w1 ⟨rfl, hb1⟩
        by_cases hq : numT ((X : Int)) = s
        · have t := eqT_yes hq
          clear hq
          go_wp2
          go_ret2
          exact ⟨⟨_, true, rfl, fun n hn he => ⟨HF.out n hn he, rfl⟩⟩, hbw.trans (hb1.mono hsz)⟩
        · have t := eqT_no hq
          have HG : Hid (∀ n, Fit n → s = numT n → False) := fun n hn he => hq (by rw [HF.out n hn he]; exact he.symm)
          clear hq
          go_wp2
          go_ret2
          exact ⟨⟨_, false, rfl, fun n hn he => (HG.out n hn he).elim⟩, hbw.trans (hb1.mono hsz)⟩
  · have hbig1 : ¬ (s.size : Int) ≤ 10 := by omega
    have hbig2 : ¬ (s.size : Int) - 0 ≤ 10 := by omega
    have hbig4 : (10 : Int) < (s.size : Int) - 0 := by omega
    have hbig5 : (10 : Int) < (s.size : Int) := by omega
    have hbig3 : ((s.size : Int) == 0) = false := beq_eq_false_iff_ne.2 (by omega)
    have HF : Hid (∀ n, Fit n → s = numT n → False) := fun n hn he => by
      obtain ⟨m, hm, _⟩ := HDG.out n hn he
      exact hbig hm.size.2
    go_enter Tryd.func31, Tryd.ntmps31
    go_wp2
    go_ret2
    exact ⟨⟨0, false, rfl, fun n hn he => (HF.out n hn he).elim⟩, Below.refl _ _⟩

set_option maxRecDepth 100000 in
set_option maxHeartbeats 1000000 in
theorem l1Read_one (s : ByteArray) (w : World) (hs : s.size ≤ 1048576) (h0 : 0 < s.size) (h1 : ¬ 1 < s.size) :
    Calls Tryd.prog 31 #[.string s] w fun e w' => NumR s e ∧ Below w.heap.size w w' := by
  have hs' : (s.size : Int) ≤ 1048576 := by omega
  have h1' : ¬ (1 : Int) < (s.size : Int) := by omega
  have HA : Hid (0 = 1 ↔ (1 < s.size ∧ s.data.toList[0]? = some 45)) := ⟨(fun h => by cases h), fun ⟨h, _⟩ => absurd h h1⟩
  have HDG : Hid (∀ n, Fit n → s = numT n → ∃ m, DigitsOf s 0 m ∧ n = if 0 = 1 then -(m : Int) else m) := fun n hn he => digits_of s 0 n hn he (by omega) HA.out
  by_cases hbig : s.size ≤ 0 + 10
  · have hbig1 : (s.size : Int) ≤ 10 := by omega
    have hbig2 : (s.size : Int) - 0 ≤ 10 := by omega
    have hbig3 : ((s.size : Int) == 0) = false := beq_eq_false_iff_ne.2 (by omega)
    go_enter Tryd.func31, Tryd.ntmps31
    go_wp2_with fail
    go_loopw [5, 6] (fun x i wr => ∃ k X : Nat, k ≤ s.size ∧ X ≤ 9999999999 ∧ x = .int .i64 X ∧ i = .int .i64 k ∧ Hid (ReadTo s 0 k X) ∧ Below w.heap.size w wr) (fun _ i _ => s.size - (RowKit.intOf i).toNat)
    case atStart => exact ⟨0, 0, by omega, by omega, rfl, rfl, ReadTo.zero s 0, Below.refl _ _⟩
    case round =>
      obtain ⟨k, X, hk, hX, rfl, rfl, HR, hbw⟩ := hrel
      have hsz := hbw.size
      have hX' : (X : Int) ≤ 9999999999 := by omega
      by_cases hlt : k < s.size
      · have hlt' : (k : Int) < (s.size : Int) := by omega
        have hab : 0 ≤ k := HR.out.1
        by_cases b1 : 48 ≤ s[k].toNat
        · by_cases b2 : s[k].toNat ≤ 57
          · have b1' : ¬ (s[k].toNat : Int) < 48 := by omega
            have b2' : ¬ (57 : Int) < (s[k].toNat : Int) := by omega
            have HS : Hid (ReadTo s 0 (k + 1) (10 * X + s[k].toNat - 48)) := HR.out.step hlt b1 b2
            have hY : 10 * X + s[k].toNat - 48 ≤ 9999999999 := HS.out.small (by omega)
            go_wp2
            go_roundw
            case rel => exact ⟨k + 1, 10 * X + s[k].toNat - 48, by omega, hY, by go_num, by go_num, HS, hbw⟩
            case measure => simp [RowKit.intOf]; omega
          · have b2' : (57 : Int) < (s[k].toNat : Int) := by omega
            have HF : Hid (∀ n, Fit n → s = numT n → False) := fun n hn he => by
              obtain ⟨m, hm, _⟩ := HDG.out n hn he
              exact b2 (hm.byte hab hlt).2
            have b1' : ¬ (s[k].toNat : Int) < 48 := by omega
            clear b1 b2
            go_wp2
            go_ret2
            exact ⟨⟨0, false, rfl, fun n hn he => (HF.out n hn he).elim⟩, hbw⟩
        · have b1' : (s[k].toNat : Int) < 48 := by omega
          have HF : Hid (∀ n, Fit n → s = numT n → False) := fun n hn he => by
            obtain ⟨m, hm, _⟩ := HDG.out n hn he
            exact b1 (hm.byte hab hlt).1
          clear b1
          go_wp2
          go_ret2
          exact ⟨⟨0, false, rfl, fun n hn he => (HF.out n hn he).elim⟩, hbw⟩
      · have hlt' : ¬ (k : Int) < (s.size : Int) := by omega
        have HF : Hid (∀ n, Fit n → s = numT n → (X : Int) = n) := fun n hn he => by
          obtain ⟨m, hm, e⟩ := HDG.out n hn he
          have hks : k = s.size := by omega
          have hr := HR.out
          rw [hks] at hr
          have := hr.done hm
          simp at e
          omega
        go_wp2_with fail
        refine (l1Digits_big ((X : Int)) _ (by omega) (by omega)).mono ?_
        rintro e w1 ⟨rfl, hb1⟩
        by_cases hq : numT ((X : Int)) = s
        · have t := eqT_yes hq
          clear hq
          go_wp2
          go_ret2
          exact ⟨⟨_, true, rfl, fun n hn he => ⟨HF.out n hn he, rfl⟩⟩, hbw.trans (hb1.mono hsz)⟩
        · have t := eqT_no hq
          have HG : Hid (∀ n, Fit n → s = numT n → False) := fun n hn he => hq (by rw [HF.out n hn he]; exact he.symm)
          clear hq
          go_wp2
          go_ret2
          exact ⟨⟨_, false, rfl, fun n hn he => (HG.out n hn he).elim⟩, hbw.trans (hb1.mono hsz)⟩
  · have hbig1 : ¬ (s.size : Int) ≤ 10 := by omega
    have hbig2 : ¬ (s.size : Int) - 0 ≤ 10 := by omega
    have hbig4 : (10 : Int) < (s.size : Int) - 0 := by omega
    have hbig5 : (10 : Int) < (s.size : Int) := by omega
    have hbig3 : ((s.size : Int) == 0) = false := beq_eq_false_iff_ne.2 (by omega)
    have HF : Hid (∀ n, Fit n → s = numT n → False) := fun n hn he => by
      obtain ⟨m, hm, _⟩ := HDG.out n hn he
      exact hbig hm.size.2
    go_enter Tryd.func31, Tryd.ntmps31
    go_wp2
    go_ret2
    exact ⟨⟨0, false, rfl, fun n hn he => (HF.out n hn he).elim⟩, Below.refl _ _⟩

set_option maxRecDepth 100000 in
set_option maxHeartbeats 1000000 in
theorem l1Read_none (s : ByteArray) (w : World) (h0 : s.size = 0) :
    Calls Tryd.prog 31 #[.string s] w fun e w' => NumR s e ∧ Below w.heap.size w w' := by
  have HF : Hid (∀ n, Fit n → s = numT n → False) := fun n hn he => by
    obtain ⟨m, hm, _⟩ := digits_of s 0 n hn he (by omega) ⟨(fun h => by cases h), fun ⟨h, _⟩ => by omega⟩
    have := hm.size.1
    omega
  have h0' : (s.size : Int) = 0 := by omega
  go_enter Tryd.func31, Tryd.ntmps31
  go_wp2
  go_ret2
  exact ⟨⟨0, false, rfl, fun n hn he => (HF.out n hn he).elim⟩, Below.refl _ _⟩

theorem l1Read_any (s : ByteArray) (w : World) (hs : s.size ≤ 1048576) :
    Calls Tryd.prog 31 #[.string s] w fun e w' => NumR s e ∧ Below w.heap.size w w' := by
  by_cases h0 : 0 < s.size
  · by_cases h1 : 1 < s.size
    · rcases Bool.eq_false_or_eq_true ((s[0].toNat : Int) == 45) with t | t
      · exact l1Read_neg s w hs h0 h1 t
      · exact l1Read_pos s w hs h0 h1 t
    · exact l1Read_one s w hs h0 h1
  · exact l1Read_none s w (by omega)

end Go.Proofs.YtdlfdelngolkgaaDoor
