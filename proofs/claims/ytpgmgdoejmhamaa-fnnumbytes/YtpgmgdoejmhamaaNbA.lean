/- The draws of a number, and of bytes with a place among them. -/
import Derived.Test.YtpgmgdoejmhamaaBtB
import Derived.Deep.Cut
namespace Go.Proofs.Ytpgmgdoejmhamaa
open Go.ChangeShapes Go.WideShapes Go.ChangeAt Go.RowKit Go.Deep

set_option maxRecDepth 100000 in
set_option maxHeartbeats 1000000 in
theorem l1New_any (W0 len cap : Nat) (a0 : Option Addr) (w : World) (hB : BytesAt w W0 a0 len) (hW : W0 ≤ w.heap.size) (ln : len ≤ 1048576) :
    Calls Try.prog 18 #[.slice a0 len cap] w fun e w' => e = .returned (.pointer (some ⟨w.heap.size, 0, none⟩)) ∧ Cur w' W0 w.heap.size a0 len cap ∧ w.grownBy w' none := by
  have ln' : (len : Int) ≤ 1048576 := by omega
  have HB : Hid (BytesAt w W0 a0 len) := hB
  clear hB
  go_enter Try.func18, Try.ntmps18
  go_wp2_with fail
  go_loop [3, 4] (fun h i => ∃ (k : Nat) (x : Int), k ≤ len ∧ i = .int .i64 k ∧ h = .int .i64 x) (fun _ i => len - (intOf i).toNat)
  case atStart => exact ⟨0, _, Nat.zero_le _, rfl, rfl⟩
  case round =>
    obtain ⟨k, x, hk, rfl, rfl⟩ := hrel
    by_cases hlt : k < len ∧ k < 4000
    · obtain ⟨h1, h2⟩ := hlt
      have h1' : (k : Int) < (len : Int) := by omega
      have h2' : (k : Int) < 4000 := by omega
      rcases HB.out with hb | ⟨b, off, rfl, hbW, hz⟩
      · omega
      obtain ⟨z, cz, z0, z1⟩ := hz k h1
      clear hz
      go_wp2
      go_round
      case rel => exact ⟨k + 1, _, by omega, by go_num, rfl⟩
      case measure => simp [intOf]; omega
    · have fin : ∀ x : Int, Cur (w.alloc (.cells #[.slice a0 len cap, .int .i64 0, .int .i64 x] 46)) W0 w.heap.size a0 len cap ∧ w.grownBy (w.alloc (.cells #[.slice a0 len cap, .int .i64 0, .int .i64 x] 46)) none := fun x =>
        ⟨⟨⟨0, x, by simp, by simp, by simp⟩, fun o => by simp, by simp, hW, HB.out.kept fun j hj => Below.heap_alloc w _ j (by omega), ln⟩, World.grownBy_alloc w _ none⟩
      have FIN : Hid (∀ x : Int, Cur (w.alloc (.cells #[.slice a0 len cap, .int .i64 0, .int .i64 x] 46)) W0 w.heap.size a0 len cap ∧ w.grownBy (w.alloc (.cells #[.slice a0 len cap, .int .i64 0, .int .i64 x] 46)) none) := fin
      clear fin
      by_cases h1 : k < len
      · have h1' : (k : Int) < (len : Int) := by omega
        have h2' : ¬ (k : Int) < 4000 := by omega
        go_wp2
        go_ret
        exact ⟨rfl, FIN.out _⟩
      · have h1' : ¬ (k : Int) < (len : Int) := by omega
        go_wp2
        go_ret
        exact ⟨rfl, FIN.out _⟩

set_option maxHeartbeats 1000000 in
theorem l1Below_wide (W0 c len cap : Nat) (a0 : Option Addr) (n : Int) (w : World) (hc : Cur w W0 c a0 len cap) (n1 : 1 ≤ n) (n2 : n ≤ 1048576) :
    Calls Try.prog 20 #[.pointer (some ⟨c, 0, none⟩), .int .i64 n] w fun e w' => ∃ x : Int, e = .returned (.int .i64 x) ∧ (0 ≤ x ∧ x < n) ∧ Cur w' W0 c a0 len cap ∧ w.grownBy w' (some c) := by
  by_cases hs : n ≤ 256
  · exact l1Below_any W0 c len cap a0 n w hc n1 hs
  have n3 : ¬ n ≤ 0 := by omega
  have n4 : (n == 0) = false := by simp; omega
  have HCur : Hid (Cur w W0 c a0 len cap) := hc
  clear hc
  go_enter Try.func20, Try.ntmps20
  go_wp2_with fail
  refine (l1Byte_any W0 c len cap a0 _ HCur.out).mono ?_
  rintro e w1 ⟨x, rfl, ⟨x0, x1⟩, hc1, hg1⟩
  have H1 : Hid (Cur w1 W0 c a0 len cap ∧ w.grownBy w1 (some c)) := ⟨hc1, hg1⟩
  clear hc1 hg1 HCur
  go_wp2_with fail
  refine (l1Byte_any W0 c len cap a0 _ H1.out.1).mono ?_
  rintro e w2 ⟨y, rfl, ⟨y0, y1⟩, hc2, hg2⟩
  have H2 : Hid (Cur w2 W0 c a0 len cap ∧ w.grownBy w2 (some c)) := ⟨hc2, H1.out.2.trans hg2⟩
  clear hc2 hg2 H1
  go_wp2_with fail
  refine (l1Byte_any W0 c len cap a0 _ H2.out.1).mono ?_
  rintro e w3 ⟨z, rfl, ⟨z0, z1⟩, hc3, hg3⟩
  have H3 : Hid (Cur w3 W0 c a0 len cap ∧ w.grownBy w3 (some c)) := ⟨hc3, H2.out.2.trans hg3⟩
  clear hc3 hg3 H2
  go_wp2_with fail
  refine (l1Byte_any W0 c len cap a0 _ H3.out.1).mono ?_
  rintro e w4 ⟨u, rfl, ⟨u0, u1⟩, hc4, hg4⟩
  have H4 : Hid (Cur w4 W0 c a0 len cap ∧ w.grownBy w4 (some c)) := ⟨hc4, H3.out.2.trans hg4⟩
  clear hc4 hg4 H3
  have hp : 0 ≤ x * 16777216 + y * 65536 + z * 256 + u := by omega
  go_wp2
  go_ret
  exact ⟨_, rfl, ⟨Int.emod_nonneg _ (by omega), Int.emod_lt_of_pos _ (by omega)⟩, H4.out.1, H4.out.2⟩

set_option maxHeartbeats 400000 in
theorem big_any (a0 : Option Addr) (len cap : Nat) (w : World) :
    Calls Try.prog 6 #[.slice a0 len cap] w fun e w' => e = .returned (.bool (decide ((1048576 : Int) < len))) ∧ w' = w := by
  go_enter Try.func6, Try.ntmps6
  go_wp2
  go_ret
  exact ⟨rfl, rfl⟩

set_option maxHeartbeats 1000000 in
theorem at_one (W0 : Nat) (a0 : Option Addr) (len cap : Nat) (w : World) (hB : BytesAt w W0 a0 len) (hl : len ≤ 1048576) :
    Calls Try.prog 11 #[.slice a0 len cap, .int .i64 1] w fun e w' => ∃ z : Int, e = .returned (.int .i64 z) ∧ (0 ≤ z ∧ z ≤ 255) ∧ w' = w := by
  have hl' : (len : Int) ≤ 1048576 := by omega
  by_cases h1 : 1 < len
  · have h1' : (1 : Int) < (len : Int) := by omega
    rcases hB with h0 | ⟨b, off, rfl, -, hc⟩
    · omega
    · obtain ⟨z, cz, z0, z1⟩ := hc 1 h1
      go_enter Try.func11, Try.ntmps11
      go_wp2
      go_ret
      exact ⟨z, rfl, ⟨z0, z1⟩, rfl⟩
  · have h1' : ¬ (1 : Int) < (len : Int) := by omega
    go_enter Try.func11, Try.ntmps11
    go_wp2
    go_ret
    exact ⟨_, rfl, by omega, rfl⟩

/-- Bytes that came in: as many as an int can count, each in memory that was there. -/
theorem open_bytes {H : Type} {enc : TypeId × Value → H} {w : World} {a0 : Option Addr} {len cap : Nat} {d : DataW H} {p : List MemPlace}
    (h : DataW.Trod enc Try.prog w 0 (fun _ => true) true 22 (.slice a0 len cap) d p) : len ≤ maxLen ∧ BytesAt w w.heap.size a0 len := by
  obtain ⟨fuel, hf⟩ := h
  rcases open_ints Try.underlying22 Try.underlying5 (by kernel_rfl) hf with ⟨hcs, _⟩ | ⟨x, l, c, zs, hcs, _, hl, hm, hz, _, hcell, hwz⟩
  · simp [Value.cells] at hcs
    obtain ⟨_, rfl, _⟩ := hcs
    exact ⟨Nat.zero_le _, .inl rfl⟩
  · simp [Value.cells] at hcs
    obtain ⟨rfl, rfl, rfl⟩ := hcs
    refine ⟨Nat.le_trans hl hm, ?_⟩
    by_cases h0 : len = 0
    · exact .inl h0
    right
    have hz' : zs.length = cap := by simpa using hz
    obtain ⟨b, off, rfl, hc⟩ := ints_at hcell (by omega)
    refine ⟨b, off, rfl, cell_lt (hc 0 (by omega)), fun j hj => ⟨zs.getD j 0, hc j (by omega), ?_⟩⟩
    have hmem : zs.getD j 0 ∈ zs := by
      rw [List.getD_eq_getElem?_getD, List.getElem?_eq_getElem (by omega)]
      exact List.getElem_mem _
    exact bounds_u8 (hwz _ hmem)

theorem Cur.below {w w' : World} {W0 c len cap : Nat} {a0 : Option Addr} (h : Cur w W0 c a0 len cap) (hb : Below w.heap.size w w') : Cur w' W0 c a0 len cap := h.kept (grown_of_below hb) (by simp) (fun k hk => by cases hk)
theorem ownB_lit (w : World) (xs : List Int) (hl : xs.length ≤ 1000) : OwnB (w.alloc (.cells (xs.map (Value.int .u8)).toArray 5)) w.heap.size (.slice (some ⟨w.heap.size, 0, none⟩) xs.length xs.length) xs := by
  have := World.ownsRow_lit (base := w.heap.size) (e := 5) (size := 1) w (xs.map (Value.int .u8)).toArray xs.length (Nat.le_refl _) (by unfold maxLen; omega) (by simp)
  unfold OwnB
  exact this
theorem ints_lit (w : World) (xs : List Int) : IntsAt (w.alloc (.cells (xs.map (Value.int .i64)).toArray 3)) w.heap.size xs.length (zi xs) := fun j hj => by
  rw [new_cell _ _ _ j rfl, List.getElem?_toArray]
  exact getD_map_int xs j hj
theorem OwnB.cap {w : World} {B n cap : Nat} {a0 : Option Addr} {xs : List Int} (h : OwnB w B (.slice a0 n cap) xs) : n ≤ cap := by
  rcases h.2 with ⟨e, h0⟩ | ⟨g, cp, cur, e, hb, hg, hnc, -⟩
  · simp only [Value.slice.injEq] at e
    omega
  · simp only [Value.slice.injEq] at e
    omega
theorem By.app {xs ys : List Int} (h1 : By xs) (h2 : By ys) : By (xs ++ ys) := fun i hi => by
  unfold zi
  rw [List.length_append] at hi
  by_cases h : i < xs.length
  · have := h1 i h
    unfold zi at this
    rwa [List.getD_eq_getElem?_getD, List.getElem?_append_left h, ← List.getD_eq_getElem?_getD]
  · have := h2 (i - xs.length) (by omega)
    unfold zi at this
    rwa [List.getD_eq_getElem?_getD, List.getElem?_append_right (by omega), ← List.getD_eq_getElem?_getD]
theorem by_one {d : Int} (h : 0 ≤ d ∧ d ≤ 255) : By [d] := fun i hi => by
  simp at hi
  subst hi
  rw [zi_zero]
  exact h
theorem By.cons {d : Int} {xs : List Int} (h : 0 ≤ d ∧ d ≤ 255) (h2 : By xs) : By (d :: xs) := By.app (by_one h) h2
theorem by_nil : By [] := fun i hi => by simp at hi

set_option maxRecDepth 100000 in
set_option maxHeartbeats 1000000 in
theorem DrawPutNum_any (W0 len cap : Nat) (a0 : Option Addr) (w : World) (hB : BytesAt w W0 a0 len) (hW : W0 ≤ w.heap.size) (ln : len ≤ 1048576) :
    Calls Try.prog 7 #[.slice a0 len cap] w fun e w' => ∃ x : Int, e = .returned (.int .i64 x) ∧ Below w.heap.size w w' := by
  have HB : Hid (BytesAt w W0 a0 len) := hB
  clear hB
  go_enter Try.func7, Try.ntmps7
  go_wp2_with fail
  refine (l1New_any W0 len cap a0 w HB.out hW ln).mono ?_
  rintro e w1 ⟨rfl, hc1, hg1⟩
  have C1 : Hid (Cur w1 W0 w.heap.size a0 len cap ∧ Below w.heap.size w w1) := ⟨hc1, below_of_grown hg1⟩
  clear hc1 hg1
  obtain ⟨c, hcE⟩ : ∃ c, w.heap.size = c := ⟨_, rfl⟩
  have HW0 : Hid (w.heap.size = c) := hcE
  rw [hcE] at C1 ⊢
  clear hcE
  go_wp2_with fail
  refine (l1Below_wide W0 c len cap a0 9999 w1 C1.out.1 (by omega) (by omega)).mono ?_
  rintro e w2 ⟨x, rfl, -, hc2, hg2⟩
  have C2 : Hid (Cur w2 W0 c a0 len cap ∧ Below c w w2) := ⟨hc2, C1.out.2.trans (Below.grown (Below.refl _ _) hg2 (by have h9 := (C1.out.2).size; rw [HW0.out] at h9; exact h9) (fun k hk => by cases hk; exact Nat.le_refl _))⟩
  clear hc2 hg2 C1
  have IL : Hid (IntsAt (w2.alloc (.cells #[.int .i64 0, .int .i64 1, .int .i64 (-1), .int .i64 63, .int .i64 64, .int .i64 (-64), .int .i64 (-65), .int .i64 150, .int .i64 2000000000, .int .i64 2000000001, .int .i64 (-2000000000), .int .i64 (-2000000001), .int .i64 x] 3)) w2.heap.size 13 (zi [0, 1, -1, 63, 64, -64, -65, 150, 2000000000, 2000000001, -2000000000, -2000000001, x])) := ints_lit w2 [0, 1, -1, 63, 64, -64, -65, 150, 2000000000, 2000000001, -2000000000, -2000000001, x]
  have CA : Hid (Cur (w2.alloc (.cells #[.int .i64 0, .int .i64 1, .int .i64 (-1), .int .i64 63, .int .i64 64, .int .i64 (-64), .int .i64 (-65), .int .i64 150, .int .i64 2000000000, .int .i64 2000000001, .int .i64 (-2000000000), .int .i64 (-2000000001), .int .i64 x] 3)) W0 c a0 len cap ∧ Below c w (w2.alloc (.cells #[.int .i64 0, .int .i64 1, .int .i64 (-1), .int .i64 63, .int .i64 64, .int .i64 (-64), .int .i64 (-65), .int .i64 150, .int .i64 2000000000, .int .i64 2000000001, .int .i64 (-2000000000), .int .i64 (-2000000001), .int .i64 x] 3)) ∧ w2.heap.size < (w2.alloc (.cells #[.int .i64 0, .int .i64 1, .int .i64 (-1), .int .i64 63, .int .i64 64, .int .i64 (-64), .int .i64 (-65), .int .i64 150, .int .i64 2000000000, .int .i64 2000000001, .int .i64 (-2000000000), .int .i64 (-2000000001), .int .i64 x] 3)).heap.size ∧ c < w2.heap.size) := ⟨C2.out.1.alloc _, C2.out.2.alloc (Nat.le_of_lt C2.out.1.lt) _, by simp, C2.out.1.lt⟩
  clear C2
  go_wp2_with fail
  generalize w2.alloc (.cells #[.int .i64 0, .int .i64 1, .int .i64 (-1), .int .i64 63, .int .i64 64, .int .i64 (-64), .int .i64 (-65), .int .i64 150, .int .i64 2000000000, .int .i64 2000000001, .int .i64 (-2000000000), .int .i64 (-2000000001), .int .i64 x] 3) = wA at *
  generalize w2.heap.size = g at *
  refine (l1PickInt_any W0 c len cap g 13 13 a0 _ wA CA.out.1 (by omega) (by omega) CA.out.2.2.1 (by have := CA.out.2.2.2; omega) IL.out).mono ?_
  rintro e w3 ⟨y, rfl, -, hg3⟩
  have B3 : Hid (Below c w w3) := CA.out.2.1.trans (Below.grown (Below.refl _ _) hg3 (by have h9 := (CA.out.2.1).size; rw [HW0.out] at h9; exact h9) (fun k hk => by cases hk; exact Nat.le_refl _))
  go_wp2
  go_ret
  exact ⟨_, rfl, by rw [HW0.out]; exact B3.out⟩

/-- Bytes that are drawn, and a number. -/
def DrG (w : World) (e : Ending) (w' : World) : Prop := ∃ (a : Option Addr) (c : Nat) (ys : List Int) (k : Int), e = .returned (.tuple #[.slice a ys.length c, .int .i64 k]) ∧ OwnB w' w.heap.size (.slice a ys.length c) ys ∧ By ys ∧ ys.length ≤ 20 ∧ (-100 ≤ k ∧ k ≤ 100) ∧ Below w.heap.size w w'

set_option maxRecDepth 100000 in
set_option maxHeartbeats 4000000 in
theorem DrawGetNum_any (W0 len cap : Nat) (a0 : Option Addr) (w : World) (hB : BytesAt w W0 a0 len) (hW : W0 ≤ w.heap.size) (ln : len ≤ 1048576) :
    Calls Try.prog 12 #[.slice a0 len cap] w (DrG w) := by
  have HB : Hid (BytesAt w W0 a0 len) := hB
  clear hB
  go_enter Try.func12, Try.ntmps12
  go_wp2_with fail
  refine (l1New_any W0 len cap a0 w HB.out hW ln).mono ?_
  rintro e w1 ⟨rfl, hc1, hg1⟩
  have C1 : Hid (Cur w1 W0 w.heap.size a0 len cap ∧ Below w.heap.size w w1) := ⟨hc1, below_of_grown hg1⟩
  clear hc1 hg1
  obtain ⟨c, hcE⟩ : ∃ c, w.heap.size = c := ⟨_, rfl⟩
  have HW0 : Hid (w.heap.size = c) := hcE
  rw [hcE] at C1 ⊢
  clear hcE
  go_wp2_with fail
  refine (l1Below_wide W0 c len cap a0 300 w1 C1.out.1 (by omega) (by omega)).mono ?_
  rintro e w2 ⟨x, rfl, ⟨x0, x1⟩, hc2, hg2⟩
  have C2 : Hid (Cur w2 W0 c a0 len cap ∧ Below c w w2) := ⟨hc2, C1.out.2.trans (Below.grown (Below.refl _ _) hg2 (by have h9 := (C1.out.2).size; rw [HW0.out] at h9; exact h9) (fun k hk => by cases hk; exact Nat.le_refl _))⟩
  clear hc2 hg2 C1
  go_wp2_with fail
  refine (specPutNum_any (x - 100) w2).mono ?_
  rintro e w3 ⟨u3, rfl, o3, b3⟩
  obtain ⟨a3, c3, rfl, -⟩ := o3.form
  have hcl := C2.out.1.lt
  have K3 : Hid (Cur w3 W0 c a0 len cap ∧ Below c w w3 ∧ OwnB w3 (c + 1) (.slice a3 (puL (x - 100)).length c3) (puL (x - 100))) := ⟨C2.out.1.below b3, C2.out.2.trans (b3.mono (by have h9 := C2.out.2.size; rw [HW0.out] at h9; exact h9)), o3.mono (by omega)⟩
  clear o3 b3 C2 hcl
  have IL : Hid (IntsAt (w3.alloc (.cells #[.int .i64 5, .int .i64 99999, .int .i64 2000000000] 3)) w3.heap.size 3 (zi [5, 99999, 2000000000])) := ints_lit w3 [5, 99999, 2000000000]
  have CA : Hid (Cur (w3.alloc (.cells #[.int .i64 5, .int .i64 99999, .int .i64 2000000000] 3)) W0 c a0 len cap ∧ Below c w (w3.alloc (.cells #[.int .i64 5, .int .i64 99999, .int .i64 2000000000] 3)) ∧ OwnB (w3.alloc (.cells #[.int .i64 5, .int .i64 99999, .int .i64 2000000000] 3)) (c + 1) (.slice a3 (puL (x - 100)).length c3) (puL (x - 100)) ∧ w3.heap.size < (w3.alloc (.cells #[.int .i64 5, .int .i64 99999, .int .i64 2000000000] 3)).heap.size ∧ c < w3.heap.size) := ⟨K3.out.1.alloc _, K3.out.2.1.alloc (Nat.le_of_lt K3.out.1.lt) _, K3.out.2.2.below ((Below.refl _ _).alloc (Nat.le_refl _) _), by simp, K3.out.1.lt⟩
  clear K3
  go_wp2_with fail
  generalize w3.alloc (.cells #[.int .i64 5, .int .i64 99999, .int .i64 2000000000] 3) = wA at *
  generalize w3.heap.size = g at *
  refine (l1PickInt_any W0 c len cap g 3 3 a0 _ wA CA.out.1 (by omega) (by omega) CA.out.2.2.2.1 (by have := CA.out.2.2.2.2; omega) IL.out).mono ?_
  rintro e w4 ⟨y, rfl, hc4, hg4⟩
  have C4 : Hid (Cur w4 W0 c a0 len cap ∧ Below c w w4 ∧ OwnB w4 (c + 1) (.slice a3 (puL (x - 100)).length c3) (puL (x - 100))) := ⟨hc4, CA.out.2.1.trans (Below.grown (Below.refl _ _) hg4 (by have h9 := (CA.out.2.1).size; rw [HW0.out] at h9; exact h9) (fun k hk => by cases hk; exact Nat.le_refl _)), CA.out.2.2.1.kept hg4 (.inr (fun e => by have := (CA.out.2.2.1.lt c e).1; omega))⟩
  clear hc4 hg4 CA IL
  go_wp2_with fail
  refine (specPutNum_any y w4).mono ?_
  rintro e w5 ⟨u5, rfl, o5, b5⟩
  obtain ⟨ap, cp, rfl, sp⟩ := o5.form
  have hcl := C4.out.1.lt
  have hs5 := b5.size
  have C5 : Hid (Cur w5 W0 c a0 len cap ∧ Below c w w5 ∧ OwnB w5 (c + 1) (.slice a3 (puL (x - 100)).length c3) (puL (x - 100)) ∧ SlB w5 ap (puL y)) := ⟨C4.out.1.below b5, C4.out.2.1.trans (b5.mono (by have h9 := C4.out.2.1.size; rw [HW0.out] at h9; exact h9)), C4.out.2.2.below b5, sp⟩
  clear o5 b5 C4 sp
  have hl1 := puL_len (x - 100)
  have hl2 := puL_len y
  go_wp2_with (at_builtin; refine wpList_append_bytes w5 rfl _ _ rfl (c + 1) cp (.slice a3 (puL (x - 100)).length c3) ap (puL (x - 100)) (puL y) rfl rfl C5.out.2.2.1 C5.out.2.2.2 (by omega) (by omega) ?_; intro v6 w6 o6 g6 _; have B6 : Hid (Cur w6 W0 c a0 len cap ∧ OwnB w6 (c + 1) v6 (puL (x - 100) ++ puL y) ∧ Below c w w6) := ⟨C5.out.1.kept g6 (fun e => by have := (C5.out.2.2.1.lt c e.symm).1; omega) (fun k hk => by have := (C5.out.2.2.1.lt k hk).1; have := C5.out.1.ge; omega), o6, C5.out.2.1.trans (Below.grown (Below.refl _ _) g6 (by have h9 := C5.out.2.1.size; rw [HW0.out] at h9; omega) (fun k hk => by have := (C5.out.2.2.1.lt k hk).1; omega))⟩; clear o6 g6)
  clear C5
  refine (l1Below_any W0 c len cap a0 8 w6 B6.out.1 (by omega) (by omega)).mono ?_
  rintro e w7 ⟨s, rfl, ⟨s0, s1⟩, hc7, hg7⟩
  obtain ⟨a6, c6, rfl, -⟩ := B6.out.2.1.form
  have hll : (puL (x - 100) ++ puL y).length ≤ 10 := by rw [List.length_append]; omega
  have B7 : Hid (Cur w7 W0 c a0 len cap ∧ OwnB w7 (c + 1) (.slice a6 (puL (x - 100) ++ puL y).length c6) (puL (x - 100) ++ puL y) ∧ By (puL (x - 100) ++ puL y) ∧ Below c w w7) := ⟨hc7, B6.out.2.1.kept hg7 (.inr (fun e => by have := (B6.out.2.1.lt c e).1; omega)), By.app (puL_by _) (puL_by _), B6.out.2.2.trans (Below.grown (Below.refl _ _) hg7 (by have h9 := (B6.out.2.2).size; rw [HW0.out] at h9; exact h9) (fun k hk => by cases hk; exact Nat.le_refl _))⟩
  clear hc7 hg7 B6
  generalize puL (x - 100) ++ puL y = zs at *
  by_cases e0 : s = 0
  · have t0 : (s == 0) = true := by simp [e0]
    clear e0
    go_wp2_with fail
    refine (l1Byte_any W0 c len cap a0 w7 B7.out.1).mono ?_
    rintro e wD ⟨q, rfl, ⟨q0, q1⟩, hcD, hgD⟩
    have hqw : IntKind.u8.wrap q = q := by rw [IntKind.wrap_u8]; omega
    have BD : Hid (Cur wD W0 c a0 len cap ∧ OwnB wD (c + 1) (.slice a6 zs.length c6) zs ∧ Below c w wD) := ⟨hcD, B7.out.2.1.kept hgD (.inr (fun e => by have := (B7.out.2.1.lt c e).1; omega)), B7.out.2.2.2.trans (Below.grown (Below.refl _ _) hgD (by have h9 := (B7.out.2.2.2).size; rw [HW0.out] at h9; exact h9) (fun k hk => by cases hk; exact Nat.le_refl _))⟩
    have BY : Hid (By (zs ++ [128, q])) := By.app B7.out.2.2.1 (By.cons (by omega) (by_one ⟨q0, q1⟩))
    have HLZ : Hid ((zs ++ [128, q]).length ≤ 20) := by show (zs ++ [128, q]).length ≤ 20; rw [List.length_append]; simp only [List.length_cons, List.length_nil]; omega
    clear hcD hgD B7
    have OL : Hid (SlB (wD.alloc (.cells #[.int .u8 128, .int .u8 q] 5)) (some ⟨wD.heap.size, 0, none⟩) [128, q]) := (ownB_lit wD [128, q] (by simp)).sl2
    have CD : Hid (Cur (wD.alloc (.cells #[.int .u8 128, .int .u8 q] 5)) W0 c a0 len cap ∧ OwnB (wD.alloc (.cells #[.int .u8 128, .int .u8 q] 5)) (c + 1) (.slice a6 zs.length c6) zs ∧ Below c w (wD.alloc (.cells #[.int .u8 128, .int .u8 q] 5)) ∧ c + 1 ≤ (wD.alloc (.cells #[.int .u8 128, .int .u8 q] 5)).heap.size) := ⟨BD.out.1.alloc _, BD.out.2.1.below ((Below.refl _ _).alloc (Nat.le_refl _) _), BD.out.2.2.alloc (Nat.le_of_lt BD.out.1.lt) _, by have := BD.out.1.lt; simp; omega⟩
    clear BD
    go_wp2_with (at_builtin; refine wpList_append_bytes (wD.alloc (.cells #[.int .u8 128, .int .u8 q] 5)) rfl _ _ rfl (c + 1) 2 (.slice a6 zs.length c6) (some ⟨wD.heap.size, 0, none⟩) zs [128, q] rfl rfl CD.out.2.1 OL.out (by simp only [List.length_cons, List.length_nil]; omega) CD.out.2.2.2 ?_; intro vE wE oE gE _; generalize zs ++ [128, q] = ys at oE BY HLZ; have hL6 : (ys.length : Int) ≤ 20 := (by have := HLZ.out; omega); have BE : Hid (Cur wE W0 c a0 len cap ∧ OwnB wE (c + 1) vE ys ∧ Below c w wE) := ⟨CD.out.1.kept gE (fun e => by have := (CD.out.2.1.lt c e.symm).1; omega) (fun k hk => by have := (CD.out.2.1.lt k hk).1; have := CD.out.1.ge; omega), oE, CD.out.2.2.1.trans (Below.grown (Below.refl _ _) gE (by have := CD.out.2.2.2; omega) (fun k hk => by have := (CD.out.2.1.lt k hk).1; omega))⟩; obtain ⟨a5, c5, rfl, -⟩ := oE.form; clear oE gE)
    clear CD OL
    have BS : Hid (Cur wE W0 c a0 len cap ∧ OwnB wE (c + 1) (.slice a5 ys.length c5) ys ∧ ys.length ≤ 20 ∧ By ys ∧ Below c w wE) := ⟨BE.out.1, BE.out.2.1, HLZ.out, BY.out, BE.out.2.2⟩
    clear BE BY HLZ
    have hL5 := BS.out.2.2.1
    refine (l1Below_any W0 c len cap a0 ((ys.length : Int) + 1) wE BS.out.1 (by omega) (by omega)).mono ?_
    rintro e w8 ⟨x8, rfl, ⟨x80, x81⟩, hc8, hg8⟩
    have B8 : Hid (Cur w8 W0 c a0 len cap ∧ OwnB w8 (c + 1) (.slice a5 ys.length c5) ys ∧ By ys ∧ Below c w w8) := ⟨hc8, BS.out.2.1.kept hg8 (.inr (fun e => by have := (BS.out.2.1.lt c e).1; omega)), BS.out.2.2.2.1, BS.out.2.2.2.2.trans (Below.grown (Below.refl _ _) hg8 (by have h9 := (BS.out.2.2.2.2).size; rw [HW0.out] at h9; exact h9) (fun k hk => by cases hk; exact Nat.le_refl _))⟩
    clear hc8 hg8 BS
    go_wp2_with fail
    refine (l1Below_any W0 c len cap a0 20 w8 B8.out.1 (by omega) (by omega)).mono ?_
    rintro e w9 ⟨x9, rfl, ⟨x90, x91⟩, hc9, hg9⟩
    have B9 : Hid (OwnB w9 (c + 1) (.slice a5 ys.length c5) ys ∧ By ys ∧ Below c w w9) := ⟨B8.out.2.1.kept hg9 (.inr (fun e => by have := (B8.out.2.1.lt c e).1; omega)), B8.out.2.2.1, B8.out.2.2.2.trans (Below.grown (Below.refl _ _) hg9 (by have h9 := (B8.out.2.2.2).size; rw [HW0.out] at h9; exact h9) (fun k hk => by cases hk; exact Nat.le_refl _))⟩
    clear hc9 hg9 B8
    go_wp2
    refine bodyPost_ret (v := .tuple #[.slice a5 ys.length c5, .int .i64 (x8 - x9 / 19)]) (by simp [results, Try.results12, go_sem]) rfl ⟨a5, c5, ys, _, rfl, ?_, B9.out.2.1, hL5, by omega, by rw [HW0.out]; exact B9.out.2.2⟩
    rw [HW0.out]
    exact B9.out.1.mono (by omega)
  · have t0 : (s == 0) = false := by simp [e0]
    by_cases e1 : s = 1
    · have t1 : (s == 1) = true := by simp [e1]
      clear e0 e1
      have IL : Hid (IntsAt (w7.alloc (.cells #[.int .i64 7, .int .i64 14, .int .i64 15, .int .i64 127, .int .i64 128] 3)) w7.heap.size 5 (zi [7, 14, 15, 127, 128])) := ints_lit w7 [7, 14, 15, 127, 128]
      have CA : Hid (Cur (w7.alloc (.cells #[.int .i64 7, .int .i64 14, .int .i64 15, .int .i64 127, .int .i64 128] 3)) W0 c a0 len cap ∧ Below c w (w7.alloc (.cells #[.int .i64 7, .int .i64 14, .int .i64 15, .int .i64 127, .int .i64 128] 3)) ∧ w7.heap.size < (w7.alloc (.cells #[.int .i64 7, .int .i64 14, .int .i64 15, .int .i64 127, .int .i64 128] 3)).heap.size ∧ c < w7.heap.size) := ⟨B7.out.1.alloc _, B7.out.2.2.2.alloc (Nat.le_of_lt B7.out.1.lt) _, by simp, B7.out.1.lt⟩
      clear B7
      go_wp2_with fail
      generalize w7.alloc (.cells #[.int .i64 7, .int .i64 14, .int .i64 15, .int .i64 127, .int .i64 128] 3) = wA at *
      generalize w7.heap.size = g at *
      refine (l1PickInt_of W0 c len cap g 5 5 a0 _ wA CA.out.1 (by omega) (by omega) CA.out.2.2.1 (by have := CA.out.2.2.2; omega) IL.out).mono ?_
      rintro e wD ⟨kk, hkk, rfl, hcD, hgD⟩
      have hq : 0 ≤ zi [7, 14, 15, 127, 128] kk ∧ zi [7, 14, 15, 127, 128] kk ≤ 255 := by
        match kk, hkk with
        | 0, _ => decide
        | 1, _ => decide
        | 2, _ => decide
        | 3, _ => decide
        | 4, _ => decide
      generalize zi [7, 14, 15, 127, 128] kk = q at *
      obtain ⟨q0, q1⟩ := hq
      have hqw : IntKind.u8.wrap q = q := by rw [IntKind.wrap_u8]; omega
      have BS0 : Hid (Cur (wD.alloc (.cells #[.int .u8 255, .int .u8 255, .int .u8 255, .int .u8 255, .int .u8 q, .int .u8 1] 5)) W0 c a0 len cap ∧ OwnB (wD.alloc (.cells #[.int .u8 255, .int .u8 255, .int .u8 255, .int .u8 255, .int .u8 q, .int .u8 1] 5)) (c + 1) (.slice (some ⟨wD.heap.size, 0, none⟩) 6 6) [255, 255, 255, 255, q, 1] ∧ [255, 255, 255, 255, q, 1].length ≤ 20 ∧ By [255, 255, 255, 255, q, 1] ∧ Below c w (wD.alloc (.cells #[.int .u8 255, .int .u8 255, .int .u8 255, .int .u8 255, .int .u8 q, .int .u8 1] 5))) := ⟨hcD.alloc _, (ownB_lit wD [255, 255, 255, 255, q, 1] (by simp)).mono (by have := hcD.lt; omega), by simp, By.cons (by omega) (By.cons (by omega) (By.cons (by omega) (By.cons (by omega) (By.cons ⟨q0, q1⟩ (by_one (by omega)))))), (CA.out.2.1.trans (Below.grown (Below.refl _ _) hgD (by have h9 := (CA.out.2.1).size; rw [HW0.out] at h9; exact h9) (fun k hk => by cases hk; exact Nat.le_refl _))).alloc (Nat.le_of_lt hcD.lt) _⟩
      clear hcD hgD CA IL
      go_upto_region 8 with fail
      generalize wD.alloc (.cells #[.int .u8 255, .int .u8 255, .int .u8 255, .int .u8 255, .int .u8 q, .int .u8 1] 5) = wE at *
      obtain ⟨a5, c5, ys, ey, BS⟩ : ∃ (a5 : Option Addr) (c5 : Nat) (ys : List Int), (Value.slice (some ⟨wD.heap.size, 0, none⟩) 6 6 = .slice a5 ys.length c5) ∧ Hid (Cur wE W0 c a0 len cap ∧ OwnB wE (c + 1) (.slice a5 ys.length c5) ys ∧ ys.length ≤ 20 ∧ By ys ∧ Below c w wE) := ⟨_, _, _, rfl, BS0.out⟩
      rw [ey]
      clear ey BS0
      have hL5 := BS.out.2.2.1
      have hL6 : (ys.length : Int) ≤ 20 := by omega
      go_wp2_with fail
      refine (l1Below_any W0 c len cap a0 ((ys.length : Int) + 1) wE BS.out.1 (by omega) (by omega)).mono ?_
      rintro e w8 ⟨x8, rfl, ⟨x80, x81⟩, hc8, hg8⟩
      have B8 : Hid (Cur w8 W0 c a0 len cap ∧ OwnB w8 (c + 1) (.slice a5 ys.length c5) ys ∧ By ys ∧ Below c w w8) := ⟨hc8, BS.out.2.1.kept hg8 (.inr (fun e => by have := (BS.out.2.1.lt c e).1; omega)), BS.out.2.2.2.1, BS.out.2.2.2.2.trans (Below.grown (Below.refl _ _) hg8 (by have h9 := (BS.out.2.2.2.2).size; rw [HW0.out] at h9; exact h9) (fun k hk => by cases hk; exact Nat.le_refl _))⟩
      clear hc8 hg8 BS
      go_wp2_with fail
      refine (l1Below_any W0 c len cap a0 20 w8 B8.out.1 (by omega) (by omega)).mono ?_
      rintro e w9 ⟨x9, rfl, ⟨x90, x91⟩, hc9, hg9⟩
      have B9 : Hid (OwnB w9 (c + 1) (.slice a5 ys.length c5) ys ∧ By ys ∧ Below c w w9) := ⟨B8.out.2.1.kept hg9 (.inr (fun e => by have := (B8.out.2.1.lt c e).1; omega)), B8.out.2.2.1, B8.out.2.2.2.trans (Below.grown (Below.refl _ _) hg9 (by have h9 := (B8.out.2.2.2).size; rw [HW0.out] at h9; exact h9) (fun k hk => by cases hk; exact Nat.le_refl _))⟩
      clear hc9 hg9 B8
      go_wp2
      refine bodyPost_ret (v := .tuple #[.slice a5 ys.length c5, .int .i64 (x8 - x9 / 19)]) (by simp [results, Try.results12, go_sem]) rfl ⟨a5, c5, ys, _, rfl, ?_, B9.out.2.1, hL5, by omega, by rw [HW0.out]; exact B9.out.2.2⟩
      rw [HW0.out]
      exact B9.out.1.mono (by omega)
    · have t1 : (s == 1) = false := by simp [e1]
      clear e0 e1
      have BS : Hid (Cur w7 W0 c a0 len cap ∧ OwnB w7 (c + 1) (.slice a6 zs.length c6) zs ∧ zs.length ≤ 20 ∧ By zs ∧ Below c w w7) := ⟨B7.out.1, B7.out.2.1, by omega, B7.out.2.2.1, B7.out.2.2.2⟩
      clear B7
      go_upto_region 8 with fail
      have hL5 := BS.out.2.2.1
      have hL6 : (zs.length : Int) ≤ 20 := by omega
      go_wp2_with fail
      refine (l1Below_any W0 c len cap a0 ((zs.length : Int) + 1) w7 BS.out.1 (by omega) (by omega)).mono ?_
      rintro e w8 ⟨x8, rfl, ⟨x80, x81⟩, hc8, hg8⟩
      have B8 : Hid (Cur w8 W0 c a0 len cap ∧ OwnB w8 (c + 1) (.slice a6 zs.length c6) zs ∧ By zs ∧ Below c w w8) := ⟨hc8, BS.out.2.1.kept hg8 (.inr (fun e => by have := (BS.out.2.1.lt c e).1; omega)), BS.out.2.2.2.1, BS.out.2.2.2.2.trans (Below.grown (Below.refl _ _) hg8 (by have h9 := (BS.out.2.2.2.2).size; rw [HW0.out] at h9; exact h9) (fun k hk => by cases hk; exact Nat.le_refl _))⟩
      clear hc8 hg8 BS
      go_wp2_with fail
      refine (l1Below_any W0 c len cap a0 20 w8 B8.out.1 (by omega) (by omega)).mono ?_
      rintro e w9 ⟨x9, rfl, ⟨x90, x91⟩, hc9, hg9⟩
      have B9 : Hid (OwnB w9 (c + 1) (.slice a6 zs.length c6) zs ∧ By zs ∧ Below c w w9) := ⟨B8.out.2.1.kept hg9 (.inr (fun e => by have := (B8.out.2.1.lt c e).1; omega)), B8.out.2.2.1, B8.out.2.2.2.trans (Below.grown (Below.refl _ _) hg9 (by have h9 := (B8.out.2.2.2).size; rw [HW0.out] at h9; exact h9) (fun k hk => by cases hk; exact Nat.le_refl _))⟩
      clear hc9 hg9 B8
      go_wp2
      refine bodyPost_ret (v := .tuple #[.slice a6 zs.length c6, .int .i64 (x8 - x9 / 19)]) (by simp [results, Try.results12, go_sem]) rfl ⟨a6, c6, zs, _, rfl, ?_, B9.out.2.1, hL5, by omega, by rw [HW0.out]; exact B9.out.2.2⟩
      rw [HW0.out]
      exact B9.out.1.mono (by omega)

end Go.Proofs.Ytpgmgdoejmhamaa
