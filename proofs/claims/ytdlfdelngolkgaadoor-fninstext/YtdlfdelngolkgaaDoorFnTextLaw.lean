/- Proved: whatever bytes a place and a line are drawn from, the place is written as the model writes it, its line is empty just if it is not right, and is read as it was; the drawn line is read just if the model reads it, and what is read is written as that line. The row lists the package-level variables that are met, as their text lays them, and the card ties them to it. -/
import Derived.Test.YtdlfdelngolkgaaDoorDrawT
import Derived.Test.YtdlfdelngolkgaaDoorReadLaw
namespace Go.Proofs.YtdlfdelngolkgaaDoor
open Go.ChangeShapes Go.WideShapes Go.ChangeAt Go.RowKit Go.Sort

set_option maxHeartbeats 400000 in
theorem big_any (a0 : Option Addr) (len cap : Nat) (w : World) :
    Calls Tryd.prog 5 #[.slice a0 len cap] w fun e w' => e = .returned (.bool (decide ((1048576 : Int) < len))) ∧ w' = w := by
  go_enter Tryd.func5, Tryd.ntmps5
  go_wp2
  go_ret
  exact ⟨rfl, rfl⟩

set_option maxHeartbeats 400000 in
theorem fnText_big (a0 : Option Addr) (len cap : Nat) (w : World) (hl : 1048576 < len) :
    Calls Tryd.prog 3 #[.slice a0 len cap] w fun e w' => e = .returned (.bool true) ∧ Below w.heap.size w w' := by
  have hl' : (1048576 : Int) < (len : Int) := by omega
  go_enter Tryd.func3, Tryd.ntmps3
  go_wp2_with fail
  refine (big_any a0 len cap _).mono ?_
  rintro e w0 ⟨rfl, rfl⟩
  go_wp2
  go_ret
  exact ⟨rfl, Below.refl _ _⟩

theorem below_of_grown {w w' : World} (h : w.grownBy w' none) : Below w.heap.size w w' := ⟨h.os, h.tape, h.output, h.size, fun k hk => h.block k hk (by simp)⟩

theorem word_ne (k : Nat) (h1 : 1 ≤ k) (h2 : k ≤ 11) : 0 < (wordT k).size := by
  match k, h1, h2 with
  | 1, _, _ => decide
  | 2, _, _ => decide
  | 3, _, _ => decide
  | 4, _, _ => decide
  | 5, _, _ => decide
  | 6, _, _ => decide
  | 7, _, _ => decide
  | 8, _, _ => decide
  | 9, _, _ => decide
  | 10, _, _ => decide
  | 11, _, _ => decide
theorem line_ne (k : Nat) (h1 : 1 ≤ k) (h2 : k ≤ 11) (z : Nat → Int) : ∀ m, 0 < (lineTo k z m).size
  | 0 => word_ne k h1 h2
  | m + 1 => by
    have := line_ne k h1 h2 z m
    rw [lineTo, ByteArray.size_append]
    omega
/-- The text of a place that is right is not empty. -/
theorem text_ne {o r a b n : Int} (h : insOkB o r a b n 30 4 = true) : (insTextB o r a b n).data.toList ≠ [] := by
  obtain ⟨_, _, _, _, o1, o2⟩ := ok_fit h
  rw [insTextB, if_pos h]
  intro he
  have hz : (textT o r a b n).size = 0 := by rw [Lib.size_eq, he]; rfl
  unfold textT at hz
  split at hz
  · have := line_ne 1 (by omega) (by omega) (nums [r, n]) 2; omega
  split at hz
  · have := line_ne 6 (by omega) (by omega) (nums [n, a]) 2; omega
  split at hz
  · split at hz
    · have := line_ne 7 (by omega) (by omega) (nums [r]) 1
      rw [ByteArray.size_append, ByteArray.size_append] at hz
      omega
    · have := line_ne 7 (by omega) (by omega) (nums [r, n]) 2; omega
  split at hz
  · have := line_ne 8 (by omega) (by omega) (nums [a]) 1; omega
  split at hz
  · have := line_ne 9 (by omega) (by omega) (nums [n]) 1; omega
  split at hz
  · have := line_ne 10 (by omega) (by omega) (nums [a, n]) 2; omega
  split at hz
  · have := line_ne 11 (by omega) (by omega) (nums []) 0; omega
  · have := line_ne o.toNat (by omega) (by omega) (nums [r, a, b]) 3; omega
theorem isEmpty_no {s : ByteArray} (h : s.data.toList ≠ []) : s.toList.isEmpty = false := by
  rw [Lib.toList_data]
  cases hh : s.data.toList
  · exact absurd hh h
  · rfl

/-- InsRead of the text of a place that is right. -/
theorem readR_text {o r a b n : Int} {e : Ending} (h : insOkB o r a b n 30 4 = true) (he : ReadR (insTextB o r a b n) e) : e = .returned (.tuple #[insV o r a b n, .bool true]) := by
  have hr : ReadOf (insTextB o r a b n) ⟨o, r, a, b, n⟩ := ⟨text_ne h, rfl⟩
  exact readR_same ⟨true, ⟨o, r, a, b, n⟩, rfl, fun _ => hr, (fun h => by cases h)⟩ he

set_option maxRecDepth 100000 in
set_option maxHeartbeats 4000000 in
theorem fnText_small (a0 : Option Addr) (len cap : Nat) (w : World) (hE : Env2 w) (hS : ∀ s : ByteArray, s.size ≤ 1048576 → ∀ w, Calls Tryd.prog 12 #[.string s] w fun e w' => ReadR s e ∧ Below w.heap.size w w') (hl : len ≤ 1048576) (hB : BytesAt w w.heap.size a0 len) :
    Calls Tryd.prog 3 #[.slice a0 len cap] w fun e w' => e = .returned (.bool true) ∧ Below w.heap.size w w' := by
  have HE : Hid (Env2 w) := hE
  have HS : Hid (∀ s : ByteArray, s.size ≤ 1048576 → ∀ w, Calls Tryd.prog 12 #[.string s] w fun e w' => ReadR s e ∧ Below w.heap.size w w') := hS
  have hl' : ¬ (1048576 : Int) < (len : Int) := by omega
  have HB : Hid (BytesAt w w.heap.size a0 len) := hB
  clear hB hE hS
  go_enter Tryd.func3, Tryd.ntmps3
  go_wp2_with fail
  refine (big_any a0 len cap _).mono ?_
  rintro e w0 ⟨rfl, rfl⟩
  go_wp2_with fail
  refine (DrawInsText_any _ len cap a0 _ HB.out (Nat.le_refl _) hl).mono ?_
  rintro e w1 ⟨o, r, a, b, n, rfl, hg1⟩
  have B1 : Hid (Below w0.heap.size w0 w1) := below_of_grown hg1
  have s1 := hg1.size
  clear hg1
  go_wp2_with fail
  refine (implInsText_any _ _ _ _ _ _ (env_alloc (HE.out.self B1.out).env _)).mono ?_
  rintro e w2 ⟨rfl, hb2⟩
  have B2 : Hid (Below w0.heap.size w0 w2) := (B1.out.alloc s1 _).trans (hb2.mono (by simp; omega))
  have s2 := B2.out.size
  have z2 : w1.heap.size < w2.heap.size := by have := hb2.size; simp at this; omega
  have d0 : w2.cell? ⟨w1.heap.size, 0, none⟩ = some (.int .i64 o) := by rw [hb2.cell (by simp)]; simp
  have d1 : w2.cell? ⟨w1.heap.size, 1, none⟩ = some (.int .i64 r) := by rw [hb2.cell (by simp)]; simp
  have d2 : w2.cell? ⟨w1.heap.size, 2, none⟩ = some (.int .i64 a) := by rw [hb2.cell (by simp)]; simp
  have d3 : w2.cell? ⟨w1.heap.size, 3, none⟩ = some (.int .i64 b) := by rw [hb2.cell (by simp)]; simp
  have d4 : w2.cell? ⟨w1.heap.size, 4, none⟩ = some (.int .i64 n) := by rw [hb2.cell (by simp)]; simp
  clear hb2
  go_wp2_with fail
  refine (specInsText_any _ _ _ _ _ _).mono ?_
  rintro e w3 ⟨rfl, hb3⟩
  have B3 : Hid (Below w0.heap.size w0 w3) := B2.out.trans (hb3.mono s2)
  have s3 := B3.out.size
  have z3 : w1.heap.size < w3.heap.size := by have := hb3.size; omega
  have f0 := (hb3.cell (p := ⟨w1.heap.size, 0, none⟩) z2).trans d0
  have f1 := (hb3.cell (p := ⟨w1.heap.size, 1, none⟩) z2).trans d1
  have f2 := (hb3.cell (p := ⟨w1.heap.size, 2, none⟩) z2).trans d2
  have f3 := (hb3.cell (p := ⟨w1.heap.size, 3, none⟩) z2).trans d3
  have f4 := (hb3.cell (p := ⟨w1.heap.size, 4, none⟩) z2).trans d4
  have hsz := insTextB_size o r a b n
  clear hb3 d0 d1 d2 d3 d4 B1 B2
  rcases Bool.eq_false_or_eq_true (insOkB o r a b n 30 4) with hok | hok
  · have te : (insTextB o r a b n).toList.isEmpty = false := isEmpty_no (text_ne hok)
    go_wp2_with fail
    refine (implInsOk_any _ _ _ _ _ _ _ _).mono ?_
    rintro e w4 ⟨rfl, hb4⟩
    have B4 : Hid (Below w0.heap.size w0 w4) := B3.out.trans (hb4.mono s3)
    have s4 := B4.out.size
    have z4 : w1.heap.size < w4.heap.size := by have := hb4.size; omega
    have g0 := (hb4.cell (p := ⟨w1.heap.size, 0, none⟩) z3).trans f0
    have g1 := (hb4.cell (p := ⟨w1.heap.size, 1, none⟩) z3).trans f1
    have g2 := (hb4.cell (p := ⟨w1.heap.size, 2, none⟩) z3).trans f2
    have g3 := (hb4.cell (p := ⟨w1.heap.size, 3, none⟩) z3).trans f3
    have g4 := (hb4.cell (p := ⟨w1.heap.size, 4, none⟩) z3).trans f4
    clear hb4 f0 f1 f2 f3 f4
    go_wp2_with fail
    refine (implInsRead_any _ _ (HE.out.self B4.out) (by omega)).mono ?_
    rintro e w5 ⟨hr5, hb5⟩
    obtain rfl := readR_text hok hr5
    have B5 : Hid (Below w0.heap.size w0 w5) := B4.out.trans (hb5.mono s4)
    have s5 := B5.out.size
    have h0 := (hb5.cell (p := ⟨w1.heap.size, 0, none⟩) z4).trans g0
    have h1 := (hb5.cell (p := ⟨w1.heap.size, 1, none⟩) z4).trans g1
    have h2 := (hb5.cell (p := ⟨w1.heap.size, 2, none⟩) z4).trans g2
    have h3 := (hb5.cell (p := ⟨w1.heap.size, 3, none⟩) z4).trans g3
    have h4 := (hb5.cell (p := ⟨w1.heap.size, 4, none⟩) z4).trans g4
    have z5 : w1.heap.size < w5.heap.size := by have := hb5.size; omega
    have z6 : ¬ w5.heap.size = w1.heap.size := by omega
    clear hb5 hr5 g0 g1 g2 g3 g4
    go_wp2_with fail
    refine (DrawInsRead_any w0.heap.size len cap a0 _ (HB.out.kept fun j hj => (B5.out.alloc s5 _).block j hj) (by simp; omega) hl).mono ?_
    rintro e w7 ⟨l, rfl, hl7, hg7⟩
    have B7 : Hid (Below w0.heap.size w0 w7) := (B5.out.alloc s5 _).trans ((below_of_grown hg7).mono (by simp; omega))
    have s7 := B7.out.size
    clear hg7 B5
    go_wp2_with fail
    refine (implInsRead_any l _ (HE.out.self B7.out) (by omega)).mono ?_
    rintro e w8 ⟨hr8, hb8⟩
    obtain ⟨t, y, rfl, hy⟩ := id hr8
    have HR8 : Hid (ReadR l (.returned (.tuple #[insV5 y, .bool t]))) := hr8
    have HY8 : Hid ((t = true → ReadOf l y) ∧ (t = false → y = zero5 ∧ ∀ z, ¬ ReadOf l z)) := hy
    have B8 : Hid (Below w0.heap.size w0 w8) := B7.out.trans (hb8.mono s7)
    have s8 := B8.out.size
    clear hr8 hy hb8 B7
    rw [insV5]
    go_wp2_with fail
    refine (HS.out l (by omega) _).mono ?_
    rintro e w9 ⟨hr9, hb9⟩
    obtain rfl := readR_same HR8.out hr9
    have y0 : w9.cell? ⟨w8.heap.size, 0, none⟩ = some (.int .i64 y.o) := by rw [hb9.cell (by simp)]; simp
    have y1 : w9.cell? ⟨w8.heap.size, 1, none⟩ = some (.int .i64 y.r) := by rw [hb9.cell (by simp)]; simp
    have y2 : w9.cell? ⟨w8.heap.size, 2, none⟩ = some (.int .i64 y.a) := by rw [hb9.cell (by simp)]; simp
    have y3 : w9.cell? ⟨w8.heap.size, 3, none⟩ = some (.int .i64 y.b) := by rw [hb9.cell (by simp)]; simp
    have y4 : w9.cell? ⟨w8.heap.size, 4, none⟩ = some (.int .i64 y.n) := by rw [hb9.cell (by simp)]; simp
    have B9 : Hid (Below w0.heap.size w0 w9) := (B8.out.alloc s8 _).trans (hb9.mono (by simp; omega))
    have s9 := B9.out.size
    have hz9 : w8.heap.size < w9.heap.size := by have := hb9.size; simp at this; omega
    have hz9' : ¬ w9.heap.size = w8.heap.size := by omega
    clear hr9 hb9 B8 HR8
    rw [insV5]
    cases t with
    | false =>
      have ey := (HY8.out.2 rfl).1
      subst ey
      simp only [zero5] at y0 y1 y2 y3 y4
      go_wp2
      go_ret
      exact ⟨rfl, B9.out.alloc s9 _⟩
    | true =>
      have HQ : Hid (insTextB y.o y.r y.a y.b y.n = l) := (HY8.out.1 rfl).2
      go_wp2_with fail
      refine (implInsText_any _ _ _ _ _ _ (env_alloc (HE.out.self B9.out).env _)).mono ?_
      rintro e w10 ⟨rfl, hb10⟩
      rw [HQ.out]
      go_wp2
      go_ret
      exact ⟨rfl, (B9.out.alloc s9 _).trans (hb10.mono (by simp; omega))⟩
  · have he : insTextB o r a b n = ⟨#[]⟩ := by rw [insTextB, if_neg (by rw [hok]; decide)]
    rw [he]
    have te : (⟨#[]⟩ : ByteArray).toList.isEmpty = true := by rw [Lib.toList_data]; rfl
    go_wp2_with fail
    refine (implInsOk_any _ _ _ _ _ _ _ _).mono ?_
    rintro e w4 ⟨rfl, hb4⟩
    have B4 : Hid (Below w0.heap.size w0 w4) := B3.out.trans (hb4.mono s3)
    have s4 := B4.out.size
    clear hb4 f0 f1 f2 f3 f4
    go_wp2_with fail
    refine (implInsRead_any _ _ (HE.out.self B4.out) (by decide)).mono ?_
    rintro e w5 ⟨hr5, hb5⟩
    obtain ⟨tb, xb, rfl, -⟩ := id hr5
    have B5 : Hid (Below w0.heap.size w0 w5) := B4.out.trans (hb5.mono s4)
    have s5 := B5.out.size
    clear hb5 hr5
    rw [insV5]
    go_wp2_with fail
    refine (DrawInsRead_any w0.heap.size len cap a0 _ (HB.out.kept fun j hj => (B5.out.alloc s5 _).block j hj) (by simp; omega) hl).mono ?_
    rintro e w7 ⟨l, rfl, hl7, hg7⟩
    have B7 : Hid (Below w0.heap.size w0 w7) := (B5.out.alloc s5 _).trans ((below_of_grown hg7).mono (by simp; omega))
    have s7 := B7.out.size
    clear hg7 B5
    go_wp2_with fail
    refine (implInsRead_any l _ (HE.out.self B7.out) (by omega)).mono ?_
    rintro e w8 ⟨hr8, hb8⟩
    obtain ⟨t, y, rfl, hy⟩ := id hr8
    have HR8 : Hid (ReadR l (.returned (.tuple #[insV5 y, .bool t]))) := hr8
    have HY8 : Hid ((t = true → ReadOf l y) ∧ (t = false → y = zero5 ∧ ∀ z, ¬ ReadOf l z)) := hy
    have B8 : Hid (Below w0.heap.size w0 w8) := B7.out.trans (hb8.mono s7)
    have s8 := B8.out.size
    clear hr8 hy hb8 B7
    rw [insV5]
    go_wp2_with fail
    refine (HS.out l (by omega) _).mono ?_
    rintro e w9 ⟨hr9, hb9⟩
    obtain rfl := readR_same HR8.out hr9
    have y0 : w9.cell? ⟨w8.heap.size, 0, none⟩ = some (.int .i64 y.o) := by rw [hb9.cell (by simp)]; simp
    have y1 : w9.cell? ⟨w8.heap.size, 1, none⟩ = some (.int .i64 y.r) := by rw [hb9.cell (by simp)]; simp
    have y2 : w9.cell? ⟨w8.heap.size, 2, none⟩ = some (.int .i64 y.a) := by rw [hb9.cell (by simp)]; simp
    have y3 : w9.cell? ⟨w8.heap.size, 3, none⟩ = some (.int .i64 y.b) := by rw [hb9.cell (by simp)]; simp
    have y4 : w9.cell? ⟨w8.heap.size, 4, none⟩ = some (.int .i64 y.n) := by rw [hb9.cell (by simp)]; simp
    have B9 : Hid (Below w0.heap.size w0 w9) := (B8.out.alloc s8 _).trans (hb9.mono (by simp; omega))
    have s9 := B9.out.size
    have hz9 : w8.heap.size < w9.heap.size := by have := hb9.size; simp at this; omega
    have hz9' : ¬ w9.heap.size = w8.heap.size := by omega
    clear hr9 hb9 B8 HR8
    rw [insV5]
    cases t with
    | false =>
      have ey := (HY8.out.2 rfl).1
      subst ey
      simp only [zero5] at y0 y1 y2 y3 y4
      go_wp2
      go_ret
      exact ⟨rfl, B9.out.alloc s9 _⟩
    | true =>
      have HQ : Hid (insTextB y.o y.r y.a y.b y.n = l) := (HY8.out.1 rfl).2
      go_wp2_with fail
      refine (implInsText_any _ _ _ _ _ _ (env_alloc (HE.out.self B9.out).env _)).mono ?_
      rintro e w10 ⟨rfl, hb10⟩
      rw [HQ.out]
      go_wp2
      go_ret
      exact ⟨rfl, (B9.out.alloc s9 _).trans (hb10.mono (by simp; omega))⟩

end Go.Proofs.YtdlfdelngolkgaaDoor
