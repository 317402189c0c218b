/- The walks of the draws of a place and of a line. -/
import Derived.Test.YtdlfdelngolkgaaDoorDrawB
import Derived.Test.YtdlfdelngolkgaaDoorReadU0
namespace Go.Proofs.YtdlfdelngolkgaaDoor
open Go.RowKit Go.Sort

theorem grown_drew {w w' : World} {row : Option Nat} (h : w.grownBy w' row) : w.grownBy w'.drew row := ⟨h.os, h.tape, h.output, h.size, h.block⟩
theorem grown_new {w w1 w2 : World} {c : Nat} (h : w.grownBy w1 none) (k : w1.grownBy w2 (some c)) (hc : w.heap.size ≤ c) : w.grownBy w2 none :=
  h.andThen k (fun j hj => by cases hj; exact .inl hc)
theorem set_block (w : World) (X j : Nat) (cs : Array Value) (t : TypeId) (v : Value) (h : w.heap[X]? = some (.cells cs t (0, 0))) : (w.setCell ⟨X, j, none⟩ v).heap[X]? = some (.cells (cs.setIfInBounds j v) t (0, 0)) := by
  simp [World.setCell, Array.getElem?_modify, h]
theorem five_put5 {w : World} {X : Nat} {o r a b n : Int} (h : Five w X o r a b n) (o' r' a' b' n' : Int) : Five (put5 w X o' r' a' b' n') X o' r' a' b' n' := by
  have h1 := set_block _ _ 0 _ _ (.int .i64 o') h
  have h2 := set_block _ _ 1 _ _ (.int .i64 r') h1
  have h3 := set_block _ _ 2 _ _ (.int .i64 a') h2
  have h4 := set_block _ _ 3 _ _ (.int .i64 b') h3
  have h5 := set_block _ _ 4 _ _ (.int .i64 n') h4
  exact h5
theorem five_other {w : World} {X N : Nat} {o r a b n : Int} (h : Five w N o r a b n) (hne : N ≠ X) (o' r' a' b' n' : Int) : Five (put5 w X o' r' a' b' n') N o r a b n := by
  unfold Five at h ⊢
  rw [put5, Below.heap_setCell _ _ _ _ hne, Below.heap_setCell _ _ _ _ hne, Below.heap_setCell _ _ _ _ hne, Below.heap_setCell _ _ _ _ hne, Below.heap_setCell _ _ _ _ hne]
  exact h
/-- Where the walk stands still, at a load. -/
def STOP2 (p : Prop) : Prop := p
theorem load_stop {P : Program} {ops : Array Oper} {rest : List Oper} {op : Oper} {act : Act} {Q : Exit → Act → World → Prop} {w : World} {t : TypeId} {k : Nat} (_ : op.op = .load t (.tmp k)) (h : STOP2 (wpList P ops Q (op :: rest) act w)) : wpList P ops Q (op :: rest) act w := h
theorem grown_of_below {w w' : World} (h : Below w.heap.size w w') : w.grownBy w' none := ⟨h.os, h.tape, h.output, h.size, fun j hj _ => h.block j hj⟩

set_option maxRecDepth 100000 in
set_option maxHeartbeats 1000000 in
theorem DrawInsText_any (W0 len cap : Nat) (a0 : Option Addr) (w : World) (hB : BytesAt w W0 a0 len) (hW : W0 ≤ w.heap.size) (ln : len ≤ 1048576) :
    Calls Tryd.prog 6 #[.slice a0 len cap] w fun e w' => ∃ o r a b n : Int, e = .returned (insV o r a b n) ∧ w.grownBy w' none := by
  have HB : Hid (BytesAt w W0 a0 len) := hB
  clear hB
  go_enter Tryd.func6, Tryd.ntmps6
  go_wp2_with fail
  have HN0 : Hid (Five (w.alloc (.cells #[.int .i64 0, .int .i64 0, .int .i64 0, .int .i64 0, .int .i64 0] 25)) w.heap.size 0 0 0 0 0) := heap_alloc_new w _
  refine (l1New_any W0 len cap a0 _ (HB.out.kept fun j hj => Below.heap_alloc w _ j (by omega)) (by simp; omega) ln).mono ?_
  rintro e w1 ⟨rfl, hc1, hg1⟩
  rw [World.size_alloc] at hc1
  have HC1 : Hid (Cur w1 W0 (w.heap.size + 1) a0 len cap) := hc1
  have HG1 : Hid (w.grownBy w1 none) := (World.grownBy_alloc w _ none).trans hg1
  have HN1 : Hid (Five w1 w.heap.size 0 0 0 0 0) := HN0.out.kept hg1 (by simp)
  have hl1 := hc1.lt
  clear hc1 hg1 HB HN0
  go_wp2_with fail
  refine (l1DrawIns_any W0 (w.heap.size + 1) len cap a0 _ _ _ HC1.out (by omega) (by omega) (by omega) (by omega)).mono ?_
  rintro e w2 ⟨o, r, a, b, n, rfl, hc2, hg2⟩
  have hN : some w.heap.size ≠ some (w.heap.size + 1) := by simp
  have HC2 : Hid (Cur w2 W0 (w.heap.size + 1) a0 len cap) := hc2
  have HG2 : Hid (w.grownBy w2 none) := grown_new HG1.out hg2 (by omega)
  have HN2 : Hid (Five w2 w.heap.size 0 0 0 0 0) := HN1.out.kept hg2 hN
  have hl2 := hg2.size
  clear hc2 hg2 HC1 HG1 HN1
  go_wp2_with fail
  have HX3 : Hid (Five (w2.alloc (.cells #[.int .i64 o, .int .i64 r, .int .i64 a, .int .i64 b, .int .i64 n] 25)) w2.heap.size o r a b n) := heap_alloc_new w2 _
  have hX : some w2.heap.size ≠ some (w.heap.size + 1) := by simp; omega
  refine (l1Once_any W0 (w.heap.size + 1) len cap a0 _ _ (HC2.out.alloc _) (by omega) (by omega)).mono ?_
  rintro e w4 ⟨t, rfl, hc4, hg4⟩
  have HC4 : Hid (Cur w4 W0 (w.heap.size + 1) a0 len cap) := hc4
  have HG4 : Hid (w.grownBy w4 none) := grown_new (HG2.out.trans (World.grownBy_alloc _ _ none)) hg4 (by omega)
  have HN4 : Hid (Five w4 w.heap.size 0 0 0 0 0) := (HN2.out.kept (World.grownBy_alloc _ _ none) (by simp)).kept hg4 hN
  have HX4 : Hid (Five w4 w2.heap.size o r a b n) := HX3.out.kept hg4 hX
  clear hc4 hg4 HC2 HG2 HN2 HX3
  obtain ⟨⟨c0, c1, c2, c3, c4⟩, fx⟩ := HX4.out.cells
  have y0 := fx 0
  have y1 := fx 1
  have y2 := fx 2
  have y3 := fx 3
  have y4 := fx 4
  clear fx
  cases t
  case false =>
    obtain ⟨⟨e0, e1, e2, e3, e4⟩, fe⟩ := HN4.out.cells
    have z0 := fe 0
    have z1 := fe 1
    have z2 := fe 2
    have z3 := fe 3
    have z4 := fe 4
    clear fe
    go_wp2
    exact bodyPost_ret (v := insV o r a b n) (by simp [results, Tryd.results6, go_sem, e0, e1, e2, e3, e4]) rfl ⟨_, _, _, _, _, rfl, put5_grown HG4.out (Nat.le_refl _) _ _ _ _ _⟩
  case true =>
    go_wp2_with fail
    refine (l1Spoil_any W0 (w.heap.size + 1) len cap a0 _ _ _ _ _ _ HC4.out).mono ?_
    rintro e w5 ⟨o', r', a', b', n', rfl, hc5, hg5⟩
    have HG5 : Hid (w.grownBy (put5 w5 w2.heap.size o' r' a' b' n') none) := put5_grown (grown_new HG4.out hg5 (by omega)) (by omega) _ _ _ _ _
    have HX5 : Hid (Five w5 w2.heap.size o r a b n) := HX4.out.kept hg5 hX
    have HN5 : Hid (Five w5 w.heap.size 0 0 0 0 0) := HN4.out.kept hg5 hN
    have hne : ¬ w.heap.size = w2.heap.size := by omega
    have hne' : ¬ w2.heap.size = w.heap.size := by omega
    clear hc5 hg5 HC4 HG4 HN4 HX4 c0 c1 c2 c3 c4 y0 y1 y2 y3 y4
    obtain ⟨⟨c0, c1, c2, c3, c4⟩, fx⟩ := HX5.out.cells
    have y0 := fx 0
    have y1 := fx 1
    have y2 := fx 2
    have y3 := fx 3
    have y4 := fx 4
    obtain ⟨⟨e0, e1, e2, e3, e4⟩, fe⟩ := HN5.out.cells
    have z0 := fe 0
    have z1 := fe 1
    have z2 := fe 2
    have z3 := fe 3
    have z4 := fe 4
    clear fe fx
    clear e0 e1 e2 e3 e4 z0 z1 z2 z3 z4
    go_wp2_with (with_reducible refine load_stop (t := 25) (k := 4) rfl ?_)
    unfold STOP2
    generalize hwz : ((((w5.setCell ⟨w2.heap.size, 0, none⟩ (.int .i64 o')).setCell ⟨w2.heap.size, 1, none⟩ (.int .i64 r')).setCell ⟨w2.heap.size, 2, none⟩ (.int .i64 a')).setCell ⟨w2.heap.size, 3, none⟩ (.int .i64 b')).setCell ⟨w2.heap.size, 4, none⟩ (.int .i64 n') = wz
    have HGz : Hid (w.grownBy wz none) := by rw [← hwz]; exact HG5
    have HNz : Hid (Five wz w.heap.size 0 0 0 0 0) := by rw [← hwz]; exact five_other HN5.out (by omega) _ _ _ _ _
    have HXz : Hid (Five wz w2.heap.size o' r' a' b' n') := by rw [← hwz]; exact five_put5 HX5.out _ _ _ _ _
    clear hwz HG5 HN5 HX5 c0 c1 c2 c3 c4 y0 y1 y2 y3 y4
    obtain ⟨⟨c0, c1, c2, c3, c4⟩, _⟩ := HXz.out.cells
    obtain ⟨⟨e0, e1, e2, e3, e4⟩, fe⟩ := HNz.out.cells
    have z0 := fe 0
    have z1 := fe 1
    have z2 := fe 2
    have z3 := fe 3
    have z4 := fe 4
    clear fe
    go_wp2
    exact bodyPost_ret (v := insV o' r' a' b' n') (by simp [results, Tryd.results6, go_sem, e0, e1, e2, e3, e4]) rfl ⟨_, _, _, _, _, rfl, put5_grown HGz.out (Nat.le_refl _) _ _ _ _ _⟩

theorem insTextB_size (o r a b n : Int) : (insTextB o r a b n).size ≤ 100 := by
  unfold insTextB
  split
  · rename_i h
    obtain ⟨fr, fa, fb, fn, o1, o2⟩ := ok_fit h
    unfold textT
    have l1 : ∀ (k : Nat) (z : Nat → Int) (m : Nat), k < 12 → m ≤ 3 → (∀ j, j < m → -1000000000 ≤ z j ∧ z j ≤ 1000000000) → (lineTo k z m).size ≤ 71 := fun k z m hk hm hz => by
      have := lineTo_size k z m hk hz
      omega
    split
    · have := l1 1 _ 2 (by omega) (by omega) (fit2 fr fn); omega
    split
    · have := l1 6 _ 2 (by omega) (by omega) (fit2 fn fa); omega
    split
    · split
      · have h1 := l1 7 _ 1 (by omega) (by omega) (fit1 fr)
        have e1 : (⟨#[32]⟩ : ByteArray).size = 1 := rfl
        have e2 : (⟨#[97, 110, 121]⟩ : ByteArray).size = 3 := rfl
        rw [ByteArray.size_append, ByteArray.size_append, e1, e2]
        omega
      · have := l1 7 _ 2 (by omega) (by omega) (fit2 fr fn); omega
    split
    · have := l1 8 _ 1 (by omega) (by omega) (fit1 fa); omega
    split
    · have := l1 9 _ 1 (by omega) (by omega) (fit1 fn); omega
    split
    · have := l1 10 _ 2 (by omega) (by omega) (fit2 fa fn); omega
    split
    · have := l1 11 (nums []) 0 (by omega) (by omega) (fun j hj => by omega); omega
    · have := l1 o.toNat _ 3 (by omega) (by omega) (fit3 fr fa fb); omega
  · decide

set_option maxHeartbeats 400000 in
theorem l1Pick_any (W0 c len cap b m mc : Nat) (a0 : Option Addr) (z : Nat → ByteArray) (w : World) (hc : Cur w W0 c a0 len cap) (n1 : 1 ≤ m) (n2 : m ≤ 256) (hb : b < w.heap.size) (hne : b ≠ c) (hz : ∀ j, j < m → w.cell? ⟨b, j, none⟩ = some (.string (z j))) :
    Calls Tryd.prog 29 #[.pointer (some ⟨c, 0, none⟩), .slice (some ⟨b, 0, none⟩) m mc] w fun e w' => ∃ k : Nat, k < m ∧ e = .returned (.string (z k)) ∧ Cur w' W0 c a0 len cap ∧ w.grownBy w' (some c) := by
  have HCur : Hid (Cur w W0 c a0 len cap) := hc
  have HZ : Hid (∀ j, j < m → w.cell? ⟨b, j, none⟩ = some (.string (z j))) := hz
  clear hc hz
  go_enter Tryd.func29, Tryd.ntmps29
  go_wp2_with fail
  refine (l1Below_any W0 c len cap a0 _ _ HCur.out (by omega) (by omega)).mono ?_
  rintro e w1 ⟨x, rfl, ⟨x0, x1⟩, hc1, hg1⟩
  obtain ⟨k, rfl⟩ := Int.eq_ofNat_of_zero_le x0
  have cz : w1.cell? ⟨b, k, none⟩ = some (.string (z k)) := (World.cell?_of_block (hg1.block b hb (by simp [hne]))).trans (HZ.out k (by omega))
  have HC1 : Hid (Cur w1 W0 c a0 len cap) := hc1
  have HG1 : Hid (w.grownBy w1 (some c)) := hg1
  have hk : k < m := by omega
  clear hc1 hg1
  go_wp2
  go_ret
  exact ⟨k, hk, rfl, HC1.out, HG1.out⟩

def pick6 (j : Nat) : ByteArray := [(⟨#[32]⟩ : ByteArray), ⟨#[48]⟩, ⟨#[45]⟩, ⟨#[120]⟩, ⟨#[57]⟩, ⟨#[32, 97, 110, 121]⟩].getD j ⟨#[]⟩
theorem pick6_size (j : Nat) (h : j < 6) : (pick6 j).size ≤ 4 := by
  match j, h with
  | 0, _ => decide
  | 1, _ => decide
  | 2, _ => decide
  | 3, _ => decide
  | 4, _ => decide
  | 5, _ => decide
theorem pick6_at (w : World) : ∀ j, j < 6 → (w.alloc (.cells #[.string ⟨#[32]⟩, .string ⟨#[48]⟩, .string ⟨#[45]⟩, .string ⟨#[120]⟩, .string ⟨#[57]⟩, .string ⟨#[32, 97, 110, 121]⟩] 9)).cell? ⟨w.heap.size, j, none⟩ = some (.string (pick6 j)) := by
  intro j hj
  match j, hj with
  | 0, _ => simp [pick6]
  | 1, _ => simp [pick6]
  | 2, _ => simp [pick6]
  | 3, _ => simp [pick6]
  | 4, _ => simp [pick6]
  | 5, _ => simp [pick6]

set_option maxRecDepth 100000 in
set_option maxHeartbeats 400000 in
theorem DrawInsRead_any (W0 len cap : Nat) (a0 : Option Addr) (w : World) (hB : BytesAt w W0 a0 len) (hW : W0 ≤ w.heap.size) (ln : len ≤ 1048576) :
    Calls Tryd.prog 11 #[.slice a0 len cap] w fun e w' => ∃ l : ByteArray, e = .returned (.string l) ∧ l.size ≤ 1000 ∧ w.grownBy w' none := by
  have HB : Hid (BytesAt w W0 a0 len) := hB
  clear hB
  go_enter Tryd.func11, Tryd.ntmps11
  go_wp2_with fail
  refine (l1New_any W0 len cap a0 _ HB.out hW ln).mono ?_
  rintro e w1 ⟨rfl, hc1, hg1⟩
  have HC1 : Hid (Cur w1 W0 w.heap.size a0 len cap) := hc1
  have HG1 : Hid (w.grownBy w1 none) := hg1
  clear hc1 hg1 HB
  go_wp2_with fail
  refine (l1DrawIns_any W0 w.heap.size len cap a0 _ _ _ HC1.out (by omega) (by omega) (by omega) (by omega)).mono ?_
  rintro e w2 ⟨o, r, a, b, n, rfl, hc2, hg2⟩
  have HC2 : Hid (Cur w2 W0 w.heap.size a0 len cap) := hc2
  have HG2 : Hid (w.grownBy w2 none) := grown_new HG1.out hg2 (Nat.le_refl _)
  clear hc2 hg2 HC1 HG1
  go_wp2_with fail
  refine (specInsText_any _ _ _ _ _ _).mono ?_
  rintro e w3 ⟨rfl, hb3⟩
  have hg3 := grown_of_below hb3
  have HC3 : Hid (Cur w3 W0 w.heap.size a0 len cap) := HC2.out.kept hg3 (by simp) (fun k hk => by cases hk)
  have HG3 : Hid (w.grownBy w3 none) := HG2.out.trans hg3
  have hsz := insTextB_size o r a b n
  generalize insTextB o r a b n = s at *
  have hsz' : (s.size : Int) ≤ 100 := by omega
  clear hb3 hg3 HC2 HG2
  go_wp2_with fail
  refine (l1Below_any W0 w.heap.size len cap a0 _ _ HC3.out (by omega) (by omega)).mono ?_
  rintro e w4 ⟨x, rfl, ⟨x0, x1⟩, hc4, hg4⟩
  obtain ⟨k, rfl⟩ := Int.eq_ofNat_of_zero_le x0
  have hk : k ≤ s.size := by omega
  have hk' : (k : Int) ≤ (s.size : Int) := by omega
  have HC4 : Hid (Cur w4 W0 w.heap.size a0 len cap) := hc4
  have HG4 : Hid (w.grownBy w4 none) := grown_new HG3.out hg4 (Nat.le_refl _)
  clear hc4 hg4 HC3 HG3 x0 x1
  go_wp2_with fail
  refine (l1Below_any W0 w.heap.size len cap a0 _ _ HC4.out (by omega) (by omega)).mono ?_
  rintro e w5 ⟨y, rfl, ⟨y0, y1⟩, hc5, hg5⟩
  have HC5 : Hid (Cur w5 W0 w.heap.size a0 len cap) := hc5
  have HG5 : Hid (w.grownBy w5 none) := grown_new HG4.out hg5 (Nat.le_refl _)
  have hlt5 := hc5.lt
  clear hc5 hg5 HC4 HG4
  by_cases hy0 : y = 0
  · subst hy0
    go_wp2
    go_ret
    exact ⟨_, rfl, by simp; omega, HG5.out⟩
  · by_cases hy1 : y = 1
    · subst hy1
      go_wp2_with fail
      first | (go_region_with (go_at_call 29; refine (l1Pick_any W0 w.heap.size len cap w5.heap.size 6 6 a0 pick6 _ (by exact (HC5.out.alloc _).drew) (by omega) (by omega) (by simp) (by omega) (by exact pick6_at w5)).mono ?_; rintro e w9 ⟨kk, hkk, rfl, hc9, hg9⟩; have hq : w5.grownBy w9 (some w.heap.size) := (grown_drew (World.grownBy_alloc w5 _ _)).trans hg9; have HQ : Hid (w.grownBy w9 none) := grown_new HG5.out hq (Nat.le_refl _); have hp6 := pick6_size kk hkk; clear hc9 hg9 hq)) | fail
      all_goals
        go_wp2
        go_ret
        exact ⟨_, rfl, by simp; omega, HQ.out⟩
    · have t0 : (y == 0) = false := by simp [hy0]
      have t1 : (y == 1) = false := by simp [hy1]
      go_wp2
      go_ret
      exact ⟨_, rfl, by omega, HG5.out⟩

end Go.Proofs.YtdlfdelngolkgaaDoor
