/- The walks of DrawProgOk and DrawInsOk: what is drawn is some list of places and some count; some place and two counts. -/
import Derived.Test.YtcankgnhmianbacDrawE
namespace Go.Proofs.Ytcankgnhmianbac
open Go.RowKit

def pick7 (j : Nat) : Int := [(3 : Int), 3, 3, 2, 4, 0, 5].getD j 0
theorem pick7_at (w : World) : IntsAt (w.alloc (.cells #[.int .i64 3, .int .i64 3, .int .i64 3, .int .i64 2, .int .i64 4, .int .i64 0, .int .i64 5] 3)) w.heap.size 7 pick7 := by
  intro j hj
  match j, hj with
  | 0, _ => simp [pick7]
  | 1, _ => simp [pick7]
  | 2, _ => simp [pick7]
  | 3, _ => simp [pick7]
  | 4, _ => simp [pick7]
  | 5, _ => simp [pick7]
  | 6, _ => simp [pick7]
def pick5 (j : Nat) : Int := [(3 : Int), 3, 0, 4, 5].getD j 0
theorem pick5_at (w : World) : IntsAt (w.alloc (.cells #[.int .i64 3, .int .i64 3, .int .i64 0, .int .i64 4, .int .i64 5] 3)) w.heap.size 5 pick5 := by
  intro j hj
  match j, hj with
  | 0, _ => simp [pick5]
  | 1, _ => simp [pick5]
  | 2, _ => simp [pick5]
  | 3, _ => simp [pick5]
  | 4, _ => simp [pick5]

theorem grown_drew {w w' : World} {row : Option Nat} (h : w.grownBy w' row) : w.grownBy w'.drew row := ⟨h.os, h.tape, h.output, h.size, h.block⟩
theorem grown_new {w w1 w2 : World} {c : Nat} (h : w.grownBy w1 none) (k : w1.grownBy w2 (some c)) (hc : w.heap.size ≤ c) : w.grownBy w2 none :=
  h.andThen k (fun j hj => by cases hj; exact .inl hc)

set_option maxRecDepth 100000 in
set_option maxHeartbeats 1000000 in
theorem DrawProgOk_any (W0 len cap : Nat) (a0 : Option Addr) (w : World) (hB : BytesAt w W0 a0 len) (hW : W0 ≤ w.heap.size) (ln : len ≤ 1048576) :
    Calls Try.prog 5 #[.slice a0 len cap] w fun e w' => ∃ (g n gc : Nat) (x : Int), e = .returned (.tuple #[.slice (some ⟨g, 0, none⟩) n gc, .int .i64 x]) ∧ n ≤ 31 ∧ g < w'.heap.size ∧ w.heap.size ≤ g ∧ (∃ G, InsAt w' g 0 n G) ∧ w.grownBy w' none := by
  have HB : Hid (BytesAt w W0 a0 len) := hB
  clear hB
  go_enter Try.func5, Try.ntmps5
  go_wp2_with fail
  refine (l1New_any W0 len cap a0 _ HB.out hW ln).mono ?_
  rintro e w1 ⟨rfl, hc1, hg1⟩
  have HC1 : Hid (Cur w1 W0 w.heap.size a0 len cap) := hc1
  have HG1 : Hid (w.grownBy w1 none) := hg1
  have hcl := hc1.lt
  clear hc1 hg1 HB
  go_wp2_with fail
  refine (l1DrawAny_any W0 w.heap.size len cap a0 _ HC1.out).mono ?_
  rintro e w2 ⟨g, n, gc, rfl, hn, hw2⟩
  have HW2 : Hid (Way w1 w2 W0 w.heap.size len cap a0 g n gc) := hw2
  have hs2 := hw2.2.2.size
  clear hw2 HC1
  go_wp2_with fail
  refine (l1PickInt_any W0 w.heap.size len cap w2.heap.size 7 7 a0 pick7 _ (HW2.out.2.1.alloc _) (by omega) (by omega) (by simp) (by omega) (pick7_at w2)).mono ?_
  rintro e w3 ⟨x, rfl, hc3, hg3⟩
  have hg3' : w2.grownBy w3 (some w.heap.size) := (World.grownBy_alloc w2 _ _).trans hg3
  have HW3 : Hid (Way w1 w3 W0 w.heap.size len cap a0 g n gc) := HW2.out.step hcl hc3 hg3'
  clear hc3 hg3 hg3' HW2
  go_wp2
  go_ret2
  have hgo := HW3.out.1.own g rfl
  refine ⟨g, n, gc, x, rfl, hn, ?_, by omega, HW3.out.1.at, grown_new HG1.out HW3.out.2.2 (Nat.le_refl _)⟩
  obtain ⟨xs, ho, _⟩ := HW3.out.1
  exact (ho.lt g rfl).2

theorem set_block (w : World) (X j : Nat) (cs : Array Value) (t : TypeId) (v : Value) (h : w.heap[X]? = some (.cells cs t (0, 0))) : (w.setCell ⟨X, j, none⟩ v).heap[X]? = some (.cells (cs.setIfInBounds j v) t (0, 0)) := by
  simp [World.setCell, Array.getElem?_modify, h]
theorem five_put5 {w : World} {X : Nat} {o r a b n : Int} (h : Five w X o r a b n) (o' r' a' b' n' : Int) : Five (put5 w X o' r' a' b' n') X o' r' a' b' n' := by
  have h1 := set_block _ _ 0 _ _ (.int .i64 o') h
  have h2 := set_block _ _ 1 _ _ (.int .i64 r') h1
  have h3 := set_block _ _ 2 _ _ (.int .i64 a') h2
  have h4 := set_block _ _ 3 _ _ (.int .i64 b') h3
  have h5 := set_block _ _ 4 _ _ (.int .i64 n') h4
  exact h5
theorem five_other {w : World} {X N : Nat} {o r a b n : Int} (h : Five w N o r a b n) (hne : N ≠ X) (o' r' a' b' n' : Int) : Five (put5 w X o' r' a' b' n') N o r a b n := by
  unfold Five at h ⊢
  rw [put5, Below.heap_setCell _ _ _ _ hne, Below.heap_setCell _ _ _ _ hne, Below.heap_setCell _ _ _ _ hne, Below.heap_setCell _ _ _ _ hne, Below.heap_setCell _ _ _ _ hne]
  exact h

set_option maxRecDepth 100000 in
set_option maxHeartbeats 4000000 in
theorem DrawInsOk_any (W0 len cap : Nat) (a0 : Option Addr) (w : World) (hB : BytesAt w W0 a0 len) (hW : W0 ≤ w.heap.size) (ln : len ≤ 1048576) :
    Calls Try.prog 8 #[.slice a0 len cap] w fun e w' => ∃ o r a b n p : Int, e = .returned (.tuple #[insV o r a b n, .int .i64 8, .int .i64 p]) ∧ w.grownBy w' none := by
  have HB : Hid (BytesAt w W0 a0 len) := hB
  clear hB
  go_enter Try.func8, Try.ntmps8
  go_wp2_with fail
  have HN0 : Hid (Five (w.alloc (.cells #[.int .i64 0, .int .i64 0, .int .i64 0, .int .i64 0, .int .i64 0] 29)) w.heap.size 0 0 0 0 0) := heap_alloc_new w _
  refine (l1New_any W0 len cap a0 _ (HB.out.kept fun j hj => Below.heap_alloc w _ j (by omega)) (by simp; omega) ln).mono ?_
  rintro e w1 ⟨rfl, hc1, hg1⟩
  rw [World.size_alloc] at hc1
  have HC1 : Hid (Cur w1 W0 (w.heap.size + 1) a0 len cap) := hc1
  have HG1 : Hid (w.grownBy w1 none) := (World.grownBy_alloc w _ none).trans hg1
  have HN1 : Hid (Five w1 w.heap.size 0 0 0 0 0) := HN0.out.kept hg1 (by simp)
  have hl1 := hc1.lt
  clear hc1 hg1 HB HN0
  go_wp2_with fail
  refine (l1DrawIns_any W0 (w.heap.size + 1) len cap a0 _ _ _ HC1.out (by omega) (by omega) (by omega) (by omega)).mono ?_
  rintro e w2 ⟨o, r, a, b, n, rfl, hc2, hg2⟩
  have hN : some w.heap.size ≠ some (w.heap.size + 1) := by simp
  have HC2 : Hid (Cur w2 W0 (w.heap.size + 1) a0 len cap) := hc2
  have HG2 : Hid (w.grownBy w2 none) := grown_new HG1.out hg2 (by omega)
  have HN2 : Hid (Five w2 w.heap.size 0 0 0 0 0) := HN1.out.kept hg2 hN
  have hl2 := hg2.size
  clear hc2 hg2 HC1 HG1 HN1
  go_wp2_with fail
  have HX3 : Hid (Five (w2.alloc (.cells #[.int .i64 o, .int .i64 r, .int .i64 a, .int .i64 b, .int .i64 n] 29)) w2.heap.size o r a b n) := heap_alloc_new w2 _
  have hX : some w2.heap.size ≠ some (w.heap.size + 1) := by simp; omega
  refine (l1Once_any W0 (w.heap.size + 1) len cap a0 _ _ (HC2.out.alloc _) (by omega) (by omega)).mono ?_
  rintro e w4 ⟨t, rfl, hc4, hg4⟩
  have HC4 : Hid (Cur w4 W0 (w.heap.size + 1) a0 len cap) := hc4
  have HG4 : Hid (w.grownBy w4 none) := grown_new (HG2.out.trans (World.grownBy_alloc _ _ none)) hg4 (by omega)
  have HN4 : Hid (Five w4 w.heap.size 0 0 0 0 0) := (HN2.out.kept (World.grownBy_alloc _ _ none) (by simp)).kept hg4 hN
  have HX4 : Hid (Five w4 w2.heap.size o r a b n) := HX3.out.kept hg4 hX
  clear hc4 hg4 HC2 HG2 HN2 HX3
  obtain ⟨⟨c0, c1, c2, c3, c4⟩, fx⟩ := HX4.out.cells
  have y0 := fx 0
  have y1 := fx 1
  have y2 := fx 2
  have y3 := fx 3
  have y4 := fx 4
  clear fx
  cases t
  case false =>
    go_wp2_with fail
    generalize w4 = wz at *
    have HCz := HC4
    have HGz := HG4
    have HNz := HN4
    have HXz := HX4
    clear HC4 HG4 HN4 HX4 c0 c1 c2 c3 c4 y0 y1 y2 y3 y4
    obtain ⟨⟨c0, c1, c2, c3, c4⟩, _⟩ := HXz.out.cells
    have hlz := HCz.out.lt
    have hxz := HXz.out.lt
    first | (go_region_with (go_at_call 13; refine (l1PickInt_any W0 (w.heap.size + 1) len cap wz.heap.size 5 5 a0 pick5 _ (by exact (HCz.out.alloc _).drew) (by omega) (by omega) (by simp) (by omega) (by exact pick5_at wz)).mono ?_; rintro e w9 ⟨y, rfl, hc9, hg9⟩; have hq : wz.grownBy w9 (some (w.heap.size + 1)) := (grown_drew (World.grownBy_alloc wz _ _)).trans hg9; clear hc9 hg9; obtain ⟨⟨d0, d1, d2, d3, d4⟩, _⟩ := (HXz.out.kept hq hX).cells; obtain ⟨⟨e0, e1, e2, e3, e4⟩, fe⟩ := (HNz.out.kept hq hN).cells; have z0 := fe 0; have z1 := fe 1; have z2 := fe 2; have z3 := fe 3; have z4 := fe 4; clear fe; have HQ : Hid (w.grownBy w9 none) := grown_new HGz.out hq (by omega); clear hq)) | fail
    all_goals
      go_wp2
      exact bodyPost_ret (v := .tuple #[insV o r a b n, .int .i64 8, .int .i64 y]) (by simp [results, Try.results8, go_sem, e0, e1, e2, e3, e4]) rfl ⟨_, _, _, _, _, _, rfl, put5_grown HQ.out (Nat.le_refl _) _ _ _ _ _⟩
  case true =>
    go_wp2_with fail
    refine (l1Spoil_any W0 (w.heap.size + 1) len cap a0 _ _ _ _ _ _ HC4.out).mono ?_
    rintro e w5 ⟨o', r', a', b', n', rfl, hc5, hg5⟩
    have HC5 : Hid (Cur (put5 w5 w2.heap.size o' r' a' b' n') W0 (w.heap.size + 1) a0 len cap) := put5_cur hc5 (by omega) (by omega) _ _ _ _ _
    have HG5 : Hid (w.grownBy (put5 w5 w2.heap.size o' r' a' b' n') none) := put5_grown (grown_new HG4.out hg5 (by omega)) (by omega) _ _ _ _ _
    have HX5 : Hid (Five w5 w2.heap.size o r a b n) := HX4.out.kept hg5 hX
    have HN5 : Hid (Five (put5 w5 w2.heap.size o' r' a' b' n') w.heap.size 0 0 0 0 0) := five_other (HN4.out.kept hg5 hN) (by omega) _ _ _ _ _
    have HX6 : Hid (Five (put5 w5 w2.heap.size o' r' a' b' n') w2.heap.size o' r' a' b' n') := five_put5 HX5.out _ _ _ _ _
    clear hc5 hg5 HC4 HG4 HN4 HX4 c0 c1 c2 c3 c4 y0 y1 y2 y3 y4
    obtain ⟨⟨c0, c1, c2, c3, c4⟩, fx⟩ := HX5.out.cells
    have y0 := fx 0
    have y1 := fx 1
    have y2 := fx 2
    have y3 := fx 3
    have y4 := fx 4
    clear fx HX5
    go_wp2_with fail
    generalize hwz : ((((w5.setCell ⟨w2.heap.size, 0, none⟩ (.int .i64 o')).setCell ⟨w2.heap.size, 1, none⟩ (.int .i64 r')).setCell ⟨w2.heap.size, 2, none⟩ (.int .i64 a')).setCell ⟨w2.heap.size, 3, none⟩ (.int .i64 b')).setCell ⟨w2.heap.size, 4, none⟩ (.int .i64 n') = wz
    have HCz : Hid (Cur wz W0 (w.heap.size + 1) a0 len cap) := by rw [← hwz]; exact HC5
    have HGz : Hid (w.grownBy wz none) := by rw [← hwz]; exact HG5
    have HNz : Hid (Five wz w.heap.size 0 0 0 0 0) := by rw [← hwz]; exact HN5
    have HXz : Hid (Five wz w2.heap.size o' r' a' b' n') := by rw [← hwz]; exact HX6
    clear hwz HC5 HG5 HN5 HX6 c0 c1 c2 c3 c4 y0 y1 y2 y3 y4
    obtain ⟨⟨c0, c1, c2, c3, c4⟩, _⟩ := HXz.out.cells
    have hlz := HCz.out.lt
    have hxz := HXz.out.lt
    first | (go_region_with (go_at_call 13; refine (l1PickInt_any W0 (w.heap.size + 1) len cap wz.heap.size 5 5 a0 pick5 _ (by exact (HCz.out.alloc _).drew) (by omega) (by omega) (by simp) (by omega) (by exact pick5_at wz)).mono ?_; rintro e w9 ⟨y, rfl, hc9, hg9⟩; have hq : wz.grownBy w9 (some (w.heap.size + 1)) := (grown_drew (World.grownBy_alloc wz _ _)).trans hg9; clear hc9 hg9; obtain ⟨⟨d0, d1, d2, d3, d4⟩, _⟩ := (HXz.out.kept hq hX).cells; obtain ⟨⟨e0, e1, e2, e3, e4⟩, fe⟩ := (HNz.out.kept hq hN).cells; have z0 := fe 0; have z1 := fe 1; have z2 := fe 2; have z3 := fe 3; have z4 := fe 4; clear fe; have HQ : Hid (w.grownBy w9 none) := grown_new HGz.out hq (by omega); clear hq)) | fail
    all_goals
      go_wp2
      exact bodyPost_ret (v := .tuple #[insV o' r' a' b' n', .int .i64 8, .int .i64 y]) (by simp [results, Try.results8, go_sem, e0, e1, e2, e3, e4]) rfl ⟨_, _, _, _, _, _, rfl, put5_grown HQ.out (Nat.le_refl _) _ _ _ _ _⟩

end Go.Proofs.Ytcankgnhmianbac
