/- The walks of l3DrawOne and DrawNth: some events, a kind, a peer, a number. -/
import Derived.Test.YtmbmhpginegggaaRpF
import Derived.Test.YtmbmhpginegggaaRpC
namespace Go.Proofs.Ytmbmhpginegggaa
open Go.RowKit Go.Deep

theorem LstE.cap {w : World} {B n g cap : Nat} (h : LstE w B (.slice (some ⟨g, 0, none⟩) n cap) n) : n ≤ cap ∧ cap ≤ maxLen := by
  obtain ⟨xs, ho, -, -⟩ := h
  rcases ho.2 with ⟨h0, _⟩ | ⟨g', cap', cur, e, _, _, h1, h2, _⟩
  · cases h0
  · simp only [Value.slice.injEq] at e
    obtain ⟨-, -, rfl⟩ := e
    exact ⟨h1, h2⟩
theorem Way.facts {w wr : World} {W0 c len cap g n gc : Nat} {a0 : Option Addr} (h : Way w wr W0 c len cap a0 g n gc) : w.heap.size ≤ g ∧ g < wr.heap.size ∧ ∃ G, InsAt wr g 0 n G := by
  refine ⟨h.1.own g rfl, ?_, h.1.at⟩
  obtain ⟨xs, ho, _⟩ := h.1
  exact (ho.lt g rfl).2
theorem grown_new' {w w1 w2 : World} {c : Nat} (h : w.grownBy w1 none) (k : w1.grownBy w2 (some c)) (hc : w.heap.size ≤ c) : w.grownBy w2 none :=
  h.andThen k (fun j hj => by cases hj; exact .inl hc)

set_option maxRecDepth 100000 in
set_option maxHeartbeats 4000000 in
theorem l3DrawOne_any (W0 len cap : Nat) (a0 : Option Addr) (w : World) (hB : BytesAt w W0 a0 len) (hW : W0 ≤ w.heap.size) (ln : len ≤ 1048576) :
    Calls Try.prog 53 #[.slice a0 len cap] w fun e w' => ∃ (v : Value) (k : Nat) (kd pr : Int), e = .returned (.tuple #[v, .int .i64 kd, .int .i64 pr]) ∧ k ≤ 25 ∧ LstE w' w.heap.size v k ∧ w.grownBy w' none := by
  have HB : Hid (BytesAt w W0 a0 len) := hB
  clear hB
  go_enter Try.func53, Try.ntmps53
  go_wp2_with fail
  refine (l1New_any W0 len cap a0 _ HB.out hW ln).mono ?_
  rintro e w1 ⟨rfl, hc1, hg1⟩
  have HC1 : Hid (Cur w1 W0 w.heap.size a0 len cap) := hc1
  have HG1 : Hid (w.grownBy w1 none) := hg1
  have hcl := hc1.lt
  clear hc1 hg1 HB
  go_wp2_with fail
  refine (l1DrawAny_any W0 w.heap.size len cap a0 _ HC1.out).mono ?_
  rintro e w2 ⟨g, n, gc, rfl, hn, hw2⟩
  obtain ⟨f1, f2, G, f3⟩ := hw2.facts
  have hs2 := hw2.2.2.size
  have HI2 : Hid (InsAt w2 g 0 n G) := f3
  have HC2 : Hid (Cur w2 W0 w.heap.size a0 len cap ∧ w.grownBy w2 none) := ⟨hw2.2.1, grown_new' HG1.out hw2.2.2 (Nat.le_refl _)⟩
  clear hw2 HC1 HG1 f3
  go_wp2_with fail
  refine (l3DrawEvents_any W0 w.heap.size len cap a0 g n gc G _ HC2.out.1 hn f2 (by omega) HI2.out).mono ?_
  rintro e w3 ⟨v, k, rfl, hk, l3, c3, g3⟩
  obtain ⟨eg, ec, rfl, hg1, hg2⟩ := l3.form
  have L3 : Hid (LstE w3 w.heap.size (.slice (some ⟨eg, 0, none⟩) k ec) k) := l3.mono (by omega)
  have HC3 : Hid (Cur w3 W0 w.heap.size a0 len cap ∧ w.grownBy w3 none) := ⟨c3, grown_new' HC2.out.2 g3 (Nat.le_refl _)⟩
  have neg : eg ≠ w.heap.size := by omega
  clear l3 c3 g3 HC2 HI2
  have tailK : (k : Int) ≤ 25 := by omega
  by_cases h0 : 0 < k
  · have h0' : (0 : Int) < (k : Int) := by omega
    go_wp2_with fail
    refine (l1Once_any W0 w.heap.size len cap a0 _ _ HC3.out.1 (by omega) (by omega)).mono ?_
    rintro e w4 ⟨t, rfl, c4, g4⟩
    have L4 : Hid (LstE w4 w.heap.size (.slice (some ⟨eg, 0, none⟩) k ec) k) := L3.out.kept g4 (fun j e => by cases e; simp [Value.ownBlock]; exact neg)
    have HC4 : Hid (Cur w4 W0 w.heap.size a0 len cap ∧ w.grownBy w4 none) := ⟨c4, grown_new' HC3.out.2 g4 (Nat.le_refl _)⟩
    clear c4 g4 HC3 L3
    cases t
    case true =>
      go_wp2_with fail
      refine (l1Below_any W0 w.heap.size len cap a0 _ _ HC4.out.1 (by omega) (by omega)).mono ?_
      rintro e w5 ⟨x, rfl, -, c5, g5⟩
      have L5 : Hid (LstE w5 w.heap.size (.slice (some ⟨eg, 0, none⟩) k ec) k) := L4.out.kept g5 (fun j e => by cases e; simp [Value.ownBlock]; exact neg)
      have HC5 : Hid (Cur w5 W0 w.heap.size a0 len cap ∧ w.grownBy w5 none) := ⟨c5, grown_new' HC4.out.2 g5 (Nat.le_refl _)⟩
      clear c5 g5 HC4 L4
      go_wp2_with fail
      refine (l1Below_any W0 w.heap.size len cap a0 _ _ HC5.out.1 (by omega) (by omega)).mono ?_
      rintro e w6 ⟨y, rfl, -, c6, g6⟩
      have L6 : Hid (LstE w6 w.heap.size (.slice (some ⟨eg, 0, none⟩) k ec) k) := L5.out.kept g6 (fun j e => by cases e; simp [Value.ownBlock]; exact neg)
      have HC6 : Hid (w.grownBy w6 none) := grown_new' HC5.out.2 g6 (Nat.le_refl _)
      clear c6 g6 HC5 L5
      go_wp2
      exact bodyPost_ret (v := .tuple #[.slice (some ⟨eg, 0, none⟩) k ec, .int .i64 x, .int .i64 y]) (by simp [results, Try.results53, go_sem]) rfl ⟨_, k, _, _, rfl, hk, L6.out, HC6.out⟩
    case false =>
      go_wp2_with fail
      refine (l1Below_any W0 w.heap.size len cap a0 _ _ HC4.out.1 (by omega) (by omega)).mono ?_
      rintro e w5 ⟨x, rfl, ⟨x0, x1⟩, c5, g5⟩
      obtain ⟨j, rfl⟩ : ∃ j : Nat, x = j := ⟨x.toNat, by omega⟩
      have L5 : Hid (LstE w5 w.heap.size (.slice (some ⟨eg, 0, none⟩) k ec) k) := L4.out.kept g5 (fun j e => by cases e; simp [Value.ownBlock]; exact neg)
      have HC5 : Hid (w.grownBy w5 none) := grown_new' HC4.out.2 g5 (Nat.le_refl _)
      obtain ⟨E, hE⟩ := L5.out.at
      obtain ⟨k0, k1, k2⟩ := hE j (by omega)
      rw [Nat.zero_add] at k0 k1 k2
      clear c5 g5 HC4 L4 hE x0
      go_wp2
      have q0 : (w5.alloc (.cells #[.int .i64 (E j).k, .int .i64 (E j).q, .int .i64 (E j).v] 29)).cell? ⟨w5.heap.size, 0, none⟩ = some (.int .i64 (E j).k) := new_cell _ _ _ 0 rfl
      have q1 : (w5.alloc (.cells #[.int .i64 (E j).k, .int .i64 (E j).q, .int .i64 (E j).v] 29)).cell? ⟨w5.heap.size, 1, none⟩ = some (.int .i64 (E j).q) := new_cell _ _ _ 1 rfl
      go_region
      go_wp2
      refine bodyPost_ret (v := .tuple #[.slice (some ⟨eg, 0, none⟩) k ec, .int .i64 (E j).k, .int .i64 (E j).q]) (by simp [results, Try.results53, go_sem]) rfl ⟨_, k, _, _, rfl, hk, ?_, ?_⟩
      · exact L5.out.below (by go_grown)
      · exact grown_of_below ((below_of_grown HC5.out).trans (Below.mono (by go_grown) HC5.out.size))
  · have h0' : ¬ (0 : Int) < (k : Int) := by omega
    go_wp2_with fail
    refine (l1Below_any W0 w.heap.size len cap a0 _ _ HC3.out.1 (by omega) (by omega)).mono ?_
    rintro e w5 ⟨x, rfl, -, c5, g5⟩
    have L5 : Hid (LstE w5 w.heap.size (.slice (some ⟨eg, 0, none⟩) k ec) k) := L3.out.kept g5 (fun j e => by cases e; simp [Value.ownBlock]; exact neg)
    have HC5 : Hid (Cur w5 W0 w.heap.size a0 len cap ∧ w.grownBy w5 none) := ⟨c5, grown_new' HC3.out.2 g5 (Nat.le_refl _)⟩
    clear c5 g5 HC3 L3
    go_wp2_with fail
    refine (l1Below_any W0 w.heap.size len cap a0 _ _ HC5.out.1 (by omega) (by omega)).mono ?_
    rintro e w6 ⟨y, rfl, -, c6, g6⟩
    have L6 : Hid (LstE w6 w.heap.size (.slice (some ⟨eg, 0, none⟩) k ec) k) := L5.out.kept g6 (fun j e => by cases e; simp [Value.ownBlock]; exact neg)
    have HC6 : Hid (w.grownBy w6 none) := grown_new' HC5.out.2 g6 (Nat.le_refl _)
    clear c6 g6 HC5 L5
    go_wp2
    exact bodyPost_ret (v := .tuple #[.slice (some ⟨eg, 0, none⟩) k ec, .int .i64 x, .int .i64 y]) (by simp [results, Try.results53, go_sem]) rfl ⟨_, k, _, _, rfl, hk, L6.out, HC6.out⟩

set_option maxRecDepth 100000 in
set_option maxHeartbeats 4000000 in
theorem DrawNth_any (W0 len cap : Nat) (a0 : Option Addr) (w : World) (hB : BytesAt w W0 a0 len) (hW : W0 ≤ w.heap.size) (ln : len ≤ 1048576) :
    Calls Try.prog 16 #[.slice a0 len cap] w fun e w' => ∃ (v : Value) (k : Nat) (kd pr n : Int), e = .returned (.tuple #[v, .int .i64 kd, .int .i64 pr, .int .i64 n]) ∧ k ≤ 25 ∧ LstE w' w.heap.size v k ∧ (-1 ≤ n ∧ n ≤ 3) ∧ w.grownBy w' none := by
  have HB : Hid (BytesAt w W0 a0 len) := hB
  clear hB
  go_enter Try.func16, Try.ntmps16
  go_wp2_with fail
  refine (l3DrawOne_any W0 len cap a0 _ HB.out hW ln).mono ?_
  rintro e w1 ⟨v, k, kd, pr, rfl, hk, l1, g1⟩
  obtain ⟨eg, ec, rfl, hg1, hg2⟩ := l1.form
  have L1 : Hid (LstE w1 w.heap.size (.slice (some ⟨eg, 0, none⟩) k ec) k) := l1
  have G1 : Hid (w.grownBy w1 none) := g1
  have HB1 : Hid (BytesAt w1 W0 a0 len) := HB.out.kept fun j hj => g1.block j (by omega) (by simp)
  have hs1 := g1.size
  clear l1 g1 HB
  go_wp2_with fail
  refine (l1New_any W0 len cap a0 _ HB1.out (by omega) ln).mono ?_
  rintro e w2 ⟨rfl, hc2, hg2'⟩
  have HC2 : Hid (Cur w2 W0 w1.heap.size a0 len cap ∧ w.grownBy w2 none) := ⟨hc2, G1.out.trans hg2'⟩
  have L2 : Hid (LstE w2 w.heap.size (.slice (some ⟨eg, 0, none⟩) k ec) k) := L1.out.kept hg2' (fun j e => by cases e)
  have neg : eg ≠ w1.heap.size := by omega
  clear hc2 hg2' HB1 G1 L1
  go_wp2_with fail
  refine (l1Below_any W0 w1.heap.size len cap a0 _ _ HC2.out.1 (by omega) (by omega)).mono ?_
  rintro e w3 ⟨x, rfl, ⟨x0, x1⟩, c3, g3⟩
  have L3 : Hid (LstE w3 w.heap.size (.slice (some ⟨eg, 0, none⟩) k ec) k) := L2.out.kept g3 (fun j e => by cases e; simp [Value.ownBlock]; exact neg)
  have HC3 : Hid (Cur w3 W0 w1.heap.size a0 len cap ∧ w.grownBy w3 none) := ⟨c3, grown_new' HC2.out.2 g3 hs1⟩
  clear c3 g3 HC2 L2
  go_wp2_with fail
  refine (l1Below_any W0 w1.heap.size len cap a0 _ _ HC3.out.1 (by omega) (by omega)).mono ?_
  rintro e w4 ⟨y, rfl, ⟨y0, y1⟩, c4, g4⟩
  have L4 : Hid (LstE w4 w.heap.size (.slice (some ⟨eg, 0, none⟩) k ec) k) := L3.out.kept g4 (fun j e => by cases e; simp [Value.ownBlock]; exact neg)
  have HC4 : Hid (w.grownBy w4 none) := grown_new' HC3.out.2 g4 hs1
  clear c4 g4 HC3 L3
  have yq : 0 ≤ y / 19 ∧ y / 19 ≤ 1 := by omega
  go_wp2
  exact bodyPost_ret (v := .tuple #[.slice (some ⟨eg, 0, none⟩) k ec, .int .i64 kd, .int .i64 pr, .int .i64 (x - y / 19)]) (by simp [results, Try.results16, go_sem]) rfl ⟨_, k, _, _, _, rfl, hk, L4.out, by omega, HC4.out⟩

end Go.Proofs.Ytmbmhpginegggaa
