/- The walk of the program's InsRead. -/
import Derived.Test.YtdlfdelngolkgaaDoorReadQ
namespace Go.Proofs.YtdlfdelngolkgaaDoor
open Go.RowKit

theorem strs_new (w : World) (s : ByteArray) (t : TypeId) : StrsAt (w.alloc (.cells ((splitW s).map Value.string).toArray t)) w.heap.size 0 (cnt s + 1) (wd s) := by
  intro j hj
  rw [Nat.zero_add]
  have hl := splitW_len s
  simp [hl, hj, wd]
theorem StrsAt.below {w w' : World} {B g off m : Nat} {ws : Nat → ByteArray} (h : StrsAt w g off m ws) (hb : Below B w w') (hB : g < B) : StrsAt w' g off m ws :=
  fun j hj => (hb.cell hB).trans (h j hj)

/-- A block of five noughts. -/
def Zeros (w : World) (N : Nat) : Prop := w.heap[N]? = some (.cells #[.int .i64 0, .int .i64 0, .int .i64 0, .int .i64 0, .int .i64 0] 25 (0, 0))
theorem Zeros.cells {w : World} {N : Nat} (h : Zeros w N) : w.cell? ⟨N, 0, none⟩ = some (.int .i64 0) ∧ w.cell? ⟨N, 1, none⟩ = some (.int .i64 0) ∧ w.cell? ⟨N, 2, none⟩ = some (.int .i64 0) ∧ w.cell? ⟨N, 3, none⟩ = some (.int .i64 0) ∧ w.cell? ⟨N, 4, none⟩ = some (.int .i64 0) ∧ w.frozen? ⟨N, 0, none⟩ = false ∧ w.frozen? ⟨N, 1, none⟩ = false ∧ w.frozen? ⟨N, 2, none⟩ = false ∧ w.frozen? ⟨N, 3, none⟩ = false ∧ w.frozen? ⟨N, 4, none⟩ = false := by
  unfold Zeros at h
  simp [World.cell?, World.frozen?, h]
theorem Zeros.below {w w' : World} {B N : Nat} (h : Zeros w N) (hb : Below B w w') (hB : N < B) : Zeros w' N := (hb.block N hB).trans h

set_option maxRecDepth 100000 in
set_option maxHeartbeats 4000000 in
theorem implInsRead_any (s : ByteArray) (w : World) (hE : Env2 w) (hs : s.size ≤ 1048576) :
    Calls Tryd.prog 10 #[.string s] w fun e w' => ReadR s e ∧ Below w.heap.size w w' := by
  have HE : Hid (Env2 w) := hE
  clear hE
  go_enter Tryd.func10, Tryd.ntmps10
  go_wp2_with fail
  obtain ⟨ml, hml⟩ := (HE.out.self ((Below.refl w.heap.size w).alloc (Nat.le_refl _) (.cells #[.int .i64 0, .int .i64 0, .int .i64 0, .int .i64 0, .int .i64 0] 25))).mlen
  refine (Tryd.strings_Split s blankB ml _ (by omega) hml (by decide)).mono ?_
  rintro e w1 ⟨rfl, hw1⟩
  rw [show Lib.countB s blankB = cnt s from rfl, World.size_alloc]
  have HS1 : Hid (StrsAt w1 (w.heap.size + 1) 0 (cnt s + 1) (wd s)) := by
    have := strs_new (w.alloc (.cells #[.int .i64 0, .int .i64 0, .int .i64 0, .int .i64 0, .int .i64 0] 25)) s 9
    rw [World.size_alloc] at this
    rw [hw1]
    exact this
  have B1 : Hid (Below w.heap.size w w1) := by
    rw [hw1]
    exact ((Below.refl _ _).alloc (Nat.le_refl _) _).alloc (by simp) _
  have HZ1 : Hid (Zeros w1 w.heap.size) := by
    rw [hw1, Hid, Zeros, heap_alloc_old _ _ (by simp), heap_alloc_new]
  have hz1 : w1.heap.size = w.heap.size + 2 := by rw [hw1]; simp
  have hcl := cnt_le s
  have hcl' : (cnt s : Int) ≤ 1048576 := by omega
  clear hw1 hml
  have HC1 : Hid (∀ j, j < cnt s → w1.cell? ⟨w.heap.size + 1, 1 + j, none⟩ = some (.string (wd s (j + 1)))) := fun j hj => by
    have := HS1.out (j + 1) (by omega)
    rw [show 0 + (j + 1) = 1 + j by omega] at this
    exact this
  rcases Nat.eq_zero_or_pos (cnt s) with hc0 | hc0
  · rw [hc0]
    go_wp2_with fail
    refine (numsOf_any (w.heap.size + 1) 0 0 0 (fun j => wd s (j + 1)) w1 (HE.out.self B1.out) (by omega) (by omega) (fun j hj => absurd hj (by omega)) (fun j hj => absurd hj (by omega))).mono ?_
    rintro e w2 ⟨hr', hb2⟩
    have hr : NumsR (wordsTo (fun j => wd s (j + 1)) (cnt s)) w1.heap.size e w2 := by rw [hc0]; exact hr'
    clear hr'
    have B2 : Hid (Below w.heap.size w w2) := B1.out.trans (hb2.mono (by omega))
    have HZ2 : Hid (Zeros w2 w.heap.size) := HZ1.out.below hb2 (by omega)
    have c0 : w2.cell? ⟨w.heap.size + 1, 0, none⟩ = some (.string (wd s 0)) := (hb2.cell (by simp; omega)).trans (HS1.out 0 (by omega))
    have hz2 : w.heap.size + 2 ≤ w2.heap.size := by have := hb2.size; omega
    clear hb2
    rcases hr with ⟨ns, v, hm, rfl, hn⟩ | ⟨hm, v, rfl⟩
    · have HM : Hid ((wordsTo (fun j => wd s (j + 1)) (cnt s)).mapM numM = some ns) := hm
      have HN : Hid (Nums w2 w1.heap.size v ns) := hn
      clear hm hn
      go_wp2_with fail
      refine (opOf_any (wd s 0) _ (HE.out.self B2.out).env).mono ?_
      rintro e w3 ⟨rfl, rfl⟩
      go_wp2_with fail
      refine (insOf_any _ v ns w1.heap.size _ HN.out).mono ?_
      rintro e w4 ⟨rfl, hb4⟩
      have B4 : Hid (Below w.heap.size w w4) := B2.out.trans (hb4.mono (by omega))
      have HZ4 : Hid (Zeros w4 w.heap.size) := HZ2.out.below hb4 (by omega)
      have hz4 : w.heap.size < w4.heap.size := by have := hb4.size; omega
      have hz5 : ¬ w4.heap.size = w.heap.size := by omega
      clear hb4
      have HX : Hid (∀ y, ReadOf s y → insM (opM (wd s 0).data.toList) ns = y) := fun y hy => by
        obtain ⟨p1, p2, _⟩ := read_parts hy
        rw [HM.out] at p1
        cases p1
        exact p2
      generalize insM (opM (wd s 0).data.toList) ns = x at *
      rw [insV5]
      by_cases he : s.data.toList = []
      · have te : s.toList.isEmpty = true := by rw [Lib.toList_data, he]; rfl
        have HF : Hid (∀ y, ¬ ReadOf s y) := fun y hy => hy.1 he
        clear he
        obtain ⟨z0, z1, z2, z3, z4, f0, f1, f2, f3, f4⟩ := HZ4.out.cells
        go_wp2
        refine bodyPost_ret (v := .tuple #[insV 0 0 0 0 0, .bool false]) (by simp [results, Tryd.results10, go_sem, z0, z1, z2, z3, z4, hz4]) rfl ⟨⟨false, zero5, rfl, (fun h => by cases h), fun _ => ⟨rfl, HF.out⟩⟩, ?_⟩
        exact ((((((B4.out.setCell (by simp) _).setCell (by simp) _).setCell (by simp) _).setCell (by simp) _).setCell (by simp) _).alloc (by simp; omega) _)
      · have te : s.toList.isEmpty = false := by
          rw [Lib.toList_data]
          cases h : s.data.toList
          · exact absurd h he
          · rfl
        have HY : Hid (s.data.toList ≠ []) := he
        clear he
        go_wp2_with fail
        refine (implInsText_any x.o x.r x.a x.b x.n _ (env_alloc (HE.out.self B4.out).env _)).mono ?_
        rintro e w5 ⟨rfl, hb5⟩
        have B5 : Hid (Below w.heap.size w w5) := (B4.out.alloc (by omega) _).trans (hb5.mono (by simp; omega))
        have HZ5 : Hid (Zeros w5 w.heap.size) := (HZ4.out.below ((Below.refl w4.heap.size w4).alloc (Nat.le_refl _) _) hz4).below hb5 (by simp; omega)
        have x0 : w5.cell? ⟨w4.heap.size, 0, none⟩ = some (.int .i64 x.o) := by rw [hb5.cell (by simp)]; simp
        have x1 : w5.cell? ⟨w4.heap.size, 1, none⟩ = some (.int .i64 x.r) := by rw [hb5.cell (by simp)]; simp
        have x2 : w5.cell? ⟨w4.heap.size, 2, none⟩ = some (.int .i64 x.a) := by rw [hb5.cell (by simp)]; simp
        have x3 : w5.cell? ⟨w4.heap.size, 3, none⟩ = some (.int .i64 x.b) := by rw [hb5.cell (by simp)]; simp
        have x4 : w5.cell? ⟨w4.heap.size, 4, none⟩ = some (.int .i64 x.n) := by rw [hb5.cell (by simp)]; simp
        clear hb5
        obtain ⟨z0, z1, z2, z3, z4, f0, f1, f2, f3, f4⟩ := HZ5.out.cells
        by_cases hq : insTextB x.o x.r x.a x.b x.n = s
        · have tq := eqT_yes hq
          have HQ : Hid (ReadOf s x) := ⟨HY.out, hq⟩
          clear hq
          go_wp2
          refine bodyPost_ret (v := .tuple #[insV x.o x.r x.a x.b x.n, .bool true]) (by simp [results, Tryd.results10, go_sem, z0, z1, z2, z3, z4]) rfl ⟨⟨true, x, rfl, fun _ => HQ.out, (fun h => by cases h)⟩, ?_⟩
          exact (((((B5.out.setCell (by simp) _).setCell (by simp) _).setCell (by simp) _).setCell (by simp) _).setCell (by simp) _)
        · have tq := eqT_no hq
          have HF : Hid (∀ y, ¬ ReadOf s y) := fun y hy => by
            have e := HX.out y hy
            subst e
            exact hq hy.2
          clear hq
          go_wp2
          refine bodyPost_ret (v := .tuple #[insV 0 0 0 0 0, .bool false]) (by simp [results, Tryd.results10, go_sem, z0, z1, z2, z3, z4]) rfl ⟨⟨false, zero5, rfl, (fun h => by cases h), fun _ => ⟨rfl, HF.out⟩⟩, ?_⟩
          exact (((((B5.out.setCell (by simp) _).setCell (by simp) _).setCell (by simp) _).setCell (by simp) _).setCell (by simp) _)
    · have HF : Hid (∀ y, ¬ ReadOf s y) := fun y hy => by
        have := (read_parts hy).1
        rw [hm] at this
        cases this
      clear hm
      obtain ⟨z0, z1, z2, z3, z4, f0, f1, f2, f3, f4⟩ := HZ2.out.cells
      go_wp2
      refine bodyPost_ret (v := .tuple #[insV 0 0 0 0 0, .bool false]) (by simp [results, Tryd.results10, go_sem, z0, z1, z2, z3, z4]) rfl ⟨⟨false, zero5, rfl, (fun h => by cases h), fun _ => ⟨rfl, HF.out⟩⟩, ?_⟩
      exact (((((B2.out.setCell (by simp) _).setCell (by simp) _).setCell (by simp) _).setCell (by simp) _).setCell (by simp) _)
  · have hc1 : (1 : Int) ≤ (cnt s : Int) := by omega
    have hc2 : ¬ ((cnt s : Int) = 0) := by omega
    have hc3 : ¬ (cnt s = 0) := by omega
    go_wp2_with fail
    refine (numsOf_any (w.heap.size + 1) 1 (cnt s) (cnt s) (fun j => wd s (j + 1)) w1 (HE.out.self B1.out) (by omega) (by omega) HC1.out (fun j hj => Nat.le_trans (wd_size s _ (by omega)) hs)).mono ?_
    rintro e w2 ⟨hr, hb2⟩
    have B2 : Hid (Below w.heap.size w w2) := B1.out.trans (hb2.mono (by omega))
    have HZ2 : Hid (Zeros w2 w.heap.size) := HZ1.out.below hb2 (by omega)
    have c0 : w2.cell? ⟨w.heap.size + 1, 0, none⟩ = some (.string (wd s 0)) := (hb2.cell (by simp; omega)).trans (HS1.out 0 (by omega))
    have hz2 : w.heap.size + 2 ≤ w2.heap.size := by have := hb2.size; omega
    clear hb2
    rcases hr with ⟨ns, v, hm, rfl, hn⟩ | ⟨hm, v, rfl⟩
    · have HM : Hid ((wordsTo (fun j => wd s (j + 1)) (cnt s)).mapM numM = some ns) := hm
      have HN : Hid (Nums w2 w1.heap.size v ns) := hn
      clear hm hn
      go_wp2_with fail
      refine (opOf_any (wd s 0) _ (HE.out.self B2.out).env).mono ?_
      rintro e w3 ⟨rfl, rfl⟩
      go_wp2_with fail
      refine (insOf_any _ v ns w1.heap.size _ HN.out).mono ?_
      rintro e w4 ⟨rfl, hb4⟩
      have B4 : Hid (Below w.heap.size w w4) := B2.out.trans (hb4.mono (by omega))
      have HZ4 : Hid (Zeros w4 w.heap.size) := HZ2.out.below hb4 (by omega)
      have hz4 : w.heap.size < w4.heap.size := by have := hb4.size; omega
      have hz5 : ¬ w4.heap.size = w.heap.size := by omega
      clear hb4
      have HX : Hid (∀ y, ReadOf s y → insM (opM (wd s 0).data.toList) ns = y) := fun y hy => by
        obtain ⟨p1, p2, _⟩ := read_parts hy
        rw [HM.out] at p1
        cases p1
        exact p2
      generalize insM (opM (wd s 0).data.toList) ns = x at *
      rw [insV5]
      by_cases he : s.data.toList = []
      · have te : s.toList.isEmpty = true := by rw [Lib.toList_data, he]; rfl
        have HF : Hid (∀ y, ¬ ReadOf s y) := fun y hy => hy.1 he
        clear he
        obtain ⟨z0, z1, z2, z3, z4, f0, f1, f2, f3, f4⟩ := HZ4.out.cells
        go_wp2
        refine bodyPost_ret (v := .tuple #[insV 0 0 0 0 0, .bool false]) (by simp [results, Tryd.results10, go_sem, z0, z1, z2, z3, z4, hz4]) rfl ⟨⟨false, zero5, rfl, (fun h => by cases h), fun _ => ⟨rfl, HF.out⟩⟩, ?_⟩
        exact ((((((B4.out.setCell (by simp) _).setCell (by simp) _).setCell (by simp) _).setCell (by simp) _).setCell (by simp) _).alloc (by simp; omega) _)
      · have te : s.toList.isEmpty = false := by
          rw [Lib.toList_data]
          cases h : s.data.toList
          · exact absurd h he
          · rfl
        have HY : Hid (s.data.toList ≠ []) := he
        clear he
        go_wp2_with fail
        refine (implInsText_any x.o x.r x.a x.b x.n _ (env_alloc (HE.out.self B4.out).env _)).mono ?_
        rintro e w5 ⟨rfl, hb5⟩
        have B5 : Hid (Below w.heap.size w w5) := (B4.out.alloc (by omega) _).trans (hb5.mono (by simp; omega))
        have HZ5 : Hid (Zeros w5 w.heap.size) := (HZ4.out.below ((Below.refl w4.heap.size w4).alloc (Nat.le_refl _) _) hz4).below hb5 (by simp; omega)
        have x0 : w5.cell? ⟨w4.heap.size, 0, none⟩ = some (.int .i64 x.o) := by rw [hb5.cell (by simp)]; simp
        have x1 : w5.cell? ⟨w4.heap.size, 1, none⟩ = some (.int .i64 x.r) := by rw [hb5.cell (by simp)]; simp
        have x2 : w5.cell? ⟨w4.heap.size, 2, none⟩ = some (.int .i64 x.a) := by rw [hb5.cell (by simp)]; simp
        have x3 : w5.cell? ⟨w4.heap.size, 3, none⟩ = some (.int .i64 x.b) := by rw [hb5.cell (by simp)]; simp
        have x4 : w5.cell? ⟨w4.heap.size, 4, none⟩ = some (.int .i64 x.n) := by rw [hb5.cell (by simp)]; simp
        clear hb5
        obtain ⟨z0, z1, z2, z3, z4, f0, f1, f2, f3, f4⟩ := HZ5.out.cells
        by_cases hq : insTextB x.o x.r x.a x.b x.n = s
        · have tq := eqT_yes hq
          have HQ : Hid (ReadOf s x) := ⟨HY.out, hq⟩
          clear hq
          go_wp2
          refine bodyPost_ret (v := .tuple #[insV x.o x.r x.a x.b x.n, .bool true]) (by simp [results, Tryd.results10, go_sem, z0, z1, z2, z3, z4]) rfl ⟨⟨true, x, rfl, fun _ => HQ.out, (fun h => by cases h)⟩, ?_⟩
          exact (((((B5.out.setCell (by simp) _).setCell (by simp) _).setCell (by simp) _).setCell (by simp) _).setCell (by simp) _)
        · have tq := eqT_no hq
          have HF : Hid (∀ y, ¬ ReadOf s y) := fun y hy => by
            have e := HX.out y hy
            subst e
            exact hq hy.2
          clear hq
          go_wp2
          refine bodyPost_ret (v := .tuple #[insV 0 0 0 0 0, .bool false]) (by simp [results, Tryd.results10, go_sem, z0, z1, z2, z3, z4]) rfl ⟨⟨false, zero5, rfl, (fun h => by cases h), fun _ => ⟨rfl, HF.out⟩⟩, ?_⟩
          exact (((((B5.out.setCell (by simp) _).setCell (by simp) _).setCell (by simp) _).setCell (by simp) _).setCell (by simp) _)
    · have HF : Hid (∀ y, ¬ ReadOf s y) := fun y hy => by
        have := (read_parts hy).1
        rw [hm] at this
        cases this
      clear hm
      obtain ⟨z0, z1, z2, z3, z4, f0, f1, f2, f3, f4⟩ := HZ2.out.cells
      go_wp2
      refine bodyPost_ret (v := .tuple #[insV 0 0 0 0 0, .bool false]) (by simp [results, Tryd.results10, go_sem, z0, z1, z2, z3, z4]) rfl ⟨⟨false, zero5, rfl, (fun h => by cases h), fun _ => ⟨rfl, HF.out⟩⟩, ?_⟩
      exact (((((B2.out.setCell (by simp) _).setCell (by simp) _).setCell (by simp) _).setCell (by simp) _).setCell (by simp) _)

end Go.Proofs.YtdlfdelngolkgaaDoor
