/- The library's sort over a row of kept states. -/
import Derived.Test.YtcmmlklanjhfoaaGreatDoorGa46
import Derived.Test.YtcmmlklanjhfoaaGreatDoorShelf
namespace Go.Proofs.YtcmmlklanjhfoaaGreatDoor
open Go.ChangeShapes Go.WideShapes Go.ChangeAt Go.RowKit Go.Deep Go.Lib Go.Shelf

/-- A kept state as the sort sees it: its number, and where its lists lie. -/
abbrev Kx := Nat × (Option Addr × Nat) × (Option Addr × Nat)
/-- Its five cells. -/
def kxE (S : Nat → S4) (x : Kx) : List Value := [.int .i64 ((x.1 : Nat) : Int), .int .i64 (S x.1).p, .slice x.2.1.1 (S x.1).rs.length x.2.1.2, .slice x.2.2.1 (S x.1).os.length x.2.2.2, .int .i64 (S x.1).c]
/-- How two of them compare. -/
def kxC (x y : Kx) : Int := Lib.compareInt ((x.1 : Nat) : Int) ((y.1 : Nat) : Int)

theorem kxLt (x y : Kx) : ltOf kxC x y = decide (x.1 < y.1) := by
  unfold ltOf kxC Lib.compareInt
  by_cases h1 : x.1 < y.1
  · simp [h1]
  · by_cases h2 : y.1 < x.1 <;> simp [h1, h2]

theorem kxO : Sort.SWO (ltOf kxC) where
  irrefl x := by rw [kxLt]; simp
  trans x y z h1 h2 := by rw [kxLt] at *; simp at *; omega
  ntrans x y z h1 h2 := by rw [kxLt] at *; simp at *; omega

set_option maxRecDepth 100000 in
set_option maxHeartbeats 1000000 in
/-- The program's own comparison. -/
theorem told1_any (S : Nat → S4) (x y : Kx) (w : World) : Calls Tryz.prog 42 #[.agg (kxE S x).toArray, .agg (kxE S y).toArray] w fun e w' => e = .returned (.int .i64 (kxC x y)) ∧ ∃ q os', w' = Sort.grow (w.drewN q) os' := by
  have hc := Tryz.cmp_Compare_int ((x.1 : Nat) : Int) ((y.1 : Nat) : Int)
  unfold kxE kxC
  go_enter Tryz.func42, Tryz.ntmps42
  go_wp2_with (go_at_call 43; refine (hc _).mono ?_; rintro e w' ⟨rfl, rfl⟩)
  go_ret
  exact ⟨rfl, 0, _, by rw [Sort.alloc_eq_grow, Sort.alloc_eq_grow, Sort.grow_grow]; rfl⟩

theorem flat_cell (S : Nat → S4) (D : Array Kx) (w : World) (blk k : Nat) (hk : D.size = k) (hfr : ∀ j, w.frozen? ⟨blk, j, none⟩ = false) (h : ∀ i, i < k → ∀ c, c < 5 → w.cell? ⟨blk, i * 5 + c, none⟩ = some (kxE S D[i]!)[c]!) : Sort.HoldsK (kxE S) 5 w blk 0 D := by
  intro t ht
  rw [Sort.size_flatK, hk] at ht
  refine ⟨?_, hfr _⟩
  rw [Sort.get_flatK _ _ _ _ (by rw [hk]; exact ht)]
  have e := h (t / 5) (by omega) (t % 5) (Nat.mod_lt _ (by omega))
  rw [show t / 5 * 5 + t % 5 = 0 + t by omega] at e
  exact e

theorem mapBlock_other (w : World) (blk : Nat) (f : Array Value → Array Value) (x : Nat) (h : x ≠ blk) : (Sort.mapBlock w blk f).heap[x]? = w.heap[x]? := by
  unfold Sort.mapBlock
  simp [Array.getElem?_modify, Ne.symm h]

set_option maxHeartbeats 1000000 in
/-- The sort does what is asked of it. -/
theorem sortC_holds : SortC := by
  intro k blk cap L V S w hcel hfr hblk hk
  have hex : ∀ i, ∃ x : Kx, i < k → x.1 = L i ∧ V (L i) = stV (S (L i)).p x.2.1.1 (S (L i)).rs.length x.2.1.2 x.2.2.1 (S (L i)).os.length x.2.2.2 (S (L i)).c ∧ ∀ c, c < 5 → w.cell? ⟨blk, i * 5 + c, none⟩ = some (kxE S x)[c]! := by
    intro i
    by_cases hi : i < k
    · obtain ⟨ra, rc, oa, oc, ev, h0, h1, h2, h3, h4⟩ := hcel i hi
      refine ⟨(L i, (ra, rc), (oa, oc)), fun _ => ⟨rfl, ev, fun c hc => ?_⟩⟩
      match c, hc with
      | 0, _ => exact h0
      | 1, _ => exact h1
      | 2, _ => exact h2
      | 3, _ => exact h3
      | 4, _ => exact h4
    · exact ⟨(0, (none, 0), (none, 0)), fun h => absurd h hi⟩
  let X : Nat → Kx := fun i => Classical.choose (hex i)
  have hX : ∀ i, i < k → (X i).1 = L i ∧ V (L i) = stV (S (L i)).p (X i).2.1.1 (S (L i)).rs.length (X i).2.1.2 (X i).2.2.1 (S (L i)).os.length (X i).2.2.2 (S (L i)).c ∧ ∀ c, c < 5 → w.cell? ⟨blk, i * 5 + c, none⟩ = some (kxE S (X i))[c]! := fun i hi => Classical.choose_spec (hex i) hi
  let d : Array Kx := (Array.range k).map X
  have hds : d.size = k := by simp [d]
  have hdg : ∀ i, i < k → d[i]! = X i := fun i hi => by simp [d, hi]
  have hH : Sort.HoldsK (kxE S) 5 w blk 0 d := flat_cell S d w blk k hds hfr fun i hi c hc => by rw [hdg i hi]; exact (hX i hi).2.2 c hc
  have eg : ∀ args w, (callFunc 42 args).run Tryz.prog w = .ok (.enter 42 args) w := enters_of Tryz.func42 (by kernel_rfl) rfl
  have hcmp : CmpLays Tryz.prog 42 #[] (kxE S) 5 kxC blk 0 d.size w := fun m os dk _ x y => told1_any S x y _
  have hcon := AnyQ.slices_SortFunc Tryz.laysSlF06_f41 5 Tryz.isAgg48 Tryz.sizeOf48 (kxE S) (fun _ => rfl) (fun x v hv => by simp [kxE] at hv; rcases hv with rfl | rfl | rfl | rfl | rfl <;> rfl) kxC kxO 42 #[] blk 0 cap d w eg hcmp hH hblk (by omega)
  change Calls Tryz.prog 41 _ _ _ at hcon
  rw [hds] at hcon
  refine hcon.mono ?_
  rintro e w' ⟨rfl, d', q, os, ⟨hs', -, hp⟩, hso, rfl⟩
  have hs1 : d'.size = k := hs'.trans hds
  have hp1 : d'.toList.Perm d.toList := by
    have e1 : d'.extract 0 k = d' := by rw [← hs1]; exact Array.extract_size
    have e2 : d.extract 0 k = d := by rw [← hds]; exact Array.extract_size
    rw [e1, e2] at hp
    exact hp
  have g1 : ∀ i, (hi : i < k) → d'[i]! = d'.toList[i]'(by simpa [hs1] using hi) := fun i hi => by
    rw [getElem!_pos d' i (by omega)]
    simp
  have g2 : ∀ i, (hi : i < k) → d[i]! = d.toList[i]'(by rw [Array.length_toList, hds]; exact hi) := fun i hi => by
    rw [getElem!_pos d i (by omega)]
    simp
  have m1 : ∀ i, i < k → ∃ j, j < k ∧ d'[i]! = X j := fun i hi => by
    have h1 : d'.toList[i]'(by simpa [hs1] using hi) ∈ d.toList := hp1.subset (List.getElem_mem _)
    obtain ⟨j, hj, ej⟩ := List.getElem_of_mem h1
    have hj' : j < k := by rw [Array.length_toList, hds] at hj; exact hj
    exact ⟨j, hj', by rw [g1 i hi, ← ej, ← g2 j hj', hdg j hj']⟩
  have m2 : ∀ j, j < k → ∃ i, i < k ∧ d'[i]! = X j := fun j hj => by
    have h1 : d.toList[j]'(by rw [Array.length_toList, hds]; exact hj) ∈ d'.toList := hp1.symm.subset (List.getElem_mem _)
    obtain ⟨i, hi, ei⟩ := List.getElem_of_mem h1
    have hi' : i < k := by rw [Array.length_toList, hs1] at hi; exact hi
    exact ⟨i, hi', by rw [g1 i hi', ei, ← g2 j hj, hdg j hj]⟩
  have hH' := holdsK_sortWorldK_c (kxE S) 5 w blk 0 d d' q os hH hblk hs'
  refine ⟨rfl, fun i => (d'[i]!).1, fun i hi => ?_, fun j hj => ?_, fun i j hij hj => ?_, fun hinj i j hi hj hne he => ?_, fun i hi => ?_, fun j => ?_, ⟨rfl, rfl, rfl, size_sortWorldK_c _ _ _ _ _ _ _ _, fun x hx hn => ?_⟩⟩
  · obtain ⟨j, hj, ej⟩ := m1 i hi
    exact ⟨j, hj, by show (d'[i]!).1 = L j; rw [ej]; exact (hX j hj).1⟩
  · obtain ⟨i, hi, ei⟩ := m2 j hj
    exact ⟨i, hi, by show (d'[i]!).1 = L j; rw [ei]; exact (hX j hj).1⟩
  · have h1 := hso i j (Nat.zero_le _) hij hj
    rw [kxLt] at h1
    simp only [decide_eq_false_iff_not] at h1
    show (d'[i]!).1 ≤ (d'[j]!).1
    omega
  · have n1 : (d.toList.map (·.1)).Nodup := by
      rw [List.Nodup, List.pairwise_iff_getElem]
      intro a b ha hb hab
      simp only [List.length_map, Array.length_toList, hds] at ha hb
      simp only [List.getElem_map]
      rw [← g2 a ha, ← g2 b hb, hdg a ha, hdg b hb, (hX a ha).1, (hX b hb).1]
      exact hinj a b ha hb (by omega)
    have n2 : (d'.toList.map (·.1)).Nodup := (hp1.map (·.1)).symm.nodup_iff.1 n1
    rw [List.Nodup, List.pairwise_iff_getElem] at n2
    have n3 : ∀ a b, a < b → b < k → (d'[a]!).1 ≠ (d'[b]!).1 := fun a b hab hb => by
      have := n2 a b (by simp [hs1]; omega) (by simp [hs1]; omega) hab
      simp only [List.getElem_map] at this
      rw [g1 a (by omega), g1 b hb]
      exact this
    rcases Nat.lt_or_gt_of_ne hne with h | h
    · exact n3 i j h hj he
    · exact n3 j i h hi he.symm
  · obtain ⟨j, hj, ej⟩ := m1 i hi
    obtain ⟨x1, x2, -⟩ := hX j hj
    have c : ∀ c, c < 5 → (sortWorldK (kxE S) 5 w blk 0 q d' os).cell? ⟨blk, i * 5 + c, none⟩ = some (kxE S d'[i]!)[c]! := fun c hc => by
      have := (Sort.HoldsK.cell hH' (i := i) (c := c) (by omega) hc).1
      rw [Nat.zero_add] at this
      exact this
    have el : (d'[i]!).1 = L j := by rw [ej]; exact x1
    have c0 := c 0 (by omega)
    have c1 := c 1 (by omega)
    have c2 := c 2 (by omega)
    have c3 := c 3 (by omega)
    have c4 := c 4 (by omega)
    show Cel5 _ blk (i * 5) (((d'[i]!).1 : Nat) : Int) (S (d'[i]!).1) (V (d'[i]!).1)
    refine ⟨(d'[i]!).2.1.1, (d'[i]!).2.1.2, (d'[i]!).2.2.1, (d'[i]!).2.2.2, ?_, c0, c1, c2, c3, c4⟩
    rw [el, ej]
    exact x2
  · have e1 : (sortWorldK (kxE S) 5 w blk 0 q d' os).frozen? ⟨blk, j, none⟩ = w.frozen? ⟨blk, j, none⟩ := by
      unfold sortWorldK
      rw [Sort.frozen?_grow _ _ _ (by rw [Sort.size_putRowK]; exact hblk)]
      unfold Sort.putRowK
      rw [Sort.frozen?_putRow]
      rfl
    rw [e1]
    exact hfr j
  · unfold sortWorldK
    rw [Sort.heap_grow_old _ _ (by rw [Sort.size_putRowK]; exact hx)]
    exact mapBlock_other _ _ _ _ hn
end Go.Proofs.YtcmmlklanjhfoaaGreatDoor
