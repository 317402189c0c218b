/- The walk of the model's InsRead, for the ops 9, 10, 11. -/
import Derived.Test.YtdlfdelngolkgaaDoorReadU
namespace Go.Proofs.YtdlfdelngolkgaaDoor
open Go.RowKit Go.Sort

set_option maxRecDepth 100000 in
set_option maxHeartbeats 4000000 in
theorem specInsRead_9 (s : ByteArray) (w : World) (hs : s.size ≤ 1048576) (hop : opTo (wd s 0) 12 = 9) :
    Calls Tryd.prog 12 #[.string s] w fun e w' => ReadR s e ∧ Below w.heap.size w w' := by
  have HOP : Hid (opTo (wd s 0) 12 = 9) := hop
  have HY : Hid (s.data.toList ≠ []) := fun he => by
    have := opTo_empty he
    omega
  clear hop
  have hcl := cnt_le s
  have hcl' : (cnt s : Int) ≤ 1048576 := by omega
  go_enter Tryd.func12, Tryd.ntmps12
  go_wp2_with fail
  refine (l1Words_any s _ hs).mono ?_
  rintro e w1 ⟨v, rfl, hw, hb1⟩
  obtain ⟨g, gc, rfl, hg1, hg2, hgc⟩ := words_lie hw
  rw [World.size_alloc] at hg1
  have B1 : Hid (Below w.heap.size w w1) := ((Below.refl _ _).alloc (Nat.le_refl _) _).trans (hb1.mono (by simp))
  have HR1 : Hid (Cell5 w1 w.heap.size zero5) := Cell5.below (by rw [Cell5, heap_alloc_new]; rfl) hb1 (by simp)
  have HG1 : Hid (∀ j, j < cnt s + 1 → w1.cell? ⟨g, j, none⟩ = some (.string (wd s j))) := hgc
  clear hw hb1 hgc
  go_wp2_with fail
  refine (l1Names_any _).mono ?_
  rintro e w2 ⟨rfl, hn, hz2, hb2⟩
  rw [World.size_alloc] at hn hz2
  have hz1 : w.heap.size < w1.heap.size := by omega
  have B2 : Hid (Below w.heap.size w w2) := (B1.out.alloc (by omega) _).trans (hb2.mono (by simp; omega))
  have HR2 : Hid (Cell5 w2 w.heap.size zero5) := (HR1.out.below ((Below.refl w1.heap.size w1).alloc (Nat.le_refl _) _) hz1).below hb2 (by simp; omega)
  have HX2 : Hid (Cell5 w2 w1.heap.size zero5) := Cell5.below (by rw [Cell5, heap_alloc_new]; rfl) hb2 (by simp)
  have HG2 : Hid (∀ j, j < cnt s + 1 → w2.cell? ⟨g, j, none⟩ = some (.string (wd s j))) := fun j hj => (hb2.cell (by simp; omega)).trans ((((Below.refl w1.heap.size w1).alloc (Nat.le_refl _) _).cell hg2).trans (HG1.out j hj))
  have HN2 : Hid (∀ i, i < 12 → w2.cell? ⟨w1.heap.size + 1, i, none⟩ = some (.string (wordT i))) := hn
  clear hn hb2 B1 HR1 HG1
  go_wp2_with fail
  go_loopw [7] (fun i wr => ∃ (k : Nat) (o : Int), 1 ≤ k ∧ k ≤ 12 ∧ i = .int .i64 k ∧ Hid ((OpTo s k o ∧ o = opTo (wd s 0) k) ∧ SameBut w1.heap.size w2 wr ∧ Cell5 wr w1.heap.size ⟨o, 0, 0, 0, 0⟩ ∧ Below w.heap.size w wr)) (fun i _ => 12 - (intOf i).toNat)
  case atStart => exact ⟨1, 0, by omega, by omega, rfl, ⟨OpTo.zero s, rfl⟩, SameBut.refl _ _, HX2.out, B2.out⟩
  case round =>
    obtain ⟨k, o, k1, k2, rfl, HI⟩ := hrel
    obtain ⟨x0, x1, x2, x3, x4, f0, f1, f2, f3, f4⟩ := HI.out.2.2.1.cells
    simp only at x0 x1 x2 x3 x4
    have c0 : wr.cell? ⟨g, 0, none⟩ = some (.string (wd s 0)) := (HI.out.2.1.cell (by omega)).trans (HG2.out 0 (by omega))
    by_cases hk : k < 12
    · have hk' : (k : Int) < 12 := by omega
      have cn : wr.cell? ⟨w1.heap.size + 1, k, none⟩ = some (.string (wordT k)) := (HI.out.2.1.cell (by omega)).trans (HN2.out k hk)
      by_cases he : wordT k = wd s 0
      · have t := eqT_yes he
        have HO : Hid (OpTo s (k + 1) k ∧ (k : Int) = opTo (wd s 0) (k + 1)) := ⟨HI.out.1.1.hit k1 (by omega) he, (opTo_hit k1 he).symm⟩
        clear he
        go_wp2_with fail
        go_region
        all_goals
          go_wp2
          go_roundw
          case rel => exact ⟨k + 1, k, by omega, by omega, by go_num, HO.out, HI.out.2.1.set _ _, HI.out.2.2.1.op _, (HI.out.2.2.2.setCell (by simp; omega) _).drew⟩
          case measure => simp [intOf]; omega
      · have t := eqT_no he
        have HO : Hid (OpTo s (k + 1) o ∧ o = opTo (wd s 0) (k + 1)) := ⟨HI.out.1.1.miss he, by rw [opTo_miss he]; exact HI.out.1.2⟩
        clear he
        go_wp2_with fail
        go_region
        all_goals
          go_wp2
          go_roundw
          case rel => exact ⟨k + 1, o, by omega, by omega, by go_num, HO.out, HI.out.2.1, HI.out.2.2.1, HI.out.2.2.2.drew⟩
          case measure => simp [intOf]; omega
    · have hk' : ¬ (k : Int) < 12 := by omega
      have hkk : k = 12 := by omega
      have ho : o = 9 := by rw [HI.out.1.2, hkk]; exact HOP.out
      have HO : Hid (OpTo s 12 9) := by rw [← hkk, ← ho]; exact HI.out.1.1
      have B3 : Hid (Below w.heap.size w wr) := HI.out.2.2.2
      have HX3 : Hid (Cell5 wr w1.heap.size ⟨9, 0, 0, 0, 0⟩) := by rw [← ho]; exact HI.out.2.2.1
      have hz3 : w1.heap.size + 1 < wr.heap.size := by have := HI.out.2.1.1; omega
      have HR3 : Hid (Cell5 wr w.heap.size zero5) := (HI.out.2.1.2 _ (by omega)).trans HR2.out
      have HG3 : Hid (∀ j, j < cnt s + 1 → wr.cell? ⟨g, j, none⟩ = some (.string (wd s j))) := fun j hj => (HI.out.2.1.cell (by omega)).trans (HG2.out j hj)
      have hg3 : g < wr.heap.size := by omega
      clear HI x0 x1 x2 x3 x4 f0 f1 f2 f3 f4 c0 hkk HR2 HX2 HG2 HN2 B2 k1 k2 hk ho HOP hz2
      obtain ⟨w3, hw3⟩ : ∃ w3, w3 = wr := ⟨_, rfl⟩
      subst hw3
      go_wp2_with fail
      go_loopw [8, 9] (fun l i wr => ∃ (k : Nat) (ns : List Int), 1 ≤ k ∧ k ≤ 5 ∧ k ≤ cnt s + 1 ∧ i = .int .i64 k ∧ Hid (NsTo s k ns ∧ Nums wr w3.heap.size l ns) ∧ Below w3.heap.size w3 wr) (fun _ i _ => 5 - (intOf i).toNat)
      case atStart => exact ⟨1, [], by omega, by omega, by omega, rfl, ⟨NsTo.zero s, World.ownsRow_lit w3 #[] 0 (Nat.le_refl _) (by unfold maxLen; omega) rfl⟩, (Below.refl _ _).alloc (Nat.le_refl _) _⟩
      case round =>
        obtain ⟨k, ns, k1, k2, k3, rfl, HI, hbw⟩ := hrel
        have hsz := hbw.size
        have hnl : ns.length + 1 = k := HI.out.1.1
        by_cases hlt : k < cnt s + 1
        · have hlt' : (k : Int) < (cnt s : Int) + 1 := by omega
          by_cases h5 : k < 5
          · have h5' : (k : Int) < 5 := by omega
            have ck : wr.cell? ⟨g, k, none⟩ = some (.string (wd s k)) := (hbw.cell hg3).trans (HG3.out k hlt)
            go_wp2_with fail
            refine (l1Read_any (wd s k) _ (Nat.le_trans (wd_size s k hlt) hs)).mono ?_
            rintro e w5 ⟨⟨xv, ok, rfl, hx⟩, hb5⟩
            have HX : Hid (∀ n, Fit n → wd s k = numT n → xv = n ∧ ok = true) := hx
            have hb6 : Below w3.heap.size w3 w5 := hbw.trans (hb5.mono hsz)
            have c5 : w5.cell? ⟨g, k, none⟩ = some (.string (wd s k)) := (hb6.cell hg3).trans (HG3.out k hlt)
            have hsz5 := hb6.size
            have HN5 : Hid (Nums w5 w3.heap.size u8 ns) := HI.out.2.kept (row := none) ⟨hb5.os, hb5.tape, hb5.output, hb5.size, fun j hj _ => hb5.block j hj⟩ (by cases hv : u8.ownBlock <;> simp)
            clear hx hb5
            by_cases ha : wd s k = ⟨#[97, 110, 121]⟩
            · have t : ((wd s k).toList == [97, 110, 121]) = true := by rw [← anyL]; exact eqT_yes ha
              have HS : Hid (NsTo s (k + 1) (ns ++ [9])) := HI.out.1.step 9 (fun y hy => any_hit k1 hlt ha hy)
              clear ha
              go_wp2_with (at_builtin; refine append_int w5 rfl _ _ rfl w3.heap.size u8 ns rfl HN5.out 9 rfl (by omega) hsz5 ?_; intro v' w7 hl7 hg7; have HN7 : Hid (Nums w7 w3.heap.size v' (ns ++ [9])) := hl7; have hb7 : Below w3.heap.size w3 w7 := Below.grown (hb6.alloc hsz5 _) hg7 (by simp; omega) (fun j hj => (HN5.out.lt j hj).1); clear hl7 hg7)
              go_roundw
              case rel => exact ⟨k + 1, ns ++ [9], by omega, by omega, by omega, by go_num, ⟨HS.out, HN7.out⟩, hb7⟩
              case measure => simp [intOf]; omega
            · have t : ((wd s k).toList == [97, 110, 121]) = false := by rw [← anyL]; exact eqT_no ha
              have HQ : Hid (∀ y, ReadOf s y → (args5 y)[k - 1]? = some xv ∧ ok = true) := fun y hy => num_hit k1 hlt HX.out ha hy
              clear ha
              cases ok with
              | false =>
                have HF : Hid (∀ y, ¬ ReadOf s y) := fun y hy => by cases (HQ.out y hy).2
                obtain ⟨z0, z1, z2, z3, z4, f0, f1, f2, f3, f4⟩ := (HR3.out.below hb6 (by omega)).cells
                simp only [zero5] at z0 z1 z2 z3 z4
                go_wp2
                refine bodyPost_ret (v := .tuple #[insV 0 0 0 0 0, .bool false]) (by simp [results, Tryd.results12, go_sem, z0, z1, z2, z3, z4]) rfl ⟨⟨false, zero5, rfl, (fun h => by cases h), fun _ => ⟨rfl, HF.out⟩⟩, ?_⟩
                exact (((((B3.out.trans (hb6.mono (by omega))).setCell (p := ⟨w.heap.size, 0, none⟩) (Nat.le_refl _) _).setCell (p := ⟨w.heap.size, 1, none⟩) (Nat.le_refl _) _).setCell (p := ⟨w.heap.size, 2, none⟩) (Nat.le_refl _) _).setCell (p := ⟨w.heap.size, 3, none⟩) (Nat.le_refl _) _).setCell (p := ⟨w.heap.size, 4, none⟩) (Nat.le_refl _) _
              | true =>
                have HS : Hid (NsTo s (k + 1) (ns ++ [xv])) := HI.out.1.step xv (fun y hy => (HQ.out y hy).1)
                go_wp2_with (at_builtin; refine append_int w5 rfl _ _ rfl w3.heap.size u8 ns rfl HN5.out xv rfl (by omega) hsz5 ?_; intro v' w7 hl7 hg7; have HN7 : Hid (Nums w7 w3.heap.size v' (ns ++ [xv])) := hl7; have hb7 : Below w3.heap.size w3 w7 := Below.grown (hb6.alloc hsz5 _) hg7 (by simp; omega) (fun j hj => (HN5.out.lt j hj).1); clear hl7 hg7)
                go_roundw
                case rel => exact ⟨k + 1, ns ++ [xv], by omega, by omega, by omega, by go_num, ⟨HS.out, HN7.out⟩, hb7⟩
                case measure => simp [intOf]; omega
          · have h5' : ¬ (k : Int) < 5 := by omega
            have HS : Hid (∀ y, ReadOf s y → ns = args5 y) := fun y hy => HI.out.1.done (.inr (by omega)) hy
            have HN : Hid (Nums wr w3.heap.size u8 ns) := HI.out.2
            have hnl4 : ns.length ≤ 4 := by omega
            go_wp2_with (at_builtin; refine append_stop rfl ?_)
            unfold STOP
            refine append_int3 wr rfl _ _ rfl w3.heap.size u8 ns rfl HN.out rfl (by omega) hsz ?_
            intro v' w7 hl7 hg7
            have hb7 : Below w3.heap.size w3 w7 := Below.grown (hbw.alloc hsz _) hg7 (Nat.le_trans hsz (by simp)) (fun j hj => (HN.out.lt j hj).1)
            obtain ⟨g7, c7, L, m0, m1, m2, rfl, hgb, hglt, hl3, hl8, hm0, hm1, hm2, hmm⟩ := tail_facts hl7 hnl4 HS.out HO.out
            have HM : Hid (_) := hmm
            have hl0' : (0 : Int) < (L : Int) := by omega
            have hl1' : (1 : Int) < (L : Int) := by omega
            have hl2' : (2 : Int) < (L : Int) := by omega
            have hl0n : 0 < L := by omega
            have hl1n : 1 < L := by omega
            have hl2n : 2 < L := by omega
            have HU7 : Hid (Upd w w1.heap.size ⟨9, 0, 0, 0, 0⟩ w7 w7) := ⟨SameBut.refl _ _, HX3.out.below hb7 (by omega), B3.out.trans (hb7.mono (by omega))⟩
            have HR7 : Hid (Cell5 w7 w.heap.size zero5) := HR3.out.below hb7 (by omega)
            have hs7 := hb7.size
            have hsz7 : w1.heap.size < w7.heap.size := by omega
            have hwr7 : w.heap.size < w7.heap.size := by omega
            have hne7 : ¬ g7 = w1.heap.size := by omega
            have hne7' : ¬ w1.heap.size = g7 := by omega
            have hneRg : ¬ w.heap.size = g7 := by omega
            clear hl7 hg7 hb7 hmm
            obtain ⟨x0, x1, x2, x3, x4, f0, f1, f2, f3, f4⟩ := HU7.out.cell.cells
            simp only at x0 x1 x2 x3 x4
            obtain ⟨z0, z1, z2, z3, z4, e0, e1, e2, e3, e4⟩ := HR7.out.cells
            simp only [zero5] at z0 z1 z2 z3 z4
            clear HN HI hbw hsz HX3 HR3 HG3 HO HS
            have te : s.toList.isEmpty = false := by
              rw [Lib.toList_data]
              cases h : s.data.toList
              · exact absurd h HY.out
              · rfl
            go_wp2_with fail
            refine (specInsText_any 9 0 0 0 m0 _).mono ?_
            rintro e w8 ⟨rfl, hb8⟩
            obtain ⟨hx8, hr8, B8, hsz8⟩ := Upd.call (HU7.out.n (by omega) m0) HR7.out hb8 (by omega) hsz7 hwr7
            clear hb8 x0 x1 x2 x3 x4 f0 f1 f2 f3 f4 z0 z1 z2 z3 z4 e0 e1 e2 e3 e4 hm0 hm1 hm2
            obtain ⟨x0, x1, x2, x3, x4, -⟩ := hx8.cells
            simp only at x0 x1 x2 x3 x4
            obtain ⟨z0, z1, z2, z3, z4, e0, e1, e2, e3, e4⟩ := hr8.cells
            simp only [zero5] at z0 z1 z2 z3 z4
            have B8' : Hid (Below w.heap.size w w8) := B8
            clear hx8 hr8 B8
            by_cases hq : insTextB 9 0 0 0 m0 = s
            · have tq := eqT_yes hq
              have HQ : Hid (ReadOf s ⟨9, 0, 0, 0, m0⟩) := ⟨HY.out, hq⟩
              clear hq
              go_wp2
              refine bodyPost_ret (v := .tuple #[insV 9 0 0 0 m0, .bool true]) (by simp [results, Tryd.results12, go_sem, z0, z1, z2, z3, z4]) rfl ⟨⟨true, ⟨9, 0, 0, 0, m0⟩, rfl, fun _ => HQ.out, (fun h => by cases h)⟩, ?_⟩
              exact ((((B8'.out.setCell (p := ⟨w.heap.size, 0, none⟩) (Nat.le_refl _) _).setCell (p := ⟨w.heap.size, 1, none⟩) (Nat.le_refl _) _).setCell (p := ⟨w.heap.size, 2, none⟩) (Nat.le_refl _) _).setCell (p := ⟨w.heap.size, 3, none⟩) (Nat.le_refl _) _).setCell (p := ⟨w.heap.size, 4, none⟩) (Nat.le_refl _) _
            · have tq := eqT_no hq
              have HF : Hid (∀ y, ¬ ReadOf s y) := fun y hy => by
                have e := HM.out y hy
                simp [insS] at e
                subst e
                exact hq hy.2
              clear hq
              go_wp2
              refine bodyPost_ret (v := .tuple #[insV 0 0 0 0 0, .bool false]) (by simp [results, Tryd.results12, go_sem, z0, z1, z2, z3, z4]) rfl ⟨⟨false, zero5, rfl, (fun h => by cases h), fun _ => ⟨rfl, HF.out⟩⟩, ?_⟩
              exact ((((B8'.out.setCell (p := ⟨w.heap.size, 0, none⟩) (Nat.le_refl _) _).setCell (p := ⟨w.heap.size, 1, none⟩) (Nat.le_refl _) _).setCell (p := ⟨w.heap.size, 2, none⟩) (Nat.le_refl _) _).setCell (p := ⟨w.heap.size, 3, none⟩) (Nat.le_refl _) _).setCell (p := ⟨w.heap.size, 4, none⟩) (Nat.le_refl _) _
        · have hlt' : ¬ (k : Int) < (cnt s : Int) + 1 := by omega
          have HS : Hid (∀ y, ReadOf s y → ns = args5 y) := fun y hy => HI.out.1.done (.inl (by omega)) hy
          have HN : Hid (Nums wr w3.heap.size u8 ns) := HI.out.2
          have hnl4 : ns.length ≤ 4 := by omega
          go_wp2_with (at_builtin; refine append_stop rfl ?_)
          unfold STOP
          refine append_int3 wr rfl _ _ rfl w3.heap.size u8 ns rfl HN.out rfl (by omega) hsz ?_
          intro v' w7 hl7 hg7
          have hb7 : Below w3.heap.size w3 w7 := Below.grown (hbw.alloc hsz _) hg7 (Nat.le_trans hsz (by simp)) (fun j hj => (HN.out.lt j hj).1)
          obtain ⟨g7, c7, L, m0, m1, m2, rfl, hgb, hglt, hl3, hl8, hm0, hm1, hm2, hmm⟩ := tail_facts hl7 hnl4 HS.out HO.out
          have HM : Hid (_) := hmm
          have hl0' : (0 : Int) < (L : Int) := by omega
          have hl1' : (1 : Int) < (L : Int) := by omega
          have hl2' : (2 : Int) < (L : Int) := by omega
          have hl0n : 0 < L := by omega
          have hl1n : 1 < L := by omega
          have hl2n : 2 < L := by omega
          have HU7 : Hid (Upd w w1.heap.size ⟨9, 0, 0, 0, 0⟩ w7 w7) := ⟨SameBut.refl _ _, HX3.out.below hb7 (by omega), B3.out.trans (hb7.mono (by omega))⟩
          have HR7 : Hid (Cell5 w7 w.heap.size zero5) := HR3.out.below hb7 (by omega)
          have hs7 := hb7.size
          have hsz7 : w1.heap.size < w7.heap.size := by omega
          have hwr7 : w.heap.size < w7.heap.size := by omega
          have hne7 : ¬ g7 = w1.heap.size := by omega
          have hne7' : ¬ w1.heap.size = g7 := by omega
          have hneRg : ¬ w.heap.size = g7 := by omega
          clear hl7 hg7 hb7 hmm
          obtain ⟨x0, x1, x2, x3, x4, f0, f1, f2, f3, f4⟩ := HU7.out.cell.cells
          simp only at x0 x1 x2 x3 x4
          obtain ⟨z0, z1, z2, z3, z4, e0, e1, e2, e3, e4⟩ := HR7.out.cells
          simp only [zero5] at z0 z1 z2 z3 z4
          clear HN HI hbw hsz HX3 HR3 HG3 HO HS
          have te : s.toList.isEmpty = false := by
            rw [Lib.toList_data]
            cases h : s.data.toList
            · exact absurd h HY.out
            · rfl
          go_wp2_with fail
          refine (specInsText_any 9 0 0 0 m0 _).mono ?_
          rintro e w8 ⟨rfl, hb8⟩
          obtain ⟨hx8, hr8, B8, hsz8⟩ := Upd.call (HU7.out.n (by omega) m0) HR7.out hb8 (by omega) hsz7 hwr7
          clear hb8 x0 x1 x2 x3 x4 f0 f1 f2 f3 f4 z0 z1 z2 z3 z4 e0 e1 e2 e3 e4 hm0 hm1 hm2
          obtain ⟨x0, x1, x2, x3, x4, -⟩ := hx8.cells
          simp only at x0 x1 x2 x3 x4
          obtain ⟨z0, z1, z2, z3, z4, e0, e1, e2, e3, e4⟩ := hr8.cells
          simp only [zero5] at z0 z1 z2 z3 z4
          have B8' : Hid (Below w.heap.size w w8) := B8
          clear hx8 hr8 B8
          by_cases hq : insTextB 9 0 0 0 m0 = s
          · have tq := eqT_yes hq
            have HQ : Hid (ReadOf s ⟨9, 0, 0, 0, m0⟩) := ⟨HY.out, hq⟩
            clear hq
            go_wp2
            refine bodyPost_ret (v := .tuple #[insV 9 0 0 0 m0, .bool true]) (by simp [results, Tryd.results12, go_sem, z0, z1, z2, z3, z4]) rfl ⟨⟨true, ⟨9, 0, 0, 0, m0⟩, rfl, fun _ => HQ.out, (fun h => by cases h)⟩, ?_⟩
            exact ((((B8'.out.setCell (p := ⟨w.heap.size, 0, none⟩) (Nat.le_refl _) _).setCell (p := ⟨w.heap.size, 1, none⟩) (Nat.le_refl _) _).setCell (p := ⟨w.heap.size, 2, none⟩) (Nat.le_refl _) _).setCell (p := ⟨w.heap.size, 3, none⟩) (Nat.le_refl _) _).setCell (p := ⟨w.heap.size, 4, none⟩) (Nat.le_refl _) _
          · have tq := eqT_no hq
            have HF : Hid (∀ y, ¬ ReadOf s y) := fun y hy => by
              have e := HM.out y hy
              simp [insS] at e
              subst e
              exact hq hy.2
            clear hq
            go_wp2
            refine bodyPost_ret (v := .tuple #[insV 0 0 0 0 0, .bool false]) (by simp [results, Tryd.results12, go_sem, z0, z1, z2, z3, z4]) rfl ⟨⟨false, zero5, rfl, (fun h => by cases h), fun _ => ⟨rfl, HF.out⟩⟩, ?_⟩
            exact ((((B8'.out.setCell (p := ⟨w.heap.size, 0, none⟩) (Nat.le_refl _) _).setCell (p := ⟨w.heap.size, 1, none⟩) (Nat.le_refl _) _).setCell (p := ⟨w.heap.size, 2, none⟩) (Nat.le_refl _) _).setCell (p := ⟨w.heap.size, 3, none⟩) (Nat.le_refl _) _).setCell (p := ⟨w.heap.size, 4, none⟩) (Nat.le_refl _) _

set_option maxRecDepth 100000 in
set_option maxHeartbeats 4000000 in
theorem specInsRead_10 (s : ByteArray) (w : World) (hs : s.size ≤ 1048576) (hop : opTo (wd s 0) 12 = 10) :
    Calls Tryd.prog 12 #[.string s] w fun e w' => ReadR s e ∧ Below w.heap.size w w' := by
  have HOP : Hid (opTo (wd s 0) 12 = 10) := hop
  have HY : Hid (s.data.toList ≠ []) := fun he => by
    have := opTo_empty he
    omega
  clear hop
  have hcl := cnt_le s
  have hcl' : (cnt s : Int) ≤ 1048576 := by omega
  go_enter Tryd.func12, Tryd.ntmps12
  go_wp2_with fail
  refine (l1Words_any s _ hs).mono ?_
  rintro e w1 ⟨v, rfl, hw, hb1⟩
  obtain ⟨g, gc, rfl, hg1, hg2, hgc⟩ := words_lie hw
  rw [World.size_alloc] at hg1
  have B1 : Hid (Below w.heap.size w w1) := ((Below.refl _ _).alloc (Nat.le_refl _) _).trans (hb1.mono (by simp))
  have HR1 : Hid (Cell5 w1 w.heap.size zero5) := Cell5.below (by rw [Cell5, heap_alloc_new]; rfl) hb1 (by simp)
  have HG1 : Hid (∀ j, j < cnt s + 1 → w1.cell? ⟨g, j, none⟩ = some (.string (wd s j))) := hgc
  clear hw hb1 hgc
  go_wp2_with fail
  refine (l1Names_any _).mono ?_
  rintro e w2 ⟨rfl, hn, hz2, hb2⟩
  rw [World.size_alloc] at hn hz2
  have hz1 : w.heap.size < w1.heap.size := by omega
  have B2 : Hid (Below w.heap.size w w2) := (B1.out.alloc (by omega) _).trans (hb2.mono (by simp; omega))
  have HR2 : Hid (Cell5 w2 w.heap.size zero5) := (HR1.out.below ((Below.refl w1.heap.size w1).alloc (Nat.le_refl _) _) hz1).below hb2 (by simp; omega)
  have HX2 : Hid (Cell5 w2 w1.heap.size zero5) := Cell5.below (by rw [Cell5, heap_alloc_new]; rfl) hb2 (by simp)
  have HG2 : Hid (∀ j, j < cnt s + 1 → w2.cell? ⟨g, j, none⟩ = some (.string (wd s j))) := fun j hj => (hb2.cell (by simp; omega)).trans ((((Below.refl w1.heap.size w1).alloc (Nat.le_refl _) _).cell hg2).trans (HG1.out j hj))
  have HN2 : Hid (∀ i, i < 12 → w2.cell? ⟨w1.heap.size + 1, i, none⟩ = some (.string (wordT i))) := hn
  clear hn hb2 B1 HR1 HG1
  go_wp2_with fail
  go_loopw [7] (fun i wr => ∃ (k : Nat) (o : Int), 1 ≤ k ∧ k ≤ 12 ∧ i = .int .i64 k ∧ Hid ((OpTo s k o ∧ o = opTo (wd s 0) k) ∧ SameBut w1.heap.size w2 wr ∧ Cell5 wr w1.heap.size ⟨o, 0, 0, 0, 0⟩ ∧ Below w.heap.size w wr)) (fun i _ => 12 - (intOf i).toNat)
  case atStart => exact ⟨1, 0, by omega, by omega, rfl, ⟨OpTo.zero s, rfl⟩, SameBut.refl _ _, HX2.out, B2.out⟩
  case round =>
    obtain ⟨k, o, k1, k2, rfl, HI⟩ := hrel
    obtain ⟨x0, x1, x2, x3, x4, f0, f1, f2, f3, f4⟩ := HI.out.2.2.1.cells
    simp only at x0 x1 x2 x3 x4
    have c0 : wr.cell? ⟨g, 0, none⟩ = some (.string (wd s 0)) := (HI.out.2.1.cell (by omega)).trans (HG2.out 0 (by omega))
    by_cases hk : k < 12
    · have hk' : (k : Int) < 12 := by omega
      have cn : wr.cell? ⟨w1.heap.size + 1, k, none⟩ = some (.string (wordT k)) := (HI.out.2.1.cell (by omega)).trans (HN2.out k hk)
      by_cases he : wordT k = wd s 0
      · have t := eqT_yes he
        have HO : Hid (OpTo s (k + 1) k ∧ (k : Int) = opTo (wd s 0) (k + 1)) := ⟨HI.out.1.1.hit k1 (by omega) he, (opTo_hit k1 he).symm⟩
        clear he
        go_wp2_with fail
        go_region
        all_goals
          go_wp2
          go_roundw
          case rel => exact ⟨k + 1, k, by omega, by omega, by go_num, HO.out, HI.out.2.1.set _ _, HI.out.2.2.1.op _, (HI.out.2.2.2.setCell (by simp; omega) _).drew⟩
          case measure => simp [intOf]; omega
      · have t := eqT_no he
        have HO : Hid (OpTo s (k + 1) o ∧ o = opTo (wd s 0) (k + 1)) := ⟨HI.out.1.1.miss he, by rw [opTo_miss he]; exact HI.out.1.2⟩
        clear he
        go_wp2_with fail
        go_region
        all_goals
          go_wp2
          go_roundw
          case rel => exact ⟨k + 1, o, by omega, by omega, by go_num, HO.out, HI.out.2.1, HI.out.2.2.1, HI.out.2.2.2.drew⟩
          case measure => simp [intOf]; omega
    · have hk' : ¬ (k : Int) < 12 := by omega
      have hkk : k = 12 := by omega
      have ho : o = 10 := by rw [HI.out.1.2, hkk]; exact HOP.out
      have HO : Hid (OpTo s 12 10) := by rw [← hkk, ← ho]; exact HI.out.1.1
      have B3 : Hid (Below w.heap.size w wr) := HI.out.2.2.2
      have HX3 : Hid (Cell5 wr w1.heap.size ⟨10, 0, 0, 0, 0⟩) := by rw [← ho]; exact HI.out.2.2.1
      have hz3 : w1.heap.size + 1 < wr.heap.size := by have := HI.out.2.1.1; omega
      have HR3 : Hid (Cell5 wr w.heap.size zero5) := (HI.out.2.1.2 _ (by omega)).trans HR2.out
      have HG3 : Hid (∀ j, j < cnt s + 1 → wr.cell? ⟨g, j, none⟩ = some (.string (wd s j))) := fun j hj => (HI.out.2.1.cell (by omega)).trans (HG2.out j hj)
      have hg3 : g < wr.heap.size := by omega
      clear HI x0 x1 x2 x3 x4 f0 f1 f2 f3 f4 c0 hkk HR2 HX2 HG2 HN2 B2 k1 k2 hk ho HOP hz2
      obtain ⟨w3, hw3⟩ : ∃ w3, w3 = wr := ⟨_, rfl⟩
      subst hw3
      go_wp2_with fail
      go_loopw [8, 9] (fun l i wr => ∃ (k : Nat) (ns : List Int), 1 ≤ k ∧ k ≤ 5 ∧ k ≤ cnt s + 1 ∧ i = .int .i64 k ∧ Hid (NsTo s k ns ∧ Nums wr w3.heap.size l ns) ∧ Below w3.heap.size w3 wr) (fun _ i _ => 5 - (intOf i).toNat)
      case atStart => exact ⟨1, [], by omega, by omega, by omega, rfl, ⟨NsTo.zero s, World.ownsRow_lit w3 #[] 0 (Nat.le_refl _) (by unfold maxLen; omega) rfl⟩, (Below.refl _ _).alloc (Nat.le_refl _) _⟩
      case round =>
        obtain ⟨k, ns, k1, k2, k3, rfl, HI, hbw⟩ := hrel
        have hsz := hbw.size
        have hnl : ns.length + 1 = k := HI.out.1.1
        by_cases hlt : k < cnt s + 1
        · have hlt' : (k : Int) < (cnt s : Int) + 1 := by omega
          by_cases h5 : k < 5
          · have h5' : (k : Int) < 5 := by omega
            have ck : wr.cell? ⟨g, k, none⟩ = some (.string (wd s k)) := (hbw.cell hg3).trans (HG3.out k hlt)
            go_wp2_with fail
            refine (l1Read_any (wd s k) _ (Nat.le_trans (wd_size s k hlt) hs)).mono ?_
            rintro e w5 ⟨⟨xv, ok, rfl, hx⟩, hb5⟩
            have HX : Hid (∀ n, Fit n → wd s k = numT n → xv = n ∧ ok = true) := hx
            have hb6 : Below w3.heap.size w3 w5 := hbw.trans (hb5.mono hsz)
            have c5 : w5.cell? ⟨g, k, none⟩ = some (.string (wd s k)) := (hb6.cell hg3).trans (HG3.out k hlt)
            have hsz5 := hb6.size
            have HN5 : Hid (Nums w5 w3.heap.size u8 ns) := HI.out.2.kept (row := none) ⟨hb5.os, hb5.tape, hb5.output, hb5.size, fun j hj _ => hb5.block j hj⟩ (by cases hv : u8.ownBlock <;> simp)
            clear hx hb5
            by_cases ha : wd s k = ⟨#[97, 110, 121]⟩
            · have t : ((wd s k).toList == [97, 110, 121]) = true := by rw [← anyL]; exact eqT_yes ha
              have HS : Hid (NsTo s (k + 1) (ns ++ [9])) := HI.out.1.step 9 (fun y hy => any_hit k1 hlt ha hy)
              clear ha
              go_wp2_with (at_builtin; refine append_int w5 rfl _ _ rfl w3.heap.size u8 ns rfl HN5.out 9 rfl (by omega) hsz5 ?_; intro v' w7 hl7 hg7; have HN7 : Hid (Nums w7 w3.heap.size v' (ns ++ [9])) := hl7; have hb7 : Below w3.heap.size w3 w7 := Below.grown (hb6.alloc hsz5 _) hg7 (by simp; omega) (fun j hj => (HN5.out.lt j hj).1); clear hl7 hg7)
              go_roundw
              case rel => exact ⟨k + 1, ns ++ [9], by omega, by omega, by omega, by go_num, ⟨HS.out, HN7.out⟩, hb7⟩
              case measure => simp [intOf]; omega
            · have t : ((wd s k).toList == [97, 110, 121]) = false := by rw [← anyL]; exact eqT_no ha
              have HQ : Hid (∀ y, ReadOf s y → (args5 y)[k - 1]? = some xv ∧ ok = true) := fun y hy => num_hit k1 hlt HX.out ha hy
              clear ha
              cases ok with
              | false =>
                have HF : Hid (∀ y, ¬ ReadOf s y) := fun y hy => by cases (HQ.out y hy).2
                obtain ⟨z0, z1, z2, z3, z4, f0, f1, f2, f3, f4⟩ := (HR3.out.below hb6 (by omega)).cells
                simp only [zero5] at z0 z1 z2 z3 z4
                go_wp2
                refine bodyPost_ret (v := .tuple #[insV 0 0 0 0 0, .bool false]) (by simp [results, Tryd.results12, go_sem, z0, z1, z2, z3, z4]) rfl ⟨⟨false, zero5, rfl, (fun h => by cases h), fun _ => ⟨rfl, HF.out⟩⟩, ?_⟩
                exact (((((B3.out.trans (hb6.mono (by omega))).setCell (p := ⟨w.heap.size, 0, none⟩) (Nat.le_refl _) _).setCell (p := ⟨w.heap.size, 1, none⟩) (Nat.le_refl _) _).setCell (p := ⟨w.heap.size, 2, none⟩) (Nat.le_refl _) _).setCell (p := ⟨w.heap.size, 3, none⟩) (Nat.le_refl _) _).setCell (p := ⟨w.heap.size, 4, none⟩) (Nat.le_refl _) _
              | true =>
                have HS : Hid (NsTo s (k + 1) (ns ++ [xv])) := HI.out.1.step xv (fun y hy => (HQ.out y hy).1)
                go_wp2_with (at_builtin; refine append_int w5 rfl _ _ rfl w3.heap.size u8 ns rfl HN5.out xv rfl (by omega) hsz5 ?_; intro v' w7 hl7 hg7; have HN7 : Hid (Nums w7 w3.heap.size v' (ns ++ [xv])) := hl7; have hb7 : Below w3.heap.size w3 w7 := Below.grown (hb6.alloc hsz5 _) hg7 (by simp; omega) (fun j hj => (HN5.out.lt j hj).1); clear hl7 hg7)
                go_roundw
                case rel => exact ⟨k + 1, ns ++ [xv], by omega, by omega, by omega, by go_num, ⟨HS.out, HN7.out⟩, hb7⟩
                case measure => simp [intOf]; omega
          · have h5' : ¬ (k : Int) < 5 := by omega
            have HS : Hid (∀ y, ReadOf s y → ns = args5 y) := fun y hy => HI.out.1.done (.inr (by omega)) hy
            have HN : Hid (Nums wr w3.heap.size u8 ns) := HI.out.2
            have hnl4 : ns.length ≤ 4 := by omega
            go_wp2_with (at_builtin; refine append_stop rfl ?_)
            unfold STOP
            refine append_int3 wr rfl _ _ rfl w3.heap.size u8 ns rfl HN.out rfl (by omega) hsz ?_
            intro v' w7 hl7 hg7
            have hb7 : Below w3.heap.size w3 w7 := Below.grown (hbw.alloc hsz _) hg7 (Nat.le_trans hsz (by simp)) (fun j hj => (HN.out.lt j hj).1)
            obtain ⟨g7, c7, L, m0, m1, m2, rfl, hgb, hglt, hl3, hl8, hm0, hm1, hm2, hmm⟩ := tail_facts hl7 hnl4 HS.out HO.out
            have HM : Hid (_) := hmm
            have hl0' : (0 : Int) < (L : Int) := by omega
            have hl1' : (1 : Int) < (L : Int) := by omega
            have hl2' : (2 : Int) < (L : Int) := by omega
            have hl0n : 0 < L := by omega
            have hl1n : 1 < L := by omega
            have hl2n : 2 < L := by omega
            have HU7 : Hid (Upd w w1.heap.size ⟨10, 0, 0, 0, 0⟩ w7 w7) := ⟨SameBut.refl _ _, HX3.out.below hb7 (by omega), B3.out.trans (hb7.mono (by omega))⟩
            have HR7 : Hid (Cell5 w7 w.heap.size zero5) := HR3.out.below hb7 (by omega)
            have hs7 := hb7.size
            have hsz7 : w1.heap.size < w7.heap.size := by omega
            have hwr7 : w.heap.size < w7.heap.size := by omega
            have hne7 : ¬ g7 = w1.heap.size := by omega
            have hne7' : ¬ w1.heap.size = g7 := by omega
            have hneRg : ¬ w.heap.size = g7 := by omega
            clear hl7 hg7 hb7 hmm
            obtain ⟨x0, x1, x2, x3, x4, f0, f1, f2, f3, f4⟩ := HU7.out.cell.cells
            simp only at x0 x1 x2 x3 x4
            obtain ⟨z0, z1, z2, z3, z4, e0, e1, e2, e3, e4⟩ := HR7.out.cells
            simp only [zero5] at z0 z1 z2 z3 z4
            clear HN HI hbw hsz HX3 HR3 HG3 HO HS
            have te : s.toList.isEmpty = false := by
              rw [Lib.toList_data]
              cases h : s.data.toList
              · exact absurd h HY.out
              · rfl
            go_wp2_with fail
            refine (specInsText_any 10 0 m0 0 m1 _).mono ?_
            rintro e w8 ⟨rfl, hb8⟩
            obtain ⟨hx8, hr8, B8, hsz8⟩ := Upd.call ((HU7.out.a (by omega) m0).n (by omega) m1) HR7.out hb8 (by omega) hsz7 hwr7
            clear hb8 x0 x1 x2 x3 x4 f0 f1 f2 f3 f4 z0 z1 z2 z3 z4 e0 e1 e2 e3 e4 hm0 hm1 hm2
            obtain ⟨x0, x1, x2, x3, x4, -⟩ := hx8.cells
            simp only at x0 x1 x2 x3 x4
            obtain ⟨z0, z1, z2, z3, z4, e0, e1, e2, e3, e4⟩ := hr8.cells
            simp only [zero5] at z0 z1 z2 z3 z4
            have B8' : Hid (Below w.heap.size w w8) := B8
            clear hx8 hr8 B8
            by_cases hq : insTextB 10 0 m0 0 m1 = s
            · have tq := eqT_yes hq
              have HQ : Hid (ReadOf s ⟨10, 0, m0, 0, m1⟩) := ⟨HY.out, hq⟩
              clear hq
              go_wp2
              refine bodyPost_ret (v := .tuple #[insV 10 0 m0 0 m1, .bool true]) (by simp [results, Tryd.results12, go_sem, z0, z1, z2, z3, z4]) rfl ⟨⟨true, ⟨10, 0, m0, 0, m1⟩, rfl, fun _ => HQ.out, (fun h => by cases h)⟩, ?_⟩
              exact ((((B8'.out.setCell (p := ⟨w.heap.size, 0, none⟩) (Nat.le_refl _) _).setCell (p := ⟨w.heap.size, 1, none⟩) (Nat.le_refl _) _).setCell (p := ⟨w.heap.size, 2, none⟩) (Nat.le_refl _) _).setCell (p := ⟨w.heap.size, 3, none⟩) (Nat.le_refl _) _).setCell (p := ⟨w.heap.size, 4, none⟩) (Nat.le_refl _) _
            · have tq := eqT_no hq
              have HF : Hid (∀ y, ¬ ReadOf s y) := fun y hy => by
                have e := HM.out y hy
                simp [insS] at e
                subst e
                exact hq hy.2
              clear hq
              go_wp2
              refine bodyPost_ret (v := .tuple #[insV 0 0 0 0 0, .bool false]) (by simp [results, Tryd.results12, go_sem, z0, z1, z2, z3, z4]) rfl ⟨⟨false, zero5, rfl, (fun h => by cases h), fun _ => ⟨rfl, HF.out⟩⟩, ?_⟩
              exact ((((B8'.out.setCell (p := ⟨w.heap.size, 0, none⟩) (Nat.le_refl _) _).setCell (p := ⟨w.heap.size, 1, none⟩) (Nat.le_refl _) _).setCell (p := ⟨w.heap.size, 2, none⟩) (Nat.le_refl _) _).setCell (p := ⟨w.heap.size, 3, none⟩) (Nat.le_refl _) _).setCell (p := ⟨w.heap.size, 4, none⟩) (Nat.le_refl _) _
        · have hlt' : ¬ (k : Int) < (cnt s : Int) + 1 := by omega
          have HS : Hid (∀ y, ReadOf s y → ns = args5 y) := fun y hy => HI.out.1.done (.inl (by omega)) hy
          have HN : Hid (Nums wr w3.heap.size u8 ns) := HI.out.2
          have hnl4 : ns.length ≤ 4 := by omega
          go_wp2_with (at_builtin; refine append_stop rfl ?_)
          unfold STOP
          refine append_int3 wr rfl _ _ rfl w3.heap.size u8 ns rfl HN.out rfl (by omega) hsz ?_
          intro v' w7 hl7 hg7
          have hb7 : Below w3.heap.size w3 w7 := Below.grown (hbw.alloc hsz _) hg7 (Nat.le_trans hsz (by simp)) (fun j hj => (HN.out.lt j hj).1)
          obtain ⟨g7, c7, L, m0, m1, m2, rfl, hgb, hglt, hl3, hl8, hm0, hm1, hm2, hmm⟩ := tail_facts hl7 hnl4 HS.out HO.out
          have HM : Hid (_) := hmm
          have hl0' : (0 : Int) < (L : Int) := by omega
          have hl1' : (1 : Int) < (L : Int) := by omega
          have hl2' : (2 : Int) < (L : Int) := by omega
          have hl0n : 0 < L := by omega
          have hl1n : 1 < L := by omega
          have hl2n : 2 < L := by omega
          have HU7 : Hid (Upd w w1.heap.size ⟨10, 0, 0, 0, 0⟩ w7 w7) := ⟨SameBut.refl _ _, HX3.out.below hb7 (by omega), B3.out.trans (hb7.mono (by omega))⟩
          have HR7 : Hid (Cell5 w7 w.heap.size zero5) := HR3.out.below hb7 (by omega)
          have hs7 := hb7.size
          have hsz7 : w1.heap.size < w7.heap.size := by omega
          have hwr7 : w.heap.size < w7.heap.size := by omega
          have hne7 : ¬ g7 = w1.heap.size := by omega
          have hne7' : ¬ w1.heap.size = g7 := by omega
          have hneRg : ¬ w.heap.size = g7 := by omega
          clear hl7 hg7 hb7 hmm
          obtain ⟨x0, x1, x2, x3, x4, f0, f1, f2, f3, f4⟩ := HU7.out.cell.cells
          simp only at x0 x1 x2 x3 x4
          obtain ⟨z0, z1, z2, z3, z4, e0, e1, e2, e3, e4⟩ := HR7.out.cells
          simp only [zero5] at z0 z1 z2 z3 z4
          clear HN HI hbw hsz HX3 HR3 HG3 HO HS
          have te : s.toList.isEmpty = false := by
            rw [Lib.toList_data]
            cases h : s.data.toList
            · exact absurd h HY.out
            · rfl
          go_wp2_with fail
          refine (specInsText_any 10 0 m0 0 m1 _).mono ?_
          rintro e w8 ⟨rfl, hb8⟩
          obtain ⟨hx8, hr8, B8, hsz8⟩ := Upd.call ((HU7.out.a (by omega) m0).n (by omega) m1) HR7.out hb8 (by omega) hsz7 hwr7
          clear hb8 x0 x1 x2 x3 x4 f0 f1 f2 f3 f4 z0 z1 z2 z3 z4 e0 e1 e2 e3 e4 hm0 hm1 hm2
          obtain ⟨x0, x1, x2, x3, x4, -⟩ := hx8.cells
          simp only at x0 x1 x2 x3 x4
          obtain ⟨z0, z1, z2, z3, z4, e0, e1, e2, e3, e4⟩ := hr8.cells
          simp only [zero5] at z0 z1 z2 z3 z4
          have B8' : Hid (Below w.heap.size w w8) := B8
          clear hx8 hr8 B8
          by_cases hq : insTextB 10 0 m0 0 m1 = s
          · have tq := eqT_yes hq
            have HQ : Hid (ReadOf s ⟨10, 0, m0, 0, m1⟩) := ⟨HY.out, hq⟩
            clear hq
            go_wp2
            refine bodyPost_ret (v := .tuple #[insV 10 0 m0 0 m1, .bool true]) (by simp [results, Tryd.results12, go_sem, z0, z1, z2, z3, z4]) rfl ⟨⟨true, ⟨10, 0, m0, 0, m1⟩, rfl, fun _ => HQ.out, (fun h => by cases h)⟩, ?_⟩
            exact ((((B8'.out.setCell (p := ⟨w.heap.size, 0, none⟩) (Nat.le_refl _) _).setCell (p := ⟨w.heap.size, 1, none⟩) (Nat.le_refl _) _).setCell (p := ⟨w.heap.size, 2, none⟩) (Nat.le_refl _) _).setCell (p := ⟨w.heap.size, 3, none⟩) (Nat.le_refl _) _).setCell (p := ⟨w.heap.size, 4, none⟩) (Nat.le_refl _) _
          · have tq := eqT_no hq
            have HF : Hid (∀ y, ¬ ReadOf s y) := fun y hy => by
              have e := HM.out y hy
              simp [insS] at e
              subst e
              exact hq hy.2
            clear hq
            go_wp2
            refine bodyPost_ret (v := .tuple #[insV 0 0 0 0 0, .bool false]) (by simp [results, Tryd.results12, go_sem, z0, z1, z2, z3, z4]) rfl ⟨⟨false, zero5, rfl, (fun h => by cases h), fun _ => ⟨rfl, HF.out⟩⟩, ?_⟩
            exact ((((B8'.out.setCell (p := ⟨w.heap.size, 0, none⟩) (Nat.le_refl _) _).setCell (p := ⟨w.heap.size, 1, none⟩) (Nat.le_refl _) _).setCell (p := ⟨w.heap.size, 2, none⟩) (Nat.le_refl _) _).setCell (p := ⟨w.heap.size, 3, none⟩) (Nat.le_refl _) _).setCell (p := ⟨w.heap.size, 4, none⟩) (Nat.le_refl _) _

set_option maxRecDepth 100000 in
set_option maxHeartbeats 4000000 in
theorem specInsRead_11 (s : ByteArray) (w : World) (hs : s.size ≤ 1048576) (hop : opTo (wd s 0) 12 = 11) :
    Calls Tryd.prog 12 #[.string s] w fun e w' => ReadR s e ∧ Below w.heap.size w w' := by
  have HOP : Hid (opTo (wd s 0) 12 = 11) := hop
  have HY : Hid (s.data.toList ≠ []) := fun he => by
    have := opTo_empty he
    omega
  clear hop
  have hcl := cnt_le s
  have hcl' : (cnt s : Int) ≤ 1048576 := by omega
  go_enter Tryd.func12, Tryd.ntmps12
  go_wp2_with fail
  refine (l1Words_any s _ hs).mono ?_
  rintro e w1 ⟨v, rfl, hw, hb1⟩
  obtain ⟨g, gc, rfl, hg1, hg2, hgc⟩ := words_lie hw
  rw [World.size_alloc] at hg1
  have B1 : Hid (Below w.heap.size w w1) := ((Below.refl _ _).alloc (Nat.le_refl _) _).trans (hb1.mono (by simp))
  have HR1 : Hid (Cell5 w1 w.heap.size zero5) := Cell5.below (by rw [Cell5, heap_alloc_new]; rfl) hb1 (by simp)
  have HG1 : Hid (∀ j, j < cnt s + 1 → w1.cell? ⟨g, j, none⟩ = some (.string (wd s j))) := hgc
  clear hw hb1 hgc
  go_wp2_with fail
  refine (l1Names_any _).mono ?_
  rintro e w2 ⟨rfl, hn, hz2, hb2⟩
  rw [World.size_alloc] at hn hz2
  have hz1 : w.heap.size < w1.heap.size := by omega
  have B2 : Hid (Below w.heap.size w w2) := (B1.out.alloc (by omega) _).trans (hb2.mono (by simp; omega))
  have HR2 : Hid (Cell5 w2 w.heap.size zero5) := (HR1.out.below ((Below.refl w1.heap.size w1).alloc (Nat.le_refl _) _) hz1).below hb2 (by simp; omega)
  have HX2 : Hid (Cell5 w2 w1.heap.size zero5) := Cell5.below (by rw [Cell5, heap_alloc_new]; rfl) hb2 (by simp)
  have HG2 : Hid (∀ j, j < cnt s + 1 → w2.cell? ⟨g, j, none⟩ = some (.string (wd s j))) := fun j hj => (hb2.cell (by simp; omega)).trans ((((Below.refl w1.heap.size w1).alloc (Nat.le_refl _) _).cell hg2).trans (HG1.out j hj))
  have HN2 : Hid (∀ i, i < 12 → w2.cell? ⟨w1.heap.size + 1, i, none⟩ = some (.string (wordT i))) := hn
  clear hn hb2 B1 HR1 HG1
  go_wp2_with fail
  go_loopw [7] (fun i wr => ∃ (k : Nat) (o : Int), 1 ≤ k ∧ k ≤ 12 ∧ i = .int .i64 k ∧ Hid ((OpTo s k o ∧ o = opTo (wd s 0) k) ∧ SameBut w1.heap.size w2 wr ∧ Cell5 wr w1.heap.size ⟨o, 0, 0, 0, 0⟩ ∧ Below w.heap.size w wr)) (fun i _ => 12 - (intOf i).toNat)
  case atStart => exact ⟨1, 0, by omega, by omega, rfl, ⟨OpTo.zero s, rfl⟩, SameBut.refl _ _, HX2.out, B2.out⟩
  case round =>
    obtain ⟨k, o, k1, k2, rfl, HI⟩ := hrel
    obtain ⟨x0, x1, x2, x3, x4, f0, f1, f2, f3, f4⟩ := HI.out.2.2.1.cells
    simp only at x0 x1 x2 x3 x4
    have c0 : wr.cell? ⟨g, 0, none⟩ = some (.string (wd s 0)) := (HI.out.2.1.cell (by omega)).trans (HG2.out 0 (by omega))
    by_cases hk : k < 12
    · have hk' : (k : Int) < 12 := by omega
      have cn : wr.cell? ⟨w1.heap.size + 1, k, none⟩ = some (.string (wordT k)) := (HI.out.2.1.cell (by omega)).trans (HN2.out k hk)
      by_cases he : wordT k = wd s 0
      · have t := eqT_yes he
        have HO : Hid (OpTo s (k + 1) k ∧ (k : Int) = opTo (wd s 0) (k + 1)) := ⟨HI.out.1.1.hit k1 (by omega) he, (opTo_hit k1 he).symm⟩
        clear he
        go_wp2_with fail
        go_region
        all_goals
          go_wp2
          go_roundw
          case rel => exact ⟨k + 1, k, by omega, by omega, by go_num, HO.out, HI.out.2.1.set _ _, HI.out.2.2.1.op _, (HI.out.2.2.2.setCell (by simp; omega) _).drew⟩
          case measure => simp [intOf]; omega
      · have t := eqT_no he
        have HO : Hid (OpTo s (k + 1) o ∧ o = opTo (wd s 0) (k + 1)) := ⟨HI.out.1.1.miss he, by rw [opTo_miss he]; exact HI.out.1.2⟩
        clear he
        go_wp2_with fail
        go_region
        all_goals
          go_wp2
          go_roundw
          case rel => exact ⟨k + 1, o, by omega, by omega, by go_num, HO.out, HI.out.2.1, HI.out.2.2.1, HI.out.2.2.2.drew⟩
          case measure => simp [intOf]; omega
    · have hk' : ¬ (k : Int) < 12 := by omega
      have hkk : k = 12 := by omega
      have ho : o = 11 := by rw [HI.out.1.2, hkk]; exact HOP.out
      have HO : Hid (OpTo s 12 11) := by rw [← hkk, ← ho]; exact HI.out.1.1
      have B3 : Hid (Below w.heap.size w wr) := HI.out.2.2.2
      have HX3 : Hid (Cell5 wr w1.heap.size ⟨11, 0, 0, 0, 0⟩) := by rw [← ho]; exact HI.out.2.2.1
      have hz3 : w1.heap.size + 1 < wr.heap.size := by have := HI.out.2.1.1; omega
      have HR3 : Hid (Cell5 wr w.heap.size zero5) := (HI.out.2.1.2 _ (by omega)).trans HR2.out
      have HG3 : Hid (∀ j, j < cnt s + 1 → wr.cell? ⟨g, j, none⟩ = some (.string (wd s j))) := fun j hj => (HI.out.2.1.cell (by omega)).trans (HG2.out j hj)
      have hg3 : g < wr.heap.size := by omega
      clear HI x0 x1 x2 x3 x4 f0 f1 f2 f3 f4 c0 hkk HR2 HX2 HG2 HN2 B2 k1 k2 hk ho HOP hz2
      obtain ⟨w3, hw3⟩ : ∃ w3, w3 = wr := ⟨_, rfl⟩
      subst hw3
      go_wp2_with fail
      go_loopw [8, 9] (fun l i wr => ∃ (k : Nat) (ns : List Int), 1 ≤ k ∧ k ≤ 5 ∧ k ≤ cnt s + 1 ∧ i = .int .i64 k ∧ Hid (NsTo s k ns ∧ Nums wr w3.heap.size l ns) ∧ Below w3.heap.size w3 wr) (fun _ i _ => 5 - (intOf i).toNat)
      case atStart => exact ⟨1, [], by omega, by omega, by omega, rfl, ⟨NsTo.zero s, World.ownsRow_lit w3 #[] 0 (Nat.le_refl _) (by unfold maxLen; omega) rfl⟩, (Below.refl _ _).alloc (Nat.le_refl _) _⟩
      case round =>
        obtain ⟨k, ns, k1, k2, k3, rfl, HI, hbw⟩ := hrel
        have hsz := hbw.size
        have hnl : ns.length + 1 = k := HI.out.1.1
        by_cases hlt : k < cnt s + 1
        · have hlt' : (k : Int) < (cnt s : Int) + 1 := by omega
          by_cases h5 : k < 5
          · have h5' : (k : Int) < 5 := by omega
            have ck : wr.cell? ⟨g, k, none⟩ = some (.string (wd s k)) := (hbw.cell hg3).trans (HG3.out k hlt)
            go_wp2_with fail
            refine (l1Read_any (wd s k) _ (Nat.le_trans (wd_size s k hlt) hs)).mono ?_
            rintro e w5 ⟨⟨xv, ok, rfl, hx⟩, hb5⟩
            have HX : Hid (∀ n, Fit n → wd s k = numT n → xv = n ∧ ok = true) := hx
            have hb6 : Below w3.heap.size w3 w5 := hbw.trans (hb5.mono hsz)
            have c5 : w5.cell? ⟨g, k, none⟩ = some (.string (wd s k)) := (hb6.cell hg3).trans (HG3.out k hlt)
            have hsz5 := hb6.size
            have HN5 : Hid (Nums w5 w3.heap.size u8 ns) := HI.out.2.kept (row := none) ⟨hb5.os, hb5.tape, hb5.output, hb5.size, fun j hj _ => hb5.block j hj⟩ (by cases hv : u8.ownBlock <;> simp)
            clear hx hb5
            by_cases ha : wd s k = ⟨#[97, 110, 121]⟩
            · have t : ((wd s k).toList == [97, 110, 121]) = true := by rw [← anyL]; exact eqT_yes ha
              have HS : Hid (NsTo s (k + 1) (ns ++ [9])) := HI.out.1.step 9 (fun y hy => any_hit k1 hlt ha hy)
              clear ha
              go_wp2_with (at_builtin; refine append_int w5 rfl _ _ rfl w3.heap.size u8 ns rfl HN5.out 9 rfl (by omega) hsz5 ?_; intro v' w7 hl7 hg7; have HN7 : Hid (Nums w7 w3.heap.size v' (ns ++ [9])) := hl7; have hb7 : Below w3.heap.size w3 w7 := Below.grown (hb6.alloc hsz5 _) hg7 (by simp; omega) (fun j hj => (HN5.out.lt j hj).1); clear hl7 hg7)
              go_roundw
              case rel => exact ⟨k + 1, ns ++ [9], by omega, by omega, by omega, by go_num, ⟨HS.out, HN7.out⟩, hb7⟩
              case measure => simp [intOf]; omega
            · have t : ((wd s k).toList == [97, 110, 121]) = false := by rw [← anyL]; exact eqT_no ha
              have HQ : Hid (∀ y, ReadOf s y → (args5 y)[k - 1]? = some xv ∧ ok = true) := fun y hy => num_hit k1 hlt HX.out ha hy
              clear ha
              cases ok with
              | false =>
                have HF : Hid (∀ y, ¬ ReadOf s y) := fun y hy => by cases (HQ.out y hy).2
                obtain ⟨z0, z1, z2, z3, z4, f0, f1, f2, f3, f4⟩ := (HR3.out.below hb6 (by omega)).cells
                simp only [zero5] at z0 z1 z2 z3 z4
                go_wp2
                refine bodyPost_ret (v := .tuple #[insV 0 0 0 0 0, .bool false]) (by simp [results, Tryd.results12, go_sem, z0, z1, z2, z3, z4]) rfl ⟨⟨false, zero5, rfl, (fun h => by cases h), fun _ => ⟨rfl, HF.out⟩⟩, ?_⟩
                exact (((((B3.out.trans (hb6.mono (by omega))).setCell (p := ⟨w.heap.size, 0, none⟩) (Nat.le_refl _) _).setCell (p := ⟨w.heap.size, 1, none⟩) (Nat.le_refl _) _).setCell (p := ⟨w.heap.size, 2, none⟩) (Nat.le_refl _) _).setCell (p := ⟨w.heap.size, 3, none⟩) (Nat.le_refl _) _).setCell (p := ⟨w.heap.size, 4, none⟩) (Nat.le_refl _) _
              | true =>
                have HS : Hid (NsTo s (k + 1) (ns ++ [xv])) := HI.out.1.step xv (fun y hy => (HQ.out y hy).1)
                go_wp2_with (at_builtin; refine append_int w5 rfl _ _ rfl w3.heap.size u8 ns rfl HN5.out xv rfl (by omega) hsz5 ?_; intro v' w7 hl7 hg7; have HN7 : Hid (Nums w7 w3.heap.size v' (ns ++ [xv])) := hl7; have hb7 : Below w3.heap.size w3 w7 := Below.grown (hb6.alloc hsz5 _) hg7 (by simp; omega) (fun j hj => (HN5.out.lt j hj).1); clear hl7 hg7)
                go_roundw
                case rel => exact ⟨k + 1, ns ++ [xv], by omega, by omega, by omega, by go_num, ⟨HS.out, HN7.out⟩, hb7⟩
                case measure => simp [intOf]; omega
          · have h5' : ¬ (k : Int) < 5 := by omega
            have HS : Hid (∀ y, ReadOf s y → ns = args5 y) := fun y hy => HI.out.1.done (.inr (by omega)) hy
            have HN : Hid (Nums wr w3.heap.size u8 ns) := HI.out.2
            have hnl4 : ns.length ≤ 4 := by omega
            go_wp2_with (at_builtin; refine append_stop rfl ?_)
            unfold STOP
            refine append_int3 wr rfl _ _ rfl w3.heap.size u8 ns rfl HN.out rfl (by omega) hsz ?_
            intro v' w7 hl7 hg7
            have hb7 : Below w3.heap.size w3 w7 := Below.grown (hbw.alloc hsz _) hg7 (Nat.le_trans hsz (by simp)) (fun j hj => (HN.out.lt j hj).1)
            obtain ⟨g7, c7, L, m0, m1, m2, rfl, hgb, hglt, hl3, hl8, hm0, hm1, hm2, hmm⟩ := tail_facts hl7 hnl4 HS.out HO.out
            have HM : Hid (_) := hmm
            have hl0' : (0 : Int) < (L : Int) := by omega
            have hl1' : (1 : Int) < (L : Int) := by omega
            have hl2' : (2 : Int) < (L : Int) := by omega
            have hl0n : 0 < L := by omega
            have hl1n : 1 < L := by omega
            have hl2n : 2 < L := by omega
            have HU7 : Hid (Upd w w1.heap.size ⟨11, 0, 0, 0, 0⟩ w7 w7) := ⟨SameBut.refl _ _, HX3.out.below hb7 (by omega), B3.out.trans (hb7.mono (by omega))⟩
            have HR7 : Hid (Cell5 w7 w.heap.size zero5) := HR3.out.below hb7 (by omega)
            have hs7 := hb7.size
            have hsz7 : w1.heap.size < w7.heap.size := by omega
            have hwr7 : w.heap.size < w7.heap.size := by omega
            have hne7 : ¬ g7 = w1.heap.size := by omega
            have hne7' : ¬ w1.heap.size = g7 := by omega
            have hneRg : ¬ w.heap.size = g7 := by omega
            clear hl7 hg7 hb7 hmm
            obtain ⟨x0, x1, x2, x3, x4, f0, f1, f2, f3, f4⟩ := HU7.out.cell.cells
            simp only at x0 x1 x2 x3 x4
            obtain ⟨z0, z1, z2, z3, z4, e0, e1, e2, e3, e4⟩ := HR7.out.cells
            simp only [zero5] at z0 z1 z2 z3 z4
            clear HN HI hbw hsz HX3 HR3 HG3 HO HS
            have te : s.toList.isEmpty = false := by
              rw [Lib.toList_data]
              cases h : s.data.toList
              · exact absurd h HY.out
              · rfl
            go_wp2_with fail
            refine (specInsText_any 11 0 0 0 0 _).mono ?_
            rintro e w8 ⟨rfl, hb8⟩
            obtain ⟨hx8, hr8, B8, hsz8⟩ := Upd.call HU7.out HR7.out hb8 (by omega) hsz7 hwr7
            clear hb8 x0 x1 x2 x3 x4 f0 f1 f2 f3 f4 z0 z1 z2 z3 z4 e0 e1 e2 e3 e4 hm0 hm1 hm2
            obtain ⟨x0, x1, x2, x3, x4, -⟩ := hx8.cells
            simp only at x0 x1 x2 x3 x4
            obtain ⟨z0, z1, z2, z3, z4, e0, e1, e2, e3, e4⟩ := hr8.cells
            simp only [zero5] at z0 z1 z2 z3 z4
            have B8' : Hid (Below w.heap.size w w8) := B8
            clear hx8 hr8 B8
            by_cases hq : insTextB 11 0 0 0 0 = s
            · have tq := eqT_yes hq
              have HQ : Hid (ReadOf s ⟨11, 0, 0, 0, 0⟩) := ⟨HY.out, hq⟩
              clear hq
              go_wp2
              refine bodyPost_ret (v := .tuple #[insV 11 0 0 0 0, .bool true]) (by simp [results, Tryd.results12, go_sem, z0, z1, z2, z3, z4]) rfl ⟨⟨true, ⟨11, 0, 0, 0, 0⟩, rfl, fun _ => HQ.out, (fun h => by cases h)⟩, ?_⟩
              exact ((((B8'.out.setCell (p := ⟨w.heap.size, 0, none⟩) (Nat.le_refl _) _).setCell (p := ⟨w.heap.size, 1, none⟩) (Nat.le_refl _) _).setCell (p := ⟨w.heap.size, 2, none⟩) (Nat.le_refl _) _).setCell (p := ⟨w.heap.size, 3, none⟩) (Nat.le_refl _) _).setCell (p := ⟨w.heap.size, 4, none⟩) (Nat.le_refl _) _
            · have tq := eqT_no hq
              have HF : Hid (∀ y, ¬ ReadOf s y) := fun y hy => by
                have e := HM.out y hy
                simp [insS] at e
                subst e
                exact hq hy.2
              clear hq
              go_wp2
              refine bodyPost_ret (v := .tuple #[insV 0 0 0 0 0, .bool false]) (by simp [results, Tryd.results12, go_sem, z0, z1, z2, z3, z4]) rfl ⟨⟨false, zero5, rfl, (fun h => by cases h), fun _ => ⟨rfl, HF.out⟩⟩, ?_⟩
              exact ((((B8'.out.setCell (p := ⟨w.heap.size, 0, none⟩) (Nat.le_refl _) _).setCell (p := ⟨w.heap.size, 1, none⟩) (Nat.le_refl _) _).setCell (p := ⟨w.heap.size, 2, none⟩) (Nat.le_refl _) _).setCell (p := ⟨w.heap.size, 3, none⟩) (Nat.le_refl _) _).setCell (p := ⟨w.heap.size, 4, none⟩) (Nat.le_refl _) _
        · have hlt' : ¬ (k : Int) < (cnt s : Int) + 1 := by omega
          have HS : Hid (∀ y, ReadOf s y → ns = args5 y) := fun y hy => HI.out.1.done (.inl (by omega)) hy
          have HN : Hid (Nums wr w3.heap.size u8 ns) := HI.out.2
          have hnl4 : ns.length ≤ 4 := by omega
          go_wp2_with (at_builtin; refine append_stop rfl ?_)
          unfold STOP
          refine append_int3 wr rfl _ _ rfl w3.heap.size u8 ns rfl HN.out rfl (by omega) hsz ?_
          intro v' w7 hl7 hg7
          have hb7 : Below w3.heap.size w3 w7 := Below.grown (hbw.alloc hsz _) hg7 (Nat.le_trans hsz (by simp)) (fun j hj => (HN.out.lt j hj).1)
          obtain ⟨g7, c7, L, m0, m1, m2, rfl, hgb, hglt, hl3, hl8, hm0, hm1, hm2, hmm⟩ := tail_facts hl7 hnl4 HS.out HO.out
          have HM : Hid (_) := hmm
          have hl0' : (0 : Int) < (L : Int) := by omega
          have hl1' : (1 : Int) < (L : Int) := by omega
          have hl2' : (2 : Int) < (L : Int) := by omega
          have hl0n : 0 < L := by omega
          have hl1n : 1 < L := by omega
          have hl2n : 2 < L := by omega
          have HU7 : Hid (Upd w w1.heap.size ⟨11, 0, 0, 0, 0⟩ w7 w7) := ⟨SameBut.refl _ _, HX3.out.below hb7 (by omega), B3.out.trans (hb7.mono (by omega))⟩
          have HR7 : Hid (Cell5 w7 w.heap.size zero5) := HR3.out.below hb7 (by omega)
          have hs7 := hb7.size
          have hsz7 : w1.heap.size < w7.heap.size := by omega
          have hwr7 : w.heap.size < w7.heap.size := by omega
          have hne7 : ¬ g7 = w1.heap.size := by omega
          have hne7' : ¬ w1.heap.size = g7 := by omega
          have hneRg : ¬ w.heap.size = g7 := by omega
          clear hl7 hg7 hb7 hmm
          obtain ⟨x0, x1, x2, x3, x4, f0, f1, f2, f3, f4⟩ := HU7.out.cell.cells
          simp only at x0 x1 x2 x3 x4
          obtain ⟨z0, z1, z2, z3, z4, e0, e1, e2, e3, e4⟩ := HR7.out.cells
          simp only [zero5] at z0 z1 z2 z3 z4
          clear HN HI hbw hsz HX3 HR3 HG3 HO HS
          have te : s.toList.isEmpty = false := by
            rw [Lib.toList_data]
            cases h : s.data.toList
            · exact absurd h HY.out
            · rfl
          go_wp2_with fail
          refine (specInsText_any 11 0 0 0 0 _).mono ?_
          rintro e w8 ⟨rfl, hb8⟩
          obtain ⟨hx8, hr8, B8, hsz8⟩ := Upd.call HU7.out HR7.out hb8 (by omega) hsz7 hwr7
          clear hb8 x0 x1 x2 x3 x4 f0 f1 f2 f3 f4 z0 z1 z2 z3 z4 e0 e1 e2 e3 e4 hm0 hm1 hm2
          obtain ⟨x0, x1, x2, x3, x4, -⟩ := hx8.cells
          simp only at x0 x1 x2 x3 x4
          obtain ⟨z0, z1, z2, z3, z4, e0, e1, e2, e3, e4⟩ := hr8.cells
          simp only [zero5] at z0 z1 z2 z3 z4
          have B8' : Hid (Below w.heap.size w w8) := B8
          clear hx8 hr8 B8
          by_cases hq : insTextB 11 0 0 0 0 = s
          · have tq := eqT_yes hq
            have HQ : Hid (ReadOf s ⟨11, 0, 0, 0, 0⟩) := ⟨HY.out, hq⟩
            clear hq
            go_wp2
            refine bodyPost_ret (v := .tuple #[insV 11 0 0 0 0, .bool true]) (by simp [results, Tryd.results12, go_sem, z0, z1, z2, z3, z4]) rfl ⟨⟨true, ⟨11, 0, 0, 0, 0⟩, rfl, fun _ => HQ.out, (fun h => by cases h)⟩, ?_⟩
            exact ((((B8'.out.setCell (p := ⟨w.heap.size, 0, none⟩) (Nat.le_refl _) _).setCell (p := ⟨w.heap.size, 1, none⟩) (Nat.le_refl _) _).setCell (p := ⟨w.heap.size, 2, none⟩) (Nat.le_refl _) _).setCell (p := ⟨w.heap.size, 3, none⟩) (Nat.le_refl _) _).setCell (p := ⟨w.heap.size, 4, none⟩) (Nat.le_refl _) _
          · have tq := eqT_no hq
            have HF : Hid (∀ y, ¬ ReadOf s y) := fun y hy => by
              have e := HM.out y hy
              simp [insS] at e
              subst e
              exact hq hy.2
            clear hq
            go_wp2
            refine bodyPost_ret (v := .tuple #[insV 0 0 0 0 0, .bool false]) (by simp [results, Tryd.results12, go_sem, z0, z1, z2, z3, z4]) rfl ⟨⟨false, zero5, rfl, (fun h => by cases h), fun _ => ⟨rfl, HF.out⟩⟩, ?_⟩
            exact ((((B8'.out.setCell (p := ⟨w.heap.size, 0, none⟩) (Nat.le_refl _) _).setCell (p := ⟨w.heap.size, 1, none⟩) (Nat.le_refl _) _).setCell (p := ⟨w.heap.size, 2, none⟩) (Nat.le_refl _) _).setCell (p := ⟨w.heap.size, 3, none⟩) (Nat.le_refl _) _).setCell (p := ⟨w.heap.size, 4, none⟩) (Nat.le_refl _) _

end Go.Proofs.YtdlfdelngolkgaaDoor
