/- Marks on rows of kept states of one's own, and that they are held. -/
import Derived.Test.YtkoghgnbolaooaaGreatRa50
namespace Go.Proofs.YtkoghgnbolaooaaGreat
open Go.ChangeShapes Go.WideShapes Go.ChangeAt Go.RowKit Go.Deep

set_option maxRecDepth 100000 in
set_option maxHeartbeats 2000000 in
theorem markKeptS_own (D cap : Nat) (P : Nat → Prop) (n : Nat) (N : Nat → Int) (vs : Nat → Value) (S : Nat → S4) (k : Int) (w : World) (hn : n ≤ 1048576) (hl : sumL (lenS S) n ≤ 1048576) (k0 : 0 ≤ k) (k1 : k ≤ 50000000) (o : OKB w P D n N vs S) :
    Calls Tryz.prog 16 #[.slice (some ⟨D, 0, none⟩) n cap, .int .i64 k] w fun e w' => e = .returned (.int .i64 (k + (3 * n + sumL (lenS S) n : Nat))) ∧ (∃ us, OKB w' P D n (fun i => (k + (3 * i + sumL (lenS S) i : Nat))) us (fun i => mkSk ((k + (3 * i + sumL (lenS S) i : Nat)) + 1) (S i))) ∧ Touch P w w' := by
  have hl' : (n : Int) ≤ 1048576 := by omega
  have O : Hid (OKB w P D n N vs S) := o
  have HL : Hid (sumL (lenS S) n ≤ 1048576) := hl
  clear o hl
  go_enter Tryz.func16, Tryz.ntmps16
  go_wp2_with fail
  go_loopw [1, 5] (fun q i wr => ∃ j : Nat, j ≤ n ∧ i = .int .i64 j ∧ q = .int .i64 (k + (3 * j + sumL (lenS S) j : Nat)) ∧ Hid ((∃ us, OKB wr P D n (fun t => if t < j then (k + (3 * t + sumL (lenS S) t : Nat)) else N t) us (fun t => if t < j then mkSk ((k + (3 * t + sumL (lenS S) t : Nat)) + 1) (S t) else S t)) ∧ Touch P w wr)) (fun _ i _ => n - (intOf i).toNat)
  case atStart => exact ⟨0, Nat.zero_le _, rfl, by simp [sumL], ⟨vs, O.out.cast fun i _ => ⟨by rw [if_neg (by omega)], by rw [if_neg (by omega)]⟩⟩, Touch.refl _ _⟩
  case round =>
    obtain ⟨j, hj, rfl, rfl, HT⟩ := hrel
    by_cases hlt : j < n
    · have hlt' : (j : Int) < (n : Int) := by omega
      obtain ⟨⟨us, ol⟩, tw⟩ := HT.out
      have cel := ol.cel j hlt
      have fz := ol.fr
      have hD := ol.lt
      rw [if_neg (by omega), if_neg (by omega)] at cel
      obtain ⟨ra, rc, oa, oc, ev, c0, c1, c2, c3, c4⟩ := cel
      have how := ol.own j hlt
      rw [if_neg (by omega), ev] at how
      obtain ⟨w1r, w1o, wap⟩ := how.parts
      have OL : Hid (OKB wr P D n (fun t => if t < j then (k + (3 * t + sumL (lenS S) t : Nat)) else N t) us (fun t => if t < j then mkSk ((k + (3 * t + sumL (lenS S) t : Nat)) + 1) (S t) else S t)) := ol
      have TW : Hid (Touch P w wr) := tw
      have OR : Hid (OwnI wr 0 (.slice ra (S j).rs.length rc) (S j).rs) := w1r
      have OO : Hid (OwnI wr 0 (.slice oa (S j).os.length oc) (S j).os) := w1o
      have AP : Hid (∀ b, (Value.slice ra (S j).rs.length rc).ownBlock = some b → (Value.slice oa (S j).os.length oc).ownBlock ≠ some b) := wap
      have HV : Hid (us j = stV (S j).p ra (S j).rs.length rc oa (S j).os.length oc (S j).c) := ev
      have nR : some D ≠ (Value.slice ra (S j).rs.length rc).ownBlock := fun e => ol.ra j hlt (by rw [ev]; exact (hasBlock_iff _ _ _ _ _).2 (.inl e.symm))
      have nO : some D ≠ (Value.slice oa (S j).os.length oc).ownBlock := fun e => ol.ra j hlt (by rw [ev]; exact (hasBlock_iff _ _ _ _ _).2 (.inr e.symm))
      have hsl := sumL_at (lenS S) hlt
      have hS := HL.out
      have hlk : lenS S j = (S j).rs.length + (S j).os.length := rfl
      have r1 : (S j).rs.length ≤ 1048576 := by omega
      have r2 : (S j).os.length ≤ 1048576 := by omega
      generalize hx : (k + (3 * j + sumL (lenS S) j : Nat)) = X at *
      have x0 : 0 ≤ X := by omega
      have x1 : X ≤ 60000000 := by omega
      have HN : Hid (X + 1 + 1 + (S j).rs.length + (S j).os.length + 1 = k + (3 * (j + 1) + sumL (lenS S) (j + 1) : Nat)) := by
        show X + 1 + 1 + (S j).rs.length + (S j).os.length + 1 = k + (3 * (j + 1) + sumL (lenS S) (j + 1) : Nat)
        simp only [sumL]
        omega
      have HJ : Hid ((k + (3 * j + sumL (lenS S) j : Nat)) = X) := hx
      have rI : ((S j).rs.length : Int) ≤ 1048576 := by omega
      have oI : ((S j).os.length : Int) ≤ 1048576 := by omega
      clear ev wap w1r w1o how hsl hS hlk hx ol tw HT
      go_wp2_with fail
      refine (markIntS_any ra rc 0 (S j).rs _ _ r1 (by omega) (by omega) (OR.out.blk fun b hb => (Below.heap_setCell _ _ _ _ fun e => nR (by rw [hb, e])).trans (Below.heap_setCell _ _ _ _ fun e => nR (by rw [hb, e])))).mono ?_
      rintro e w1 ⟨rfl, q1, g1⟩
      obtain ⟨d1, f1⟩ := gcell g1 (b := D) (by simpa using hD) nR
      have OO1 : Hid (OwnI w1 0 (.slice oa (S j).os.length oc) (S j).os) := own_apart (OO.out.blk fun b hb => (Below.heap_setCell _ _ _ _ fun e => nO (by rw [hb, e])).trans (Below.heap_setCell _ _ _ _ fun e => nO (by rw [hb, e]))) g1 AP.out
      have hD1 : D < w1.heap.size := by have := g1.size; simp at this; omega
      have G1 : Hid (World.grownBy ((wr.setCell ⟨D, j * 5, none⟩ (.int .i64 X)).setCell ⟨D, j * 5 + 1, none⟩ (.int .i64 (X + 1))) w1 (Value.slice ra (S j).rs.length rc).ownBlock) := g1
      have R1 : Hid (OwnI w1 0 (.slice ra (S j).rs.length rc) (marks (X + 1 + 1) (S j).rs.length)) := q1
      clear g1 q1
      go_wp2_with fail
      refine (markIntS_any oa oc 0 (S j).os _ _ r2 (by omega) (by omega) OO1.out).mono ?_
      rintro e w2 ⟨rfl, q2, g2⟩
      obtain ⟨d2, f2⟩ := gcell g2 (b := D) hD1 nO
      have R2 : OwnI w2 0 (.slice ra (S j).rs.length rc) (marks (X + 1 + 1) (S j).rs.length) := own_apart R1.out g2 fun b hb e => AP.out b e hb
      have HM := OL.out.mark hlt HV.out X (X + 1) (X + 1 + 1 + (S j).rs.length + (S j).os.length) (marks_length _ _) (marks_length _ _) G1.out g2 R2 q2
      have HT2 : Hid ((∃ us, OKB (w2.setCell ⟨D, j * 5 + 4, none⟩ (.int .i64 (X + 1 + 1 + (S j).rs.length + (S j).os.length))) P D n (fun t => if t < j + 1 then (k + (3 * t + sumL (lenS S) t : Nat)) else N t) us (fun t => if t < j + 1 then mkSk ((k + (3 * t + sumL (lenS S) t : Nat)) + 1) (S t) else S t)) ∧ Touch P w (w2.setCell ⟨D, j * 5 + 4, none⟩ (.int .i64 (X + 1 + 1 + (S j).rs.length + (S j).os.length)))) := by
        refine ⟨⟨_, HM.1.cast fun t ht => ?_⟩, TW.out.trans HM.2⟩
        by_cases et : t = j
        · rw [if_pos et, if_pos et, if_pos (by omega), if_pos (by omega), et, HJ.out]
          exact ⟨rfl, rfl⟩
        · rw [if_neg et, if_neg et]
          by_cases e2 : t < j
          · rw [if_pos e2, if_pos (by omega), if_pos e2, if_pos (by omega)]
            exact ⟨rfl, rfl⟩
          · rw [if_neg e2, if_neg (by omega), if_neg e2, if_neg (by omega)]
            exact ⟨rfl, rfl⟩
      clear g2 G1 OO1 OO OR AP HV R1 R2 HM q2 OL TW
      go_wp2
      go_roundw
      case rel => exact ⟨j + 1, by omega, by go_num, by rw [HN.out], HT2.out⟩
      case measure => simp [intOf]; omega
    · have hkl : j = n := by omega
      subst hkl
      have HT1 : Hid ((∃ us, OKB wr P D j (fun i => (k + (3 * i + sumL (lenS S) i : Nat))) us (fun i => mkSk ((k + (3 * i + sumL (lenS S) i : Nat)) + 1) (S i))) ∧ Touch P w wr) := by
        obtain ⟨⟨us, ol⟩, tw⟩ := HT.out
        exact ⟨⟨us, ol.cast fun t ht => ⟨by rw [if_pos ht], by rw [if_pos ht]⟩⟩, tw⟩
      clear HT
      go_wp2
      go_ret
      exact ⟨rfl, HT1.out⟩

set_option maxRecDepth 100000 in
set_option maxHeartbeats 2000000 in
theorem heldKeptS_own (D cap : Nat) (P : Nat → Prop) (n : Nat) (us : Nat → Value) (S : Nat → S4) (k : Int) (w : World) (hn : n ≤ 1048576) (hl : sumL (lenS S) n ≤ 1048576) (k0 : 0 ≤ k) (k1 : k ≤ 50000000) (o : OKB w P D n (fun i => (k + (3 * i + sumL (lenS S) i : Nat))) us (fun i => mkSk ((k + (3 * i + sumL (lenS S) i : Nat)) + 1) (S i))) :
    Calls Tryz.prog 17 #[.slice (some ⟨D, 0, none⟩) n cap, .int .i64 k] w fun e w' => e = .returned (.int .i64 (k + (3 * n + sumL (lenS S) n : Nat))) ∧ Below w.heap.size w w' := by
  have hl' : (n : Int) ≤ 1048576 := by omega
  have O : Hid (OKB w P D n (fun i => (k + (3 * i + sumL (lenS S) i : Nat))) us (fun i => mkSk ((k + (3 * i + sumL (lenS S) i : Nat)) + 1) (S i))) := o
  have HL : Hid (sumL (lenS S) n ≤ 1048576) := hl
  clear o hl
  go_enter Tryz.func17, Tryz.ntmps17
  go_wp2_with fail
  go_loopw [1, 5] (fun q i wr => ∃ j : Nat, j ≤ n ∧ i = .int .i64 j ∧ q = .int .i64 (k + (3 * j + sumL (lenS S) j : Nat)) ∧ Below w.heap.size w wr) (fun _ i _ => n - (intOf i).toNat)
  case atStart => exact ⟨0, Nat.zero_le _, rfl, by simp [sumL], Below.refl _ _⟩
  case round =>
    obtain ⟨j, hj, rfl, rfl, hbw⟩ := hrel
    by_cases hlt : j < n
    · have hlt' : (j : Int) < (n : Int) := by omega
      have Q := O.out.below hbw
      obtain ⟨ra, rc, oa, oc, ev, c0, c1, c2, c3, c4⟩ := Q.cel j hlt
      have how := Q.own j hlt
      rw [ev] at how
      have hs1 := how.parts.1.slOf
      have hs2 := how.parts.2.1.slOf
      simp only [mkSk, marks_length] at c0 c1 c2 c3 c4 hs1 hs2
      have hsl := sumL_at (lenS S) hlt
      have hS := HL.out
      have hlk : lenS S j = (S j).rs.length + (S j).os.length := rfl
      have r1 : (S j).rs.length ≤ 1048576 := by omega
      have r2 : (S j).os.length ≤ 1048576 := by omega
      generalize hx : (k + (3 * j + sumL (lenS S) j : Nat)) = X at *
      have x0 : 0 ≤ X := by omega
      have x1 : X ≤ 60000000 := by omega
      have HN : Hid (X + 1 + 1 + (S j).rs.length + (S j).os.length + 1 = k + (3 * (j + 1) + sumL (lenS S) (j + 1) : Nat)) := by
        show X + 1 + 1 + (S j).rs.length + (S j).os.length + 1 = k + (3 * (j + 1) + sumL (lenS S) (j + 1) : Nat)
        simp only [sumL]
        omega
      have SA : Hid (Sl wr ra (marks (X + 1 + 1) (S j).rs.length) ∧ Sl wr oa (marks (X + 1 + 1 + (S j).rs.length) (S j).os.length)) := ⟨hs1, hs2⟩
      have rI : ((S j).rs.length : Int) ≤ 1048576 := by omega
      have oI : ((S j).os.length : Int) ≤ 1048576 := by omega
      have n1 : ¬ (X + 1 + 1 + ((S j).rs.length : Int) < 0) := by omega
      have n2 : ¬ (X + 1 + 1 + ((S j).rs.length : Int) + ((S j).os.length : Int) < 0) := by omega
      clear hs1 hs2 how Q ev hsl hS hlk hx
      go_wp2_with fail
      refine (heldIntS_marks ra rc (S j).rs.length (X + 1 + 1) wr r1 (by omega) (by omega) SA.out.1).mono ?_
      rintro e w1 ⟨rfl, hw1⟩
      rw [hw1]
      clear hw1 w1
      go_wp2_with fail
      refine (heldIntS_marks oa oc (S j).os.length (X + 1 + 1 + (S j).rs.length) wr r2 (by omega) (by omega) SA.out.2).mono ?_
      rintro e w1 ⟨rfl, hw1⟩
      rw [hw1]
      clear hw1 w1
      go_wp2
      go_roundw
      case rel => exact ⟨j + 1, by omega, by go_num, by rw [HN.out], hbw⟩
      case measure => simp [intOf]; omega
    · have hkl : j = n := by omega
      subst hkl
      go_wp2
      go_ret
      exact ⟨rfl, hbw⟩

end Go.Proofs.YtkoghgnbolaooaaGreat
