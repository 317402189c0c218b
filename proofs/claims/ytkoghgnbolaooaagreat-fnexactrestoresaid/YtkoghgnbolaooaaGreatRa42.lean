/- Lists of kept states: marked. -/
import Derived.Test.YtkoghgnbolaooaaGreatRa34
import Derived.Test.YtkoghgnbolaooaaGreatRa19
namespace Go.Proofs.YtkoghgnbolaooaaGreat
open Go.ChangeShapes Go.WideShapes Go.ChangeAt Go.RowKit Go.Deep

/-- Between the rounds of marking kept states. -/
structure MkK (w wr : World) (D j : Nat) (vs : Nat → Value) : Prop where
  tch : Touch (fun b => b = D ∨ ∃ t, t < j ∧ hasBlock (vs t) b) w wr
  cel : ∀ i, j * 5 ≤ i → wr.cell? ⟨D, i, none⟩ = w.cell? ⟨D, i, none⟩
  fr : ∀ i, wr.frozen? ⟨D, i, none⟩ = false

set_option maxRecDepth 100000 in
set_option maxHeartbeats 2000000 in
theorem markKeptS_any (D hi n cap : Nat) (N : Nat → Int) (S : Nat → S4) (vs : Nat → Value) (k : Int) (w : World) (hn : n ≤ 1048576) (hl : sumL (lenS S) n ≤ 1048576) (k0 : 0 ≤ k) (k1 : k ≤ 50000000) (o : OutKept w D hi n N S vs) :
    Calls Tryz.prog 16 #[.slice (some ⟨D, 0, none⟩) n cap, .int .i64 k] w fun e w' => e = .returned (.int .i64 (k + (3 * n + sumL (lenS S) n : Nat))) ∧ Touch (fun b => D ≤ b ∧ b < hi) w w' := by
  have hl' : (n : Int) ≤ 1048576 := by omega
  have O : Hid (OutKept w D hi n N S vs) := o
  have HL : Hid (sumL (lenS S) n ≤ 1048576) := hl
  clear o hl
  go_enter Tryz.func16, Tryz.ntmps16
  go_wp2_with fail
  go_loopw [1, 5] (fun q i wr => ∃ j : Nat, j ≤ n ∧ i = .int .i64 j ∧ q = .int .i64 (k + (3 * j + sumL (lenS S) j : Nat)) ∧ Hid (MkK w wr D j vs)) (fun _ i _ => n - (intOf i).toNat)
  case atStart => exact ⟨0, Nat.zero_le _, rfl, by simp [sumL], Touch.refl _ _, fun _ _ => rfl, O.out.fr⟩
  case round =>
    obtain ⟨j, hj, rfl, rfl, HT⟩ := hrel
    by_cases hlt : j < n
    · have hlt' : (j : Int) < (n : Int) := by omega
      obtain ⟨ra, rc, oa, oc, ev, a0, a1, a2, a3, a4⟩ := O.out.cel j hlt
      have c0 := (HT.out.cel (j * 5) (by omega)).trans a0
      have c4 := (HT.out.cel (j * 5 + 1) (by omega)).trans a1
      have c1 := (HT.out.cel (j * 5 + 2) (by omega)).trans a2
      have c2 := (HT.out.cel (j * 5 + 3) (by omega)).trans a3
      have c3 := (HT.out.cel (j * 5 + 4) (by omega)).trans a4
      have fz := HT.out.fr
      have hD : D < wr.heap.size := Nat.lt_of_lt_of_le O.out.lt (Nat.le_trans O.out.le HT.out.tch.size)
      have how := O.out.own j hlt
      have howr : StOwn wr (D + 1) (vs j) (S j).p (S j).rs (S j).os (S j).c := how.blk fun b hb => HT.out.tch.block b (how.lt hb).2 (by
        rintro (e | ⟨t, ht, h1⟩)
        · have := (how.lt hb).1
          omega
        · exact O.out.apart t j ht hlt b h1 hb)
      have hbd : ∀ b, hasBlock (vs j) b → D + 1 ≤ b := fun b hb => (how.lt hb).1
      rw [ev] at howr hbd
      obtain ⟨vr, vo, e, w1r, w1o, wap⟩ := howr
      simp only [Value.agg.injEq, Array.mk.injEq, List.cons.injEq, and_true, true_and] at e
      obtain ⟨rfl, rfl⟩ := e
      have OR : Hid (OwnI wr (D + 1) (.slice ra (S j).rs.length rc) (S j).rs) := w1r
      have OO : Hid (OwnI wr (D + 1) (.slice oa (S j).os.length oc) (S j).os) := w1o
      have AP : Hid (∀ b, (Value.slice ra (S j).rs.length rc).ownBlock = some b → (Value.slice oa (S j).os.length oc).ownBlock ≠ some b) := wap
      have HV : Hid (vs j = stV (S j).p ra (S j).rs.length rc oa (S j).os.length oc (S j).c) := ev
      have hsl := sumL_at (lenS S) hlt
      have hS := HL.out
      have hlk : lenS S j = (S j).rs.length + (S j).os.length := rfl
      have r1 : (S j).rs.length ≤ 1048576 := by omega
      have r2 : (S j).os.length ≤ 1048576 := by omega
      generalize hx : k + (3 * j + sumL (lenS S) j : Nat) = X at *
      have x0 : 0 ≤ X := by omega
      have x1 : X ≤ 60000000 := by omega
      have HN : Hid (X + 1 + 1 + (S j).rs.length + (S j).os.length + 1 = k + (3 * (j + 1) + sumL (lenS S) (j + 1) : Nat)) := by
        show X + 1 + 1 + (S j).rs.length + (S j).os.length + 1 = k + (3 * (j + 1) + sumL (lenS S) (j + 1) : Nat)
        simp only [sumL]
        omega
      have rI : ((S j).rs.length : Int) ≤ 1048576 := by omega
      have oI : ((S j).os.length : Int) ≤ 1048576 := by omega
      clear a0 a1 a2 a3 a4 ev wap w1r w1o how hsl hS hlk hx
      go_wp2_with fail
      refine (markIntS_any ra rc (D + 1) (S j).rs _ _ r1 (by omega) (by omega) ((OR.out.setBelow (by simp) _).setBelow (by simp) _)).mono ?_
      rintro e w1 ⟨rfl, -, g1⟩
      have nR : some D ≠ (Value.slice ra (S j).rs.length rc).ownBlock := fun e => by
        have := (OR.out.lt D e.symm).1
        omega
      have nO : some D ≠ (Value.slice oa (S j).os.length oc).ownBlock := fun e => by
        have := (OO.out.lt D e.symm).1
        omega
      obtain ⟨d1, f1⟩ := gcell g1 (b := D) (by simpa using hD) nR
      have OO1 : Hid (OwnI w1 (D + 1) (.slice oa (S j).os.length oc) (S j).os) := own_apart ((OO.out.setBelow (by simp) _).setBelow (by simp) _) g1 AP.out
      have hD1 : D < w1.heap.size := by have := g1.size; simp at this; omega
      have G1 : Hid (World.grownBy ((wr.setCell ⟨D, j * 5, none⟩ (.int .i64 X)).setCell ⟨D, j * 5 + 1, none⟩ (.int .i64 (X + 1))) w1 (Value.slice ra (S j).rs.length rc).ownBlock) := g1
      clear g1
      go_wp2_with fail
      refine (markIntS_any oa oc (D + 1) (S j).os _ _ r2 (by omega) (by omega) OO1.out).mono ?_
      rintro e w2 ⟨rfl, -, g2⟩
      obtain ⟨d2, f2⟩ := gcell g2 (b := D) hD1 nO
      have HT2 : Hid (∀ u, MkK w (w2.setCell ⟨D, j * 5 + 4, none⟩ u) D (j + 1) vs) := by
        intro u
        have t0 : Touch (fun b => b = D ∨ ∃ t, t < j + 1 ∧ hasBlock (vs t) b) w wr := HT.out.tch.mono (by
          rintro b (e | ⟨t, ht, h1⟩)
          · exact .inl e
          · exact .inr ⟨t, by omega, h1⟩)
        have t1 : Touch (fun b => b = D ∨ ∃ t, t < j + 1 ∧ hasBlock (vs t) b) wr ((wr.setCell ⟨D, j * 5, none⟩ (.int .i64 X)).setCell ⟨D, j * 5 + 1, none⟩ (.int .i64 (X + 1))) := (Touch.of_set _ (.inl rfl) _).trans (Touch.of_set _ (.inl rfl) _)
        have t2 : Touch (fun b => b = D ∨ ∃ t, t < j + 1 ∧ hasBlock (vs t) b) ((wr.setCell ⟨D, j * 5, none⟩ (.int .i64 X)).setCell ⟨D, j * 5 + 1, none⟩ (.int .i64 (X + 1))) w1 := Touch.of_grown G1.out fun b e => .inr ⟨j, by omega, by
          rw [HV.out]
          exact (hasBlock_iff _ _ _ _ _).2 (.inl e)⟩
        have t3 : Touch (fun b => b = D ∨ ∃ t, t < j + 1 ∧ hasBlock (vs t) b) w1 w2 := Touch.of_grown g2 fun b e => .inr ⟨j, by omega, by
          rw [HV.out]
          exact (hasBlock_iff _ _ _ _ _).2 (.inr e)⟩
        refine ⟨(((t0.trans t1).trans t2).trans t3).trans (Touch.of_set _ (.inl rfl) _), fun i hi => ?_, fun i => ?_⟩
        · have s1 : ∀ (W : World) (o : Nat) (u : Value), o ≠ i → (W.setCell ⟨D, o, none⟩ u).cell? ⟨D, i, none⟩ = W.cell? ⟨D, i, none⟩ := fun W o u h => World.cell?_setCell_other _ _ _ _ fun e => h (by injection e)
          rw [s1 _ _ _ (by omega), d2, d1, s1 _ _ _ (by omega), s1 _ _ _ (by omega)]
          exact HT.out.cel i (by omega)
        · rw [World.frozen?_setCell, f2, f1, World.frozen?_setCell, World.frozen?_setCell]
          exact HT.out.fr i
      clear g2 G1 OO1 OO OR AP HV HT
      go_wp2
      go_roundw
      case rel => exact ⟨j + 1, by omega, by go_num, by rw [HN.out], HT2.out _⟩
      case measure => simp [intOf]; omega
    · have hkl : j = n := by omega
      subst hkl
      have HT1 : Hid (Touch (fun b => D ≤ b ∧ b < hi) w wr) := HT.out.tch.mono (by
        rintro b (e | ⟨t, ht, h1⟩)
        · subst e
          exact ⟨Nat.le_refl _, O.out.lt⟩
        · exact ⟨by have := ((O.out.own t ht).lt h1).1; omega, O.out.bd t ht b h1⟩)
      clear HT
      go_wp2
      go_ret
      exact ⟨rfl, HT1.out⟩

theorem Tu.of_touch {lo hi : Nat} {w w' : World} (h : Touch (fun b => lo ≤ b ∧ b < hi) w w') : Tu lo hi w w' := ⟨h.os, h.tape, h.output, h.size, fun k hk hn => h.block k hk fun hp => by omega⟩

end Go.Proofs.YtkoghgnbolaooaaGreat
