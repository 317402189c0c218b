/- The one listed variable: what the condition gives a walk, and a world that meets it. -/
import Derived.Test.YtcplnkhdclcgfaaGreatDoorGc0
import Derived.Test.YtcplnkhdclcgfaaGreatDoorGc17
import Derived.Test.YtcplnkhdclcgfaaGreatDoorRows
import Derived.Test.YtcplnkhdclcgfaaGreatDoorTie
import Derived.ChangeSame
import Derived.ChangeVars
import Derived.JoinedOf
import Derived.RowKit
import Derived.RowKitTokens
import Derived.LaidLaws
import Derived.LaidHandle
import Derived.Stop.Joined
namespace Go.Proofs.YtcplnkhdclcgfaaGreatDoor
set_option maxRecDepth 100000
set_option maxHeartbeats 2000000
open Go.ChangeShapes Go.WideShapes Go.ChangeAt Go.RowKit Go.Deep
theorem eqStateS_same (D1 h1 D2 h2 n c1 c2 : Nat) (S : Nat → S4) (v1 v2 : Nat → Value) (w : World) (hn : n ≤ 1048576) (hl : ∀ i, i < n → (S i).rs.length ≤ 1048576 ∧ (S i).os.length ≤ 1048576) (o1 : OutState w D1 h1 n S v1) (o2 : OutState w D2 h2 n S v2) :
  Calls Tryz.prog 72 #[.slice (some ⟨D1, 0, none⟩) n c1, .slice (some ⟨D2, 0, none⟩) n c2] w fun e w' => e = .returned (.bool true) ∧ Below w.heap.size w w' := by
 have hl' : (n : Int) ≤ 1048576 := by omega
 have O1 : Hid (OutState w D1 h1 n S v1) := o1
 have O2 : Hid (OutState w D2 h2 n S v2) := o2
 have HL : Hid (∀ i, i < n → (S i).rs.length ≤ 1048576 ∧ (S i).os.length ≤ 1048576) := hl
 clear o1 o2 hl
 go_enter Tryz.func72, Tryz.ntmps72
 go_wp2_with fail
 go_loopw [5] (fun i wr => ∃ k : Nat, k ≤ n ∧ i = .int .i64 k ∧ Below w.heap.size w wr) (fun i _ => n - (intOf i).toNat)
 case atStart => exact ⟨0, Nat.zero_le _, rfl, Below.refl _ _⟩
 case round =>
  obtain ⟨k, hk, rfl, hbw⟩ := hrel
  have hs := hbw.size
  by_cases hlt : k < n
  ·have P1 : Hid (OutState wr D1 h1 n S v1) := O1.out.below hbw O1.out.le
   have P2 : Hid (OutState wr D2 h2 n S v2) := O2.out.below hbw O2.out.le
   obtain ⟨ra, rc, oa, oc, e1, a0, a1, a2, a3⟩ := P1.out.cel k hlt
   obtain ⟨ra', rc', oa', oc', e2, b0, b1, b2, b3⟩ := P2.out.cel k hlt
   have hsl1 : Sl wr ra (S k).rs ∧ Sl wr oa (S k).os := by
    obtain ⟨x1, x2, x3, x4, e, s1, s2⟩ := (P1.out.own k hlt).read
    rw [e1] at e
    simp only [Value.agg.injEq, Array.mk.injEq, List.cons.injEq, Value.slice.injEq, and_true, true_and] at e
    obtain ⟨⟨rfl, rfl⟩, rfl, rfl⟩ := e
    exact ⟨s1, s2⟩
   have hsl2 : Sl wr ra' (S k).rs ∧ Sl wr oa' (S k).os := by
    obtain ⟨x1, x2, x3, x4, e, s1, s2⟩ := (P2.out.own k hlt).read
    rw [e2] at e
    simp only [Value.agg.injEq, Array.mk.injEq, List.cons.injEq, Value.slice.injEq, and_true, true_and] at e
    obtain ⟨⟨rfl, rfl⟩, rfl, rfl⟩ := e
    exact ⟨s1, s2⟩
   have H1 : Hid (Sl wr ra (S k).rs ∧ Sl wr oa (S k).os) := hsl1
   have H2 : Hid (Sl wr ra' (S k).rs ∧ Sl wr oa' (S k).os) := hsl2
   have hlt' : (k : Int) < (n : Int) := by omega
   clear hsl1 hsl2 e1 e2
   go_wp2_with fail
   first | (go_region_with (go_at_call 152; refine (eqState_same _ _ ra oa ra' oa' rc oc rc' oc' (S k).rs (S k).os wr.drew (HL.out k hlt).1 (HL.out k hlt).2 H1.out.1 H1.out.2 H2.out.1 H2.out.2).mono ?_; rintro e w1 ⟨rfl, hq1⟩)) | fail
   all_goals
    go_wp2
    go_roundw
    case rel => exact ⟨k + 1, by omega, by go_num, hbw.drew.trans (hq1.mono hs)⟩
    case measure => simp [intOf]; omega
  ·go_wp2
   go_ret
   exact ⟨rfl, hbw⟩
structure MkS (w wr : World) (D j : Nat) (vs : Nat → Value) : Prop where
 tch : Touch (fun b => b = D ∨ ∃ t, t < j ∧ hasBlock (vs t) b) w wr
 cel : ∀ i, j * 4 ≤ i → wr.cell? ⟨D, i, none⟩ = w.cell? ⟨D, i, none⟩
 fr : ∀ i, wr.frozen? ⟨D, i, none⟩ = false
theorem markStateS_any (D hi n cap : Nat) (S : Nat → S4) (vs : Nat → Value) (k : Int) (w : World) (hn : n ≤ 1048576) (hl : sumL (lenS S) n ≤ 1048576) (k0 : 0 ≤ k) (k1 : k ≤ 50000000) (o : OutState w D hi n S vs) :
  Calls Tryz.prog 76 #[.slice (some ⟨D, 0, none⟩) n cap, .int .i64 k] w fun e w' => e = .returned (.int .i64 (k + (2 * n + sumL (lenS S) n : Nat))) ∧ Touch (fun b => D ≤ b ∧ b < hi) w w' := by
 have hl' : (n : Int) ≤ 1048576 := by omega
 have O : Hid (OutState w D hi n S vs) := o
 have HL : Hid (sumL (lenS S) n ≤ 1048576) := hl
 clear o hl
 go_enter Tryz.func76, Tryz.ntmps76
 go_wp2_with fail
 go_loopw [1, 5] (fun q i wr => ∃ j : Nat, j ≤ n ∧ i = .int .i64 j ∧ q = .int .i64 (k + (2 * j + sumL (lenS S) j : Nat)) ∧ Hid (MkS w wr D j vs)) (fun _ i _ => n - (intOf i).toNat)
 case atStart => exact ⟨0, Nat.zero_le _, rfl, by simp [sumL], Touch.refl _ _, fun _ _ => rfl, O.out.fr⟩
 case round =>
  obtain ⟨j, hj, rfl, rfl, HT⟩ := hrel
  by_cases hlt : j < n
  ·have hlt' : (j : Int) < (n : Int) := by omega
   obtain ⟨ra, rc, oa, oc, ev, a0, a1, a2, a3⟩ := O.out.cel j hlt
   have c0 := (HT.out.cel (j * 4) (by omega)).trans a0
   have c1 := (HT.out.cel (j * 4 + 1) (by omega)).trans a1
   have c2 := (HT.out.cel (j * 4 + 2) (by omega)).trans a2
   have c3 := (HT.out.cel (j * 4 + 3) (by omega)).trans a3
   have fz := HT.out.fr
   have hD : D < wr.heap.size := Nat.lt_of_lt_of_le O.out.lt (Nat.le_trans O.out.le HT.out.tch.size)
   have how := O.out.own j hlt
   have howr : StOwn wr (D + 1) (vs j) (S j).p (S j).rs (S j).os (S j).c := how.blk fun b hb => HT.out.tch.block b (how.lt hb).2 (by
    rintro (e | ⟨t, ht, h1⟩)
    ·have := (how.lt hb).1
     omega
    ·exact O.out.apart t j ht hlt b h1 hb)
   have hbd : ∀ b, hasBlock (vs j) b → D + 1 ≤ b := fun b hb => (how.lt hb).1
   rw [ev] at howr hbd
   obtain ⟨vr, vo, e, w1r, w1o, wap⟩ := howr
   simp only [Value.agg.injEq, Array.mk.injEq, List.cons.injEq, and_true, true_and] at e
   obtain ⟨rfl, rfl⟩ := e
   have OR : Hid (OwnI wr (D + 1) (.slice ra (S j).rs.length rc) (S j).rs) := w1r
   have OO : Hid (OwnI wr (D + 1) (.slice oa (S j).os.length oc) (S j).os) := w1o
   have AP : Hid (∀ b, (Value.slice ra (S j).rs.length rc).ownBlock = some b → (Value.slice oa (S j).os.length oc).ownBlock ≠ some b) := wap
   have HV : Hid (vs j = stV (S j).p ra (S j).rs.length rc oa (S j).os.length oc (S j).c) := ev
   have hsl := sumL_at (lenS S) hlt
   have hS := HL.out
   have hlk : lenS S j = (S j).rs.length + (S j).os.length := rfl
   have r1 : (S j).rs.length ≤ 1048576 := by omega
   have r2 : (S j).os.length ≤ 1048576 := by omega
   generalize hx : k + (2 * j + sumL (lenS S) j : Nat) = X at *
   have x0 : 0 ≤ X := by omega
   have x1 : X ≤ 60000000 := by omega
   have HN : Hid (X + 1 + (S j).rs.length + (S j).os.length + 1 = k + (2 * (j + 1) + sumL (lenS S) (j + 1) : Nat)) := by
    show X + 1 + (S j).rs.length + (S j).os.length + 1 = k + (2 * (j + 1) + sumL (lenS S) (j + 1) : Nat)
    simp only [sumL]
    omega
   have rI : ((S j).rs.length : Int) ≤ 1048576 := by omega
   have oI : ((S j).os.length : Int) ≤ 1048576 := by omega
   clear a0 a1 a2 a3 ev wap w1r w1o how hsl hS hlk hx
   go_wp2_with fail
   refine (markIntS_any ra rc (D + 1) (S j).rs _ _ r1 (by omega) (by omega) (OR.out.setBelow (by simp) _)).mono ?_
   rintro e w1 ⟨rfl, -, g1⟩
   have nR : some D ≠ (Value.slice ra (S j).rs.length rc).ownBlock := fun e => by
    have := (OR.out.lt D e.symm).1
    omega
   have nO : some D ≠ (Value.slice oa (S j).os.length oc).ownBlock := fun e => by
    have := (OO.out.lt D e.symm).1
    omega
   obtain ⟨d1, f1⟩ := gcell g1 (b := D) (by simpa using hD) nR
   have OO1 : Hid (OwnI w1 (D + 1) (.slice oa (S j).os.length oc) (S j).os) := own_apart (OO.out.setBelow (by simp) _) g1 AP.out
   have hD1 : D < w1.heap.size := by have := g1.size; simp at this; omega
   have G1 : Hid (World.grownBy (wr.setCell ⟨D, j * 4, none⟩ (.int .i64 X)) w1 (Value.slice ra (S j).rs.length rc).ownBlock) := g1
   clear g1
   go_wp2_with fail
   refine (markIntS_any oa oc (D + 1) (S j).os _ _ r2 (by omega) (by omega) OO1.out).mono ?_
   rintro e w2 ⟨rfl, -, g2⟩
   obtain ⟨d2, f2⟩ := gcell g2 (b := D) hD1 nO
   have HT2 : Hid (∀ u, MkS w (w2.setCell ⟨D, j * 4 + 3, none⟩ u) D (j + 1) vs) := by
    intro u
    have t0 : Touch (fun b => b = D ∨ ∃ t, t < j + 1 ∧ hasBlock (vs t) b) w wr := HT.out.tch.mono (by
     rintro b (e | ⟨t, ht, h1⟩)
     ·exact .inl e
     ·exact .inr ⟨t, by omega, h1⟩)
    have t1 : Touch (fun b => b = D ∨ ∃ t, t < j + 1 ∧ hasBlock (vs t) b) wr (wr.setCell ⟨D, j * 4, none⟩ (.int .i64 X)) := Touch.of_set _ (.inl rfl) _
    have t2 : Touch (fun b => b = D ∨ ∃ t, t < j + 1 ∧ hasBlock (vs t) b) (wr.setCell ⟨D, j * 4, none⟩ (.int .i64 X)) w1 := Touch.of_grown G1.out fun b e => .inr ⟨j, by omega, by
     rw [HV.out]
     exact (hasBlock_iff _ _ _ _ _).2 (.inl e)⟩
    have t3 : Touch (fun b => b = D ∨ ∃ t, t < j + 1 ∧ hasBlock (vs t) b) w1 w2 := Touch.of_grown g2 fun b e => .inr ⟨j, by omega, by
     rw [HV.out]
     exact (hasBlock_iff _ _ _ _ _).2 (.inr e)⟩
    refine ⟨(((t0.trans t1).trans t2).trans t3).trans (Touch.of_set _ (.inl rfl) _), fun i hi => ?_, fun i => ?_⟩
    ·have s1 : ∀ (W : World) (o : Nat) (u : Value), o ≠ i → (W.setCell ⟨D, o, none⟩ u).cell? ⟨D, i, none⟩ = W.cell? ⟨D, i, none⟩ := fun W o u h => World.cell?_setCell_other _ _ _ _ fun e => h (by injection e)
     rw [s1 _ _ _ (by omega), d2, d1, s1 _ _ _ (by omega)]
     exact HT.out.cel i (by omega)
    ·rw [World.frozen?_setCell, f2, f1, World.frozen?_setCell]
     exact HT.out.fr i
   clear g2 G1 OO1 OO OR AP HV HT
   go_wp2
   go_roundw
   case rel => exact ⟨j + 1, by omega, by go_num, by rw [HN.out], HT2.out _⟩
   case measure => simp [intOf]; omega
  ·have hkl : j = n := by omega
   subst hkl
   have HT1 : Hid (Touch (fun b => D ≤ b ∧ b < hi) w wr) := HT.out.tch.mono (by
    rintro b (e | ⟨t, ht, h1⟩)
    ·subst e
     exact ⟨Nat.le_refl _, O.out.lt⟩
    ·exact ⟨by have := ((O.out.own t ht).lt h1).1; omega, O.out.bd t ht b h1⟩)
   clear HT
   go_wp2
   go_ret
   exact ⟨rfl, HT1.out⟩
def numL (h : Nat → I2) : Nat → List Int
 | 0 => []
 | n + 1 => if (h n).m = true then numL h n else numL h n ++ [(h n).v]
theorem numL_le (h : Nat → I2) : ∀ n, (numL h n).length ≤ n
 | 0 => Nat.le_refl _
 | n + 1 => by
  unfold numL
  have := numL_le h n
  split
  ·omega
  ·simp; omega
theorem numL_hit {h : Nat → I2} {n : Nat} (hh : (h n).m = false) : numL h (n + 1) = numL h n ++ [(h n).v] := by
 rw [numL, if_neg (by rw [hh]; decide)]
theorem numL_not {h : Nat → I2} {n : Nat} (hh : (h n).m = true) : numL h (n + 1) = numL h n := by
 rw [numL, if_pos hh]
theorem Tryz.et : Tryz.prog.globalNamed "errors.errorType" = some 0 := by kernel_rfl
theorem Tryz.rt : (Tryz.prog.cutTypes.find? (·.1 == "internal/reflectlite.rtype")).map (·.2) = some 272 := by kernel_rfl
theorem Tryz.oneRow : ((List.range 319).filter fun t => Tryz.prog.rowNamed t [101, 114, 114, 111, 114]) = [172] := by kernel_rfl
theorem Tryz.tsize : Tryz.prog.types.size = 319 := by kernel_rfl
theorem handle_of_laid {W : World} (h : laidMetH Tryz.prog [("errors.errorType", Rows.laid_errors_errorType)] W) : W.cell? ⟨0, 0, none⟩ = some (.iface 272 (.agg #[.pointer (some ⟨1, 172, none⟩)])) := by
 have h' : laidMet Tryz.prog [] W ∧ handlesMet Tryz.prog [("errors.errorType", Rows.laid_errors_errorType)] W := h
 obtain ⟨name, u, ty, e1, e2, e3, e4, e5⟩ := h'.2 _ (List.mem_singleton.2 rfl)
 have en : name = [101, 114, 114, 111, 114] := (Option.some.inj e1).symm
 subst en
 obtain rfl := Option.some.inj (Tryz.rt.symm.trans e2)
 have hm : ty ∈ (List.range 319).filter fun t => Tryz.prog.rowNamed t [101, 114, 114, 111, 114] := List.mem_filter.2 ⟨List.mem_range.2 (by rw [← Tryz.tsize]; exact e3), e4⟩
 rw [Tryz.oneRow] at hm
 obtain rfl := List.mem_singleton.1 hm
 have hh : typeHandle Tryz.prog 172 = .pointer (some ⟨1, 172, none⟩) := by kernel_rfl
 rw [hh] at e5
 simpa using World.var?_cell Tryz.et e5 0
noncomputable def laidWorld (os : Os) : World :=
 let w0 := World.holding Tryz.prog os ⟨#[], #[], []⟩
 { w0 with heap := w0.heap.modify 0 fun
   | .cells _ t frozen => .cells #[.iface 272 (.agg #[.pointer (some ⟨1, 172, none⟩)])] t frozen
   | o => o }
theorem laidWorld_met (os : Os) (args : Array Value) : laidMetH Tryz.prog [("errors.errorType", Rows.laid_errors_errorType)] ((laidWorld os).forCall (fun _ _ => 0) ⟨#[], args, []⟩).memory :=
 laidMetH_of_parts (laidMet_nil _ _) (by kernel_rfl)
end Go.Proofs.YtcplnkhdclcgfaaGreatDoor
