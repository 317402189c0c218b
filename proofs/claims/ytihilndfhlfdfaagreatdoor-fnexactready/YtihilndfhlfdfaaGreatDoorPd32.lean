/- Values, Count and Numbers of lists that may be nil: the walks of the model's and of the program's. -/
import Derived.Test.YtihilndfhlfdfaaGreatDoorPd30
import Derived.Test.YtihilndfhlfdfaaGreatDoorPd29
import Derived.Test.YtihilndfhlfdfaaGreatDoorPd23
namespace Go.Proofs.YtihilndfhlfdfaaGreatDoor
open Go.ChangeShapes Go.WideShapes Go.ChangeAt Go.RowKit Go.Deep
set_option maxRecDepth 100000 in
set_option maxHeartbeats 1000000 in
theorem eqStateS_same (D1 h1 D2 h2 n c1 c2 : Nat) (S : Nat → S4) (v1 v2 : Nat → Value) (w : World) (hn : n ≤ 1048576) (hl : ∀ i, i < n → (S i).rs.length ≤ 1048576 ∧ (S i).os.length ≤ 1048576) (o1 : OutState w D1 h1 n S v1) (o2 : OutState w D2 h2 n S v2) :
   Calls Tryz.prog 37 #[.slice (some ⟨D1, 0, none⟩) n c1, .slice (some ⟨D2, 0, none⟩) n c2] w fun e w' => e = .returned (.bool true) ∧ Below w.heap.size w w' := by
 have hl' : (n : Int) ≤ 1048576 := by omega
 have O1 : Hid (OutState w D1 h1 n S v1) := o1
 have O2 : Hid (OutState w D2 h2 n S v2) := o2
 have HL : Hid (∀ i, i < n → (S i).rs.length ≤ 1048576 ∧ (S i).os.length ≤ 1048576) := hl
 clear o1 o2 hl
 go_enter Tryz.func37, Tryz.ntmps37
 go_wp2_with fail
 go_loopw [5] (fun i wr => ∃ k : Nat, k ≤ n ∧ i = .int .i64 k ∧ Below w.heap.size w wr) (fun i _ => n - (intOf i).toNat)
 case atStart => exact ⟨0, Nat.zero_le _, rfl, Below.refl _ _⟩
 case round =>
   obtain ⟨k, hk, rfl, hbw⟩ := hrel
   have hs := hbw.size
   by_cases hlt : k < n
   · have P1 : Hid (OutState wr D1 h1 n S v1) := O1.out.below hbw O1.out.le
     have P2 : Hid (OutState wr D2 h2 n S v2) := O2.out.below hbw O2.out.le
     obtain ⟨ra, rc, oa, oc, e1, a0, a1, a2, a3⟩ := P1.out.cel k hlt
     obtain ⟨ra', rc', oa', oc', e2, b0, b1, b2, b3⟩ := P2.out.cel k hlt
     have hsl1 : Sl wr ra (S k).rs ∧ Sl wr oa (S k).os := by
       obtain ⟨x1, x2, x3, x4, e, s1, s2⟩ := (P1.out.own k hlt).read
       rw [e1] at e
       simp only [Value.agg.injEq, Array.mk.injEq, List.cons.injEq, Value.slice.injEq, and_true, true_and] at e
       obtain ⟨⟨rfl, rfl⟩, rfl, rfl⟩ := e
       exact ⟨s1, s2⟩
     have hsl2 : Sl wr ra' (S k).rs ∧ Sl wr oa' (S k).os := by
       obtain ⟨x1, x2, x3, x4, e, s1, s2⟩ := (P2.out.own k hlt).read
       rw [e2] at e
       simp only [Value.agg.injEq, Array.mk.injEq, List.cons.injEq, Value.slice.injEq, and_true, true_and] at e
       obtain ⟨⟨rfl, rfl⟩, rfl, rfl⟩ := e
       exact ⟨s1, s2⟩
     have H1 : Hid (Sl wr ra (S k).rs ∧ Sl wr oa (S k).os) := hsl1
     have H2 : Hid (Sl wr ra' (S k).rs ∧ Sl wr oa' (S k).os) := hsl2
     have hlt' : (k : Int) < (n : Int) := by omega
     clear hsl1 hsl2 e1 e2
     go_wp2_with fail
     first | (go_region_with (go_at_call 81; refine (eqState_same _ _ ra oa ra' oa' rc oc rc' oc' (S k).rs (S k).os wr.drew (HL.out k hlt).1 (HL.out k hlt).2 H1.out.1 H1.out.2 H2.out.1 H2.out.2).mono ?_; rintro e w1 ⟨rfl, hq1⟩)) | fail
     all_goals
       go_wp2
       go_roundw
       case rel => exact ⟨k + 1, by omega, by go_num, hbw.drew.trans (hq1.mono hs)⟩
       case measure => simp [intOf]; omega
   · go_wp2
     go_ret
     exact ⟨rfl, hbw⟩
structure MkS (w wr : World) (D j : Nat) (vs : Nat → Value) : Prop where
 tch : Touch (fun b => b = D ∨ ∃ t, t < j ∧ hasBlock (vs t) b) w wr
 cel : ∀ i, j * 4 ≤ i → wr.cell? ⟨D, i, none⟩ = w.cell? ⟨D, i, none⟩
 fr : ∀ i, wr.frozen? ⟨D, i, none⟩ = false
set_option maxRecDepth 100000 in
set_option maxHeartbeats 2000000 in
theorem markStateS_any (D hi n cap : Nat) (S : Nat → S4) (vs : Nat → Value) (k : Int) (w : World) (hn : n ≤ 1048576) (hl : sumL (lenS S) n ≤ 1048576) (k0 : 0 ≤ k) (k1 : k ≤ 50000000) (o : OutState w D hi n S vs) :
   Calls Tryz.prog 40 #[.slice (some ⟨D, 0, none⟩) n cap, .int .i64 k] w fun e w' => e = .returned (.int .i64 (k + (2 * n + sumL (lenS S) n : Nat))) ∧ Touch (fun b => D ≤ b ∧ b < hi) w w' := by
 have hl' : (n : Int) ≤ 1048576 := by omega
 have O : Hid (OutState w D hi n S vs) := o
 have HL : Hid (sumL (lenS S) n ≤ 1048576) := hl
 clear o hl
 go_enter Tryz.func40, Tryz.ntmps40
 go_wp2_with fail
 go_loopw [1, 5] (fun q i wr => ∃ j : Nat, j ≤ n ∧ i = .int .i64 j ∧ q = .int .i64 (k + (2 * j + sumL (lenS S) j : Nat)) ∧ Hid (MkS w wr D j vs)) (fun _ i _ => n - (intOf i).toNat)
 case atStart => exact ⟨0, Nat.zero_le _, rfl, by simp [sumL], Touch.refl _ _, fun _ _ => rfl, O.out.fr⟩
 case round =>
   obtain ⟨j, hj, rfl, rfl, HT⟩ := hrel
   by_cases hlt : j < n
   · have hlt' : (j : Int) < (n : Int) := by omega
     obtain ⟨ra, rc, oa, oc, ev, a0, a1, a2, a3⟩ := O.out.cel j hlt
     have c0 := (HT.out.cel (j * 4) (by omega)).trans a0
     have c1 := (HT.out.cel (j * 4 + 1) (by omega)).trans a1
     have c2 := (HT.out.cel (j * 4 + 2) (by omega)).trans a2
     have c3 := (HT.out.cel (j * 4 + 3) (by omega)).trans a3
     have fz := HT.out.fr
     have hD : D < wr.heap.size := Nat.lt_of_lt_of_le O.out.lt (Nat.le_trans O.out.le HT.out.tch.size)
     have how := O.out.own j hlt
     have howr : StOwn wr (D + 1) (vs j) (S j).p (S j).rs (S j).os (S j).c := how.blk fun b hb => HT.out.tch.block b (how.lt hb).2 (by
       rintro (e | ⟨t, ht, h1⟩)
       · have := (how.lt hb).1
         omega
       · exact O.out.apart t j ht hlt b h1 hb)
     have hbd : ∀ b, hasBlock (vs j) b → D + 1 ≤ b := fun b hb => (how.lt hb).1
     rw [ev] at howr hbd
     obtain ⟨vr, vo, e, w1r, w1o, wap⟩ := howr
     simp only [Value.agg.injEq, Array.mk.injEq, List.cons.injEq, and_true, true_and] at e
     obtain ⟨rfl, rfl⟩ := e
     have OR : Hid (OwnI wr (D + 1) (.slice ra (S j).rs.length rc) (S j).rs) := w1r
     have OO : Hid (OwnI wr (D + 1) (.slice oa (S j).os.length oc) (S j).os) := w1o
     have AP : Hid (∀ b, (Value.slice ra (S j).rs.length rc).ownBlock = some b → (Value.slice oa (S j).os.length oc).ownBlock ≠ some b) := wap
     have HV : Hid (vs j = stV (S j).p ra (S j).rs.length rc oa (S j).os.length oc (S j).c) := ev
     have hsl := sumL_at (lenS S) hlt
     have hS := HL.out
     have hlk : lenS S j = (S j).rs.length + (S j).os.length := rfl
     have r1 : (S j).rs.length ≤ 1048576 := by omega
     have r2 : (S j).os.length ≤ 1048576 := by omega
     generalize hx : k + (2 * j + sumL (lenS S) j : Nat) = X at *
     have x0 : 0 ≤ X := by omega
     have x1 : X ≤ 60000000 := by omega
     have HN : Hid (X + 1 + (S j).rs.length + (S j).os.length + 1 = k + (2 * (j + 1) + sumL (lenS S) (j + 1) : Nat)) := by
       show X + 1 + (S j).rs.length + (S j).os.length + 1 = k + (2 * (j + 1) + sumL (lenS S) (j + 1) : Nat)
       simp only [sumL]
       omega
     have rI : ((S j).rs.length : Int) ≤ 1048576 := by omega
     have oI : ((S j).os.length : Int) ≤ 1048576 := by omega
     clear a0 a1 a2 a3 ev wap w1r w1o how hsl hS hlk hx
     go_wp2_with fail
     refine (markIntS_any ra rc (D + 1) (S j).rs _ _ r1 (by omega) (by omega) (OR.out.setBelow (by simp) _)).mono ?_
     rintro e w1 ⟨rfl, -, g1⟩
     have nR : some D ≠ (Value.slice ra (S j).rs.length rc).ownBlock := fun e => by
       have := (OR.out.lt D e.symm).1
       omega
     have nO : some D ≠ (Value.slice oa (S j).os.length oc).ownBlock := fun e => by
       have := (OO.out.lt D e.symm).1
       omega
     obtain ⟨d1, f1⟩ := gcell g1 (b := D) (by simpa using hD) nR
     have OO1 : Hid (OwnI w1 (D + 1) (.slice oa (S j).os.length oc) (S j).os) := own_apart (OO.out.setBelow (by simp) _) g1 AP.out
     have hD1 : D < w1.heap.size := by have := g1.size; simp at this; omega
     have G1 : Hid (World.grownBy (wr.setCell ⟨D, j * 4, none⟩ (.int .i64 X)) w1 (Value.slice ra (S j).rs.length rc).ownBlock) := g1
     clear g1
     go_wp2_with fail
     refine (markIntS_any oa oc (D + 1) (S j).os _ _ r2 (by omega) (by omega) OO1.out).mono ?_
     rintro e w2 ⟨rfl, -, g2⟩
     obtain ⟨d2, f2⟩ := gcell g2 (b := D) hD1 nO
     have HT2 : Hid (∀ u, MkS w (w2.setCell ⟨D, j * 4 + 3, none⟩ u) D (j + 1) vs) := by
       intro u
       have t0 : Touch (fun b => b = D ∨ ∃ t, t < j + 1 ∧ hasBlock (vs t) b) w wr := HT.out.tch.mono (by
         rintro b (e | ⟨t, ht, h1⟩)
         · exact .inl e
         · exact .inr ⟨t, by omega, h1⟩)
       have t1 : Touch (fun b => b = D ∨ ∃ t, t < j + 1 ∧ hasBlock (vs t) b) wr (wr.setCell ⟨D, j * 4, none⟩ (.int .i64 X)) := Touch.of_set _ (.inl rfl) _
       have t2 : Touch (fun b => b = D ∨ ∃ t, t < j + 1 ∧ hasBlock (vs t) b) (wr.setCell ⟨D, j * 4, none⟩ (.int .i64 X)) w1 := Touch.of_grown G1.out fun b e => .inr ⟨j, by omega, by
         rw [HV.out]
         exact (hasBlock_iff _ _ _ _ _).2 (.inl e)⟩
       have t3 : Touch (fun b => b = D ∨ ∃ t, t < j + 1 ∧ hasBlock (vs t) b) w1 w2 := Touch.of_grown g2 fun b e => .inr ⟨j, by omega, by
         rw [HV.out]
         exact (hasBlock_iff _ _ _ _ _).2 (.inr e)⟩
       refine ⟨(((t0.trans t1).trans t2).trans t3).trans (Touch.of_set _ (.inl rfl) _), fun i hi => ?_, fun i => ?_⟩
       · have s1 : ∀ (W : World) (o : Nat) (u : Value), o ≠ i → (W.setCell ⟨D, o, none⟩ u).cell? ⟨D, i, none⟩ = W.cell? ⟨D, i, none⟩ := fun W o u h => World.cell?_setCell_other _ _ _ _ fun e => h (by injection e)
         rw [s1 _ _ _ (by omega), d2, d1, s1 _ _ _ (by omega)]
         exact HT.out.cel i (by omega)
       · rw [World.frozen?_setCell, f2, f1, World.frozen?_setCell]
         exact HT.out.fr i
     clear g2 G1 OO1 OO OR AP HV HT
     go_wp2
     go_roundw
     case rel => exact ⟨j + 1, by omega, by go_num, by rw [HN.out], HT2.out _⟩
     case measure => simp [intOf]; omega
   · have hkl : j = n := by omega
     subst hkl
     have HT1 : Hid (Touch (fun b => D ≤ b ∧ b < hi) w wr) := HT.out.tch.mono (by
       rintro b (e | ⟨t, ht, h1⟩)
       · subst e
         exact ⟨Nat.le_refl _, O.out.lt⟩
       · exact ⟨by have := ((O.out.own t ht).lt h1).1; omega, O.out.bd t ht b h1⟩)
     clear HT
     go_wp2
     go_ret
     exact ⟨rfl, HT1.out⟩
end Go.Proofs.YtihilndfhlfdfaaGreatDoor
namespace Go.Proofs.YtihilndfhlfdfaaGreatDoor
open Go.RowKit Go.Deep
set_option maxRecDepth 100000 in
set_option maxHeartbeats 1000000 in
theorem specValues_l (ea : Option Addr) (len cap : Nat) (eh : Nat → E3) (kd pr : Int) (w : World) (hlen : len ≤ 1048576) (hc : EvL w ea len eh) :
   Calls Tryz.prog 67 #[.slice ea len cap, .int .i64 kd, .int .i64 pr] w fun e w' => ∃ v, e = .returned v ∧ OwnI w' w.heap.size v (valL eh kd pr len) ∧ Below w.heap.size w w' := by
 have hl' : (len : Int) ≤ 1048576 := by omega
 have HC : Hid (EvL w ea len eh) := hc
 clear hc
 go_enter Tryz.func67, Tryz.ntmps67
 go_wp2_with fail
 go_loopw [7, 8] (fun o i wr => ∃ k : Nat, k ≤ len ∧ i = .int .i64 k ∧ Hid (OwnI wr w.heap.size o (valL eh kd pr k)) ∧ Below w.heap.size w wr) (fun _ i _ => len - (intOf i).toNat)
 case atStart => exact ⟨0, Nat.zero_le _, rfl, own_empty w, (Below.refl _ _).alloc (Nat.le_refl _) _⟩
 case round =>
   obtain ⟨k, hk, rfl, HO, hbw⟩ := hrel
   have hs := hbw.size
   by_cases hlt : k < len
   · have hlt' : (k : Int) < (len : Int) := by omega
     have hvl := valL_le eh kd pr k
     obtain ⟨b, off, rfl, -, c0, c1, c2⟩ := (HC.out.below hbw).at hlt
     rcases Bool.eq_false_or_eq_true ((eh k).k == kd) with t1 | t1
     · rcases Bool.eq_false_or_eq_true ((eh k).q == pr) with t2 | t2
       · have HH : Hid (valL eh kd pr (k + 1) = valL eh kd pr k ++ [(eh k).v]) := valL_hit (by
           unfold hitB
           rw [t1, t2]
           rfl)
         go_wp2_with (at_builtin; refine append_one wr rfl _ _ rfl w.heap.size u7 (valL eh kd pr k) rfl HO.out (eh k).v rfl (by omega) hs ?_; intro v' w4 o4 b4; have H4 : Hid (OwnI w4 w.heap.size v' (valL eh kd pr (k + 1))) := o4.to HH.out; clear o4)
         go_roundw
         case rel => exact ⟨k + 1, by omega, by go_num, H4.out, hbw.trans b4⟩
         case measure => simp [intOf]; omega
       · have HH : Hid (valL eh kd pr (k + 1) = valL eh kd pr k) := valL_not (by
           unfold hitB
           rw [t1, t2]
           rfl)
         go_wp2
         go_roundw
         case rel => exact ⟨k + 1, by omega, by go_num, HO.out.to HH.out, hbw⟩
         case measure => simp [intOf]; omega
     · have HH : Hid (valL eh kd pr (k + 1) = valL eh kd pr k) := valL_not (by
         unfold hitB
         rw [t1]
         rfl)
       go_wp2
       go_roundw
       case rel => exact ⟨k + 1, by omega, by go_num, HO.out.to HH.out, hbw⟩
       case measure => simp [intOf]; omega
   · have hkl : k = len := by omega
     have H4 : Hid (OwnI wr w.heap.size u7 (valL eh kd pr len)) := by
       have := HO.out
       rw [hkl] at this
       exact this
     clear HO hkl
     go_wp2
     go_ret
     exact ⟨_, rfl, H4.out, hbw⟩
set_option maxRecDepth 100000 in
set_option maxHeartbeats 1000000 in
theorem placesOf_l (ea : Option Addr) (len cap : Nat) (eh : Nat → E3) (kd pr : Int) (w : World) (hlen : len ≤ 1048576) (hc : EvL w ea len eh) :
   Calls Tryz.prog 182 #[.slice ea len cap, .int .i64 kd, .int .i64 pr] w fun e w' => ∃ v, e = .returned v ∧ OwnI w' w.heap.size v (plI eh kd pr len) ∧ Below w.heap.size w w' := by
 have hl' : (len : Int) ≤ 1048576 := by omega
 have HC : Hid (EvL w ea len eh) := hc
 clear hc
 go_enter Tryz.func182, Tryz.ntmps182
 go_wp2_with fail
 go_loopw [7, 13] (fun o i wr => ∃ k : Nat, k ≤ len ∧ i = .int .i64 k ∧ Hid (OwnI wr w.heap.size o (plI eh kd pr k)) ∧ Below w.heap.size w wr) (fun _ i _ => len - (intOf i).toNat)
 case atStart => exact ⟨0, Nat.zero_le _, rfl, own_empty w, (Below.refl _ _).alloc (Nat.le_refl _) _⟩
 case round =>
   obtain ⟨k, hk, rfl, HO, hbw⟩ := hrel
   have hs := hbw.size
   by_cases hlt : k < len
   · have hlt' : (k : Int) < (len : Int) := by omega
     have hvl := plI_le eh kd pr k
     obtain ⟨b, off, rfl, -, c0, c1, c2⟩ := (HC.out.below hbw).at hlt
     rcases Bool.eq_false_or_eq_true ((eh k).k == kd) with t1 | t1
     · rcases Bool.eq_false_or_eq_true ((eh k).q == pr) with t2 | t2
       · have HH : Hid (plI eh kd pr (k + 1) = plI eh kd pr k ++ [(k : Int)]) := plI_hit (by
           unfold hitB
           rw [t1, t2]
           rfl)
         go_wp2_with (at_builtin; refine append_oneN _ (N := wr.heap.size + 1) (by simp) rfl _ _ rfl w.heap.size u7 (plI eh kd pr k) rfl (HO.out.below (by go_grown)) k rfl (by omega) (by simp; omega) ?_; intro v' w4 o4 b4; have H4 : Hid (OwnI w4 w.heap.size v' (plI eh kd pr (k + 1))) := o4.to HH.out; clear o4)
         go_roundw
         case rel => exact ⟨k + 1, by omega, by go_num, H4.out, Below.trans (by go_grown) b4⟩
         case measure => simp [intOf]; omega
       · have HH : Hid (plI eh kd pr (k + 1) = plI eh kd pr k) := plI_not (by
           unfold hitB
           rw [t1, t2]
           rfl)
         go_wp2
         go_roundw
         case rel => exact ⟨k + 1, by omega, by go_num, (HO.out.below (by go_grown)).to HH.out, by go_grown⟩
         case measure => simp [intOf]; omega
     · have HH : Hid (plI eh kd pr (k + 1) = plI eh kd pr k) := plI_not (by
         unfold hitB
         rw [t1]
         rfl)
       go_wp2
       go_roundw
       case rel => exact ⟨k + 1, by omega, by go_num, (HO.out.below (by go_grown)).to HH.out, by go_grown⟩
       case measure => simp [intOf]; omega
   · have hkl : k = len := by omega
     have H4 : Hid (OwnI wr w.heap.size u7 (plI eh kd pr len)) := by
       have := HO.out
       rw [hkl] at this
       exact this
     clear HO hkl
     go_wp2
     go_ret
     exact ⟨_, rfl, H4.out, hbw⟩
set_option maxRecDepth 100000 in
set_option maxHeartbeats 1000000 in
theorem specCount_l (ea : Option Addr) (len cap : Nat) (eh : Nat → E3) (kd pr : Int) (w : World) (hlen : len ≤ 1048576) (hc : EvL w ea len eh) :
   Calls Tryz.prog 115 #[.slice ea len cap, .int .i64 kd, .int .i64 pr] w fun e w' => e = .returned (.int .i64 ((plN eh kd pr len).length : Nat)) ∧ Below w.heap.size w w' := by
 have HC : Hid (EvL w ea len eh) := hc
 clear hc
 go_enter Tryz.func115, Tryz.ntmps115
 go_wp2_with fail
 refine (specValues_l ea len cap eh kd pr w hlen HC.out).mono ?_
 rintro e w1 ⟨v, rfl, o1, b1⟩
 obtain ⟨a0, cp, rfl, -⟩ := o1.form
 rw [valL_length]
 go_wp2
 go_ret
 exact ⟨rfl, b1⟩
set_option maxRecDepth 100000 in
set_option maxHeartbeats 1000000 in
theorem implValues_l (ea : Option Addr) (len cap : Nat) (eh : Nat → E3) (kd pr : Int) (w : World) (hlen : len ≤ 1048576) (hc : EvL w ea len eh) :
   Calls Tryz.prog 156 #[.slice ea len cap, .int .i64 kd, .int .i64 pr] w fun e w' => ∃ v, e = .returned v ∧ OwnI w' w.heap.size v (valL eh kd pr len) ∧ Below w.heap.size w w' := by
 have hl' : (len : Int) ≤ 1048576 := by omega
 have HC : Hid (EvL w ea len eh) := hc
 clear hc
 have hpl := plI_le eh kd pr len
 go_enter Tryz.func156, Tryz.ntmps156
 go_wp2_with fail
 refine (placesOf_l ea len cap eh kd pr _ hlen (HC.out.below (by go_grown))).mono ?_
 rintro e w1 ⟨v, rfl, o1, b1⟩
 have B1 : Hid (Below w.heap.size w w1) := below_up (by go_grown) b1 (by simp)
 obtain ⟨a0, cp, rfl, -⟩ := o1.form
 have HS : Hid (OwnI w1 (w.heap.size + 1) (.slice a0 (plI eh kd pr len).length cp) (plI eh kd pr len)) := by
   rw [World.size_alloc] at o1
   exact o1
 clear o1
 go_wp2_with fail
 have HO : Hid (OwnI w1 w.heap.size (.slice (some ⟨w.heap.size, 0, none⟩) 0 0) []) := (own_empty w).below b1
 clear b1
 go_loopw [7, 16] (fun o i wr => ∃ k : Nat, k ≤ (plI eh kd pr len).length ∧ i = .int .i64 k ∧ Hid (OwnI wr w.heap.size o (valT eh kd pr len k)) ∧ Below w.heap.size w wr ∧ Hid (Away w w1 wr o)) (fun _ i _ => (plI eh kd pr len).length - (intOf i).toNat)
 case atStart => exact ⟨0, Nat.zero_le _, rfl, HO.out, B1.out, ⟨fun j hj => by simp [Value.ownBlock] at hj; exact .inl hj.symm, fun _ _ _ => rfl, Nat.le_refl _⟩⟩
 case round =>
   clear HO B1
   obtain ⟨k, hk, rfl, HO, hbw, HA⟩ := hrel
   have hs := hbw.size
   by_cases hlt : k < (plI eh kd pr len).length
   · have hlt' : (k : Int) < ((plI eh kd pr len).length : Int) := by omega
     obtain ⟨b0, o0, e0, hb0, hcell⟩ := (HA.out.sl (Nat.lt_succ_self _) HS.out).at hlt
     obtain ⟨q, hq, hql, hqe⟩ := plI_place eh kd pr len k hlt
     have hql' : (q : Int) < (len : Int) := by omega
     rw [hq] at hcell
     subst e0
     have hvl := valT_le eh kd pr len k
     have HH : Hid (valT eh kd pr len (k + 1) = valT eh kd pr len k ++ [(eh q).v]) := valT_next hqe
     obtain ⟨b, off, rfl, -, c0, c1, c2⟩ := (HC.out.below hbw).at hql
     clear hq hqe
     go_wp2_with (at_builtin; refine append_far wr rfl _ _ rfl w.heap.size u7 (valT eh kd pr len k) rfl HO.out (eh q).v rfl (by omega) hs ?_; intro v' w4 o4 g4 a4; have A4 : Hid (Away w w1 w4 v') := HA.out.step g4 a4; have b4 : Below w.heap.size wr w4 := ⟨g4.os, g4.tape, g4.output, g4.size, fun j hj => g4.block j (Nat.lt_of_lt_of_le hj hs) (fun e => Nat.not_le_of_lt hj (HO.out.lt j e.symm).1)⟩; have H4 : Hid (OwnI w4 w.heap.size v' (valT eh kd pr len (k + 1))) := o4.to HH.out; clear o4 g4 a4)
     go_roundw
     case rel => exact ⟨k + 1, by omega, by go_num, H4.out, hbw.trans b4, A4.out⟩
     case measure => simp [intOf]; omega
   · have hkl : k = (plI eh kd pr len).length := by omega
     have H4 : Hid (OwnI wr w.heap.size u7 (valL eh kd pr len)) := by
       have := HO.out
       rw [hkl, valT_all] at this
       exact this
     clear HO hkl
     go_wp2
     go_ret
     exact ⟨_, rfl, H4.out, hbw⟩
set_option maxRecDepth 100000 in
set_option maxHeartbeats 1000000 in
theorem specNumbers_l (ea : Option Addr) (len cap : Nat) (h : Nat → I2) (w : World) (hlen : len ≤ 1048576) (hc : ItL w ea len h) :
   Calls Tryz.prog 114 #[.slice ea len cap] w fun e w' => ∃ v, e = .returned v ∧ OwnI w' w.heap.size v (numL h len) ∧ Below w.heap.size w w' := by
 have hl' : (len : Int) ≤ 1048576 := by omega
 have HC : Hid (ItL w ea len h) := hc
 clear hc
 go_enter Tryz.func114, Tryz.ntmps114
 go_wp2_with fail
 go_loopw [3, 4] (fun o i wr => ∃ k : Nat, k ≤ len ∧ i = .int .i64 k ∧ Hid (OwnI wr w.heap.size o (numL h k)) ∧ Below w.heap.size w wr) (fun _ i _ => len - (intOf i).toNat)
 case atStart => exact ⟨0, Nat.zero_le _, rfl, own_empty w, (Below.refl _ _).alloc (Nat.le_refl _) _⟩
 case round =>
   obtain ⟨k, hk, rfl, HO, hbw⟩ := hrel
   have hs := hbw.size
   by_cases hlt : k < len
   · have hlt' : (k : Int) < (len : Int) := by omega
     have hvl := numL_le h k
     obtain ⟨b, off, rfl, -, c0, c1⟩ := (HC.out.below hbw).at hlt
     rcases Bool.eq_false_or_eq_true (h k).m with t1 | t1
     · have HH : Hid (numL h (k + 1) = numL h k) := numL_not t1
       rw [t1] at c0
       go_wp2
       go_roundw
       case rel => exact ⟨k + 1, by omega, by go_num, HO.out.to HH.out, hbw⟩
       case measure => simp [intOf]; omega
     · have HH : Hid (numL h (k + 1) = numL h k ++ [(h k).v]) := numL_hit t1
       rw [t1] at c0
       go_wp2_with (at_builtin; refine append_one wr rfl _ _ rfl w.heap.size u3 (numL h k) rfl HO.out (h k).v rfl (by omega) hs ?_; intro v' w4 o4 b4; have H4 : Hid (OwnI w4 w.heap.size v' (numL h (k + 1))) := o4.to HH.out; clear o4)
       go_roundw
       case rel => exact ⟨k + 1, by omega, by go_num, H4.out, hbw.trans b4⟩
       case measure => simp [intOf]; omega
   · have hkl : k = len := by omega
     have H4 : Hid (OwnI wr w.heap.size u3 (numL h len)) := by
       have := HO.out
       rw [hkl] at this
       exact this
     clear HO hkl
     go_wp2
     go_ret
     exact ⟨_, rfl, H4.out, hbw⟩
set_option maxRecDepth 100000 in
set_option maxHeartbeats 1000000 in
theorem implNumbers_l (ea : Option Addr) (len cap : Nat) (h : Nat → I2) (w : World) (hlen : len ≤ 1048576) (hc : ItL w ea len h) :
   Calls Tryz.prog 125 #[.slice ea len cap] w fun e w' => ∃ v, e = .returned v ∧ OwnI w' w.heap.size v (numL h len) ∧ Below w.heap.size w w' := by
 have hl' : (len : Int) ≤ 1048576 := by omega
 have HC : Hid (ItL w ea len h) := hc
 clear hc
 go_enter Tryz.func125, Tryz.ntmps125
 go_wp2_with fail
 go_loopw [3, 9] (fun o i wr => ∃ k : Nat, k ≤ len ∧ i = .int .i64 k ∧ Hid (OwnI wr w.heap.size o (numL h k)) ∧ Below w.heap.size w wr) (fun _ i _ => len - (intOf i).toNat)
 case atStart => exact ⟨0, Nat.zero_le _, rfl, own_empty w, (Below.refl _ _).alloc (Nat.le_refl _) _⟩
 case round =>
   obtain ⟨k, hk, rfl, HO, hbw⟩ := hrel
   have hs := hbw.size
   by_cases hlt : k < len
   · have hlt' : (k : Int) < (len : Int) := by omega
     have hvl := numL_le h k
     obtain ⟨b, off, rfl, -, c0, c1⟩ := (HC.out.below hbw).at hlt
     rcases Bool.eq_false_or_eq_true (h k).m with t1 | t1
     · have HH : Hid (numL h (k + 1) = numL h k) := numL_not t1
       rw [t1] at c0
       go_wp2
       go_roundw
       case rel => exact ⟨k + 1, by omega, by go_num, (HO.out.below (by go_grown)).to HH.out, by go_grown⟩
       case measure => simp [intOf]; omega
     · have HH : Hid (numL h (k + 1) = numL h k ++ [(h k).v]) := numL_hit t1
       rw [t1] at c0
       go_wp2_with (at_builtin; refine append_oneN _ (N := wr.heap.size + 1) (by simp) rfl _ _ rfl w.heap.size u3 (numL h k) rfl (HO.out.below (by go_grown)) (h k).v rfl (by omega) (by simp; omega) ?_; intro v' w4 o4 b4; have H4 : Hid (OwnI w4 w.heap.size v' (numL h (k + 1))) := o4.to HH.out; clear o4)
       go_roundw
       case rel => exact ⟨k + 1, by omega, by go_num, H4.out, Below.trans (by go_grown) b4⟩
       case measure => simp [intOf]; omega
   · have hkl : k = len := by omega
     have H4 : Hid (OwnI wr w.heap.size u3 (numL h len)) := by
       have := HO.out
       rw [hkl] at this
       exact this
     clear HO hkl
     go_wp2
     go_ret
     exact ⟨_, rfl, H4.out, hbw⟩
end Go.Proofs.YtihilndfhlfdfaaGreatDoor
