/- Systems of one's own held against each other. -/
import Derived.Test.YtdigofhceahpdaaGreatDoorTc0
import Derived.Test.YtdigofhceahpdaaGreatDoorTc32
import Derived.Test.YtdigofhceahpdaaGreatDoorTc30
import Derived.Test.YtdigofhceahpdaaGreatDoorTc34
namespace Go.Proofs.YtdigofhceahpdaaGreatDoor
set_option maxRecDepth 100000
set_option maxHeartbeats 2000000
open Go.ChangeShapes Go.WideShapes Go.ChangeAt Go.RowKit Go.Deep
theorem slice_form {a : Option Addr} {n c m g cap : Nat} (e : Value.slice a n c = .slice (some ⟨g, 0, none⟩) m cap) : a = some ⟨g, 0, none⟩ := by
 simp only [Value.slice.injEq] at e
 exact e.1
theorem eqInsSS_own (v1 v2 : Value) (P1 P2 : Nat → Prop) (n : Nat) (u1 u2 : Nat → Value) (L : Nat → Nat) (H : Nat → Nat → I5) (w : World) (hn : n ≤ 1048576) (hl : ∀ i, i < n → L i ≤ 1048576) (o1 : LI w P1 v1 n u1 L H) (o2 : LI w P2 v2 n u2 L H) :
  Calls Tryz.prog 11 #[v1, v2] w fun e w' => e = .returned (.bool true) ∧ Below w.heap.size w w' := by
 have hl' : (n : Int) ≤ 1048576 := by omega
 obtain ⟨a1, c1, rfl⟩ := ownsRow_slice o1.row
 obtain ⟨a2, c2, rfl⟩ := ownsRow_slice o2.row
 have O1 : Hid (LI w P1 (.slice a1 n c1) n u1 L H) := o1
 have O2 : Hid (LI w P2 (.slice a2 n c2) n u2 L H) := o2
 have HL : Hid (∀ i, i < n → L i ≤ 1048576) := hl
 clear o1 o2 hl
 go_enter Tryz.func11, Tryz.ntmps11
 go_wp2_with fail
 go_loopw [5] (fun i wr => ∃ k : Nat, k ≤ n ∧ i = .int .i64 k ∧ Below w.heap.size w wr) (fun i _ => n - (intOf i).toNat)
 case atStart => exact ⟨0, Nat.zero_le _, rfl, Below.refl _ _⟩
 case round =>
  obtain ⟨k, hk, rfl, hbw⟩ := hrel
  have hs := hbw.size
  by_cases hlt : k < n
  ·have Q1 := O1.out.below hbw
   have Q2 := O2.out.below hbw
   obtain ⟨g1, k1, e1, -, -, ck, -⟩ := Q1.cell hlt
   obtain ⟨g2, k2, e2, -, -, dk, -⟩ := Q2.cell hlt
   obtain rfl := slice_form e1
   obtain rfl := slice_form e2
   obtain ⟨b1, m1, f1, l1, i1, -⟩ := atI (Q1.own k hlt) (Q1.nn k hlt)
   obtain ⟨b2, m2, f2, l2, i2, -⟩ := atI (Q2.own k hlt) (Q2.nn k hlt)
   rw [f1] at ck
   rw [f2] at dk
   have I1 : Hid (InsAt wr b1 0 (L k) (H k) ∧ b1 < wr.heap.size) := ⟨i1, l1⟩
   have I2 : Hid (InsAt wr b2 0 (L k) (H k) ∧ b2 < wr.heap.size) := ⟨i2, l2⟩
   have hlt' : (k : Int) < (n : Int) := by omega
   clear Q1 Q2 e1 e2 f1 f2 i1 i2 l1 l2
   go_wp2_with fail
   first | (go_region_with (go_at_call 32; refine (eqInsS_same b1 b2 (L k) m1 m2 (H k) wr.drew (HL.out k hlt) I1.out.2 I2.out.2 I1.out.1 I2.out.1).mono ?_; rintro e w1 ⟨rfl, hq1⟩)) | fail
   all_goals
    go_wp2
    go_roundw
    case rel => exact ⟨k + 1, by omega, by go_num, hbw.drew.trans (hq1.mono hs)⟩
    case measure => simp [intOf]; omega
  ·go_wp2
   go_ret
   exact ⟨rfl, hbw⟩
theorem eqItemSS_own (v1 v2 : Value) (P1 P2 : Nat → Prop) (n : Nat) (u1 u2 : Nat → Value) (L : Nat → Nat) (H : Nat → Nat → I2) (w : World) (hn : n ≤ 1048576) (hl : ∀ i, i < n → L i ≤ 1048576) (o1 : LT w P1 v1 n u1 L H) (o2 : LT w P2 v2 n u2 L H) :
  Calls Tryz.prog 30 #[v1, v2] w fun e w' => e = .returned (.bool true) ∧ Below w.heap.size w w' := by
 have hl' : (n : Int) ≤ 1048576 := by omega
 obtain ⟨a1, c1, rfl⟩ := ownsRow_slice o1.row
 obtain ⟨a2, c2, rfl⟩ := ownsRow_slice o2.row
 have O1 : Hid (LT w P1 (.slice a1 n c1) n u1 L H) := o1
 have O2 : Hid (LT w P2 (.slice a2 n c2) n u2 L H) := o2
 have HL : Hid (∀ i, i < n → L i ≤ 1048576) := hl
 clear o1 o2 hl
 go_enter Tryz.func30, Tryz.ntmps30
 go_wp2_with fail
 go_loopw [5] (fun i wr => ∃ k : Nat, k ≤ n ∧ i = .int .i64 k ∧ Below w.heap.size w wr) (fun i _ => n - (intOf i).toNat)
 case atStart => exact ⟨0, Nat.zero_le _, rfl, Below.refl _ _⟩
 case round =>
  obtain ⟨k, hk, rfl, hbw⟩ := hrel
  have hs := hbw.size
  by_cases hlt : k < n
  ·have Q1 := O1.out.below hbw
   have Q2 := O2.out.below hbw
   obtain ⟨g1, k1, e1, -, -, ck, -⟩ := Q1.cell hlt
   obtain ⟨g2, k2, e2, -, -, dk, -⟩ := Q2.cell hlt
   obtain rfl := slice_form e1
   obtain rfl := slice_form e2
   obtain ⟨b1, m1, f1, l1, i1, -⟩ := atT (Q1.own k hlt) (Q1.nn k hlt)
   obtain ⟨b2, m2, f2, l2, i2, -⟩ := atT (Q2.own k hlt) (Q2.nn k hlt)
   rw [f1] at ck
   rw [f2] at dk
   have I1 : Hid (ItAt wr b1 0 (L k) (H k) ∧ b1 < wr.heap.size) := ⟨i1, l1⟩
   have I2 : Hid (ItAt wr b2 0 (L k) (H k) ∧ b2 < wr.heap.size) := ⟨i2, l2⟩
   have hlt' : (k : Int) < (n : Int) := by omega
   clear Q1 Q2 e1 e2 f1 f2 i1 i2 l1 l2
   go_wp2_with fail
   first | (go_region_with (go_at_call 72; refine (eqItemS_same b1 b2 (L k) m1 m2 (H k) wr.drew (HL.out k hlt) I1.out.2 I2.out.2 I1.out.1 I2.out.1).mono ?_; rintro e w1 ⟨rfl, hq1⟩)) | fail
   all_goals
    go_wp2
    go_roundw
    case rel => exact ⟨k + 1, by omega, by go_num, hbw.drew.trans (hq1.mono hs)⟩
    case measure => simp [intOf]; omega
  ·go_wp2
   go_ret
   exact ⟨rfl, hbw⟩
theorem eqEventSS_own (v1 v2 : Value) (P1 P2 : Nat → Prop) (n : Nat) (u1 u2 : Nat → Value) (L : Nat → Nat) (H : Nat → Nat → E3) (w : World) (hn : n ≤ 1048576) (hl : ∀ i, i < n → L i ≤ 1048576) (o1 : LE w P1 v1 n u1 L H) (o2 : LE w P2 v2 n u2 L H) :
  Calls Tryz.prog 31 #[v1, v2] w fun e w' => e = .returned (.bool true) ∧ Below w.heap.size w w' := by
 have hl' : (n : Int) ≤ 1048576 := by omega
 obtain ⟨a1, c1, rfl⟩ := ownsRow_slice o1.row
 obtain ⟨a2, c2, rfl⟩ := ownsRow_slice o2.row
 have O1 : Hid (LE w P1 (.slice a1 n c1) n u1 L H) := o1
 have O2 : Hid (LE w P2 (.slice a2 n c2) n u2 L H) := o2
 have HL : Hid (∀ i, i < n → L i ≤ 1048576) := hl
 clear o1 o2 hl
 go_enter Tryz.func31, Tryz.ntmps31
 go_wp2_with fail
 go_loopw [5] (fun i wr => ∃ k : Nat, k ≤ n ∧ i = .int .i64 k ∧ Below w.heap.size w wr) (fun i _ => n - (intOf i).toNat)
 case atStart => exact ⟨0, Nat.zero_le _, rfl, Below.refl _ _⟩
 case round =>
  obtain ⟨k, hk, rfl, hbw⟩ := hrel
  have hs := hbw.size
  by_cases hlt : k < n
  ·have Q1 := O1.out.below hbw
   have Q2 := O2.out.below hbw
   obtain ⟨g1, k1, e1, -, -, ck, -⟩ := Q1.cell hlt
   obtain ⟨g2, k2, e2, -, -, dk, -⟩ := Q2.cell hlt
   obtain rfl := slice_form e1
   obtain rfl := slice_form e2
   obtain ⟨b1, m1, f1, l1, i1, -⟩ := atE (Q1.own k hlt) (Q1.nn k hlt)
   obtain ⟨b2, m2, f2, l2, i2, -⟩ := atE (Q2.own k hlt) (Q2.nn k hlt)
   rw [f1] at ck
   rw [f2] at dk
   have I1 : Hid (EvAt wr b1 0 (L k) (H k) ∧ b1 < wr.heap.size) := ⟨i1, l1⟩
   have I2 : Hid (EvAt wr b2 0 (L k) (H k) ∧ b2 < wr.heap.size) := ⟨i2, l2⟩
   have hlt' : (k : Int) < (n : Int) := by omega
   clear Q1 Q2 e1 e2 f1 f2 i1 i2 l1 l2
   go_wp2_with fail
   first | (go_region_with (go_at_call 73; refine (eqEventS_same b1 b2 (L k) m1 m2 (H k) wr.drew (HL.out k hlt) I1.out.2 I2.out.2 I1.out.1 I2.out.1).mono ?_; rintro e w1 ⟨rfl, hq1⟩)) | fail
   all_goals
    go_wp2
    go_roundw
    case rel => exact ⟨k + 1, by omega, by go_num, hbw.drew.trans (hq1.mono hs)⟩
    case measure => simp [intOf]; omega
  ·go_wp2
   go_ret
   exact ⟨rfl, hbw⟩
theorem eqStateS_own (v1 v2 : Value) (P1 P2 : Nat → Prop) (n : Nat) (u1 u2 : Nat → Value) (S : Nat → S4) (w : World) (hn : n ≤ 1048576) (hl : ∀ i, i < n → (S i).rs.length ≤ 1048576 ∧ (S i).os.length ≤ 1048576) (o1 : LS w P1 v1 n u1 S) (o2 : LS w P2 v2 n u2 S) :
  Calls Tryz.prog 29 #[v1, v2] w fun e w' => e = .returned (.bool true) ∧ Below w.heap.size w w' := by
 have hl' : (n : Int) ≤ 1048576 := by omega
 obtain ⟨a1, c1, rfl⟩ := ownsRow_slice o1.row
 obtain ⟨a2, c2, rfl⟩ := ownsRow_slice o2.row
 have O1 : Hid (LS w P1 (.slice a1 n c1) n u1 S) := o1
 have O2 : Hid (LS w P2 (.slice a2 n c2) n u2 S) := o2
 have HL : Hid (∀ i, i < n → (S i).rs.length ≤ 1048576 ∧ (S i).os.length ≤ 1048576) := hl
 clear o1 o2 hl
 go_enter Tryz.func29, Tryz.ntmps29
 go_wp2_with fail
 go_loopw [5] (fun i wr => ∃ k : Nat, k ≤ n ∧ i = .int .i64 k ∧ Below w.heap.size w wr) (fun i _ => n - (intOf i).toNat)
 case atStart => exact ⟨0, Nat.zero_le _, rfl, Below.refl _ _⟩
 case round =>
  obtain ⟨k, hk, rfl, hbw⟩ := hrel
  have hs := hbw.size
  by_cases hlt : k < n
  ·have Q1 := O1.out.below hbw
   have Q2 := O2.out.below hbw
   obtain ⟨g1, k1, e1, -, -, ⟨ra, rc, oa, oc, f1, x0, x1, x2, x3⟩, -⟩ := Q1.cell hlt
   obtain ⟨g2, k2, e2, -, -, ⟨ra', rc', oa', oc', f2, y0, y1, y2, y3⟩, -⟩ := Q2.cell hlt
   obtain rfl := slice_form e1
   obtain rfl := slice_form e2
   have hsl1 : Sl wr ra (S k).rs ∧ Sl wr oa (S k).os := by
    have h4 := Q1.own k hlt
    rw [f1] at h4
    exact ⟨h4.parts.1.slOf, h4.parts.2.1.slOf⟩
   have hsl2 : Sl wr ra' (S k).rs ∧ Sl wr oa' (S k).os := by
    have h4 := Q2.own k hlt
    rw [f2] at h4
    exact ⟨h4.parts.1.slOf, h4.parts.2.1.slOf⟩
   have H1 : Hid (Sl wr ra (S k).rs ∧ Sl wr oa (S k).os) := hsl1
   have H2 : Hid (Sl wr ra' (S k).rs ∧ Sl wr oa' (S k).os) := hsl2
   have hlt' : (k : Int) < (n : Int) := by omega
   clear hsl1 hsl2 e1 e2 f1 f2 Q1 Q2
   go_wp2_with fail
   first | (go_region_with (go_at_call 71; refine (eqState_same _ _ ra oa ra' oa' rc oc rc' oc' (S k).rs (S k).os wr.drew (HL.out k hlt).1 (HL.out k hlt).2 H1.out.1 H1.out.2 H2.out.1 H2.out.2).mono ?_; rintro e w1 ⟨rfl, hq1⟩)) | fail
   all_goals
    go_wp2
    go_roundw
    case rel => exact ⟨k + 1, by omega, by go_num, hbw.drew.trans (hq1.mono hs)⟩
    case measure => simp [intOf]; omega
  ·go_wp2
   go_ret
   exact ⟨rfl, hbw⟩
structure Sy.Len (y : Sy) : Prop where
 p : y.pn ≤ 1048576 ∧ ∀ i, i < y.pn → y.pL i ≤ 1048576
 s : y.sn ≤ 1048576 ∧ ∀ i, i < y.sn → (y.sS i).rs.length ≤ 1048576 ∧ (y.sS i).os.length ≤ 1048576
 w : y.wn ≤ 1048576 ∧ ∀ i, i < y.wn → y.wL i ≤ 1048576
 h : y.hn ≤ 1048576 ∧ ∀ i, i < y.hn → y.hL i ≤ 1048576
theorem eqSys_own (y : Sy) (B1 B2 : Nat) (v1 v2 : Value) (w : World) (hl : y.Len) (o1 : OwnSys w B1 y v1) (o2 : OwnSys w B2 y v2) :
  Calls Tryz.prog 10 #[v1, v2] w fun e w' => e = .returned (.bool true) ∧ Below w.heap.size w w' := by
 obtain ⟨c, vp, vs, vw, vh, up, us, uw, uh, rfl, o1⟩ := o1
 obtain ⟨d, xp, xs, xw, xh, tp, ts, tw, th, rfl, o2⟩ := o2
 obtain ⟨a1, c1, rfl⟩ := ownsRow_slice o1.p.row
 obtain ⟨a2, c2, rfl⟩ := ownsRow_slice o1.s.row
 obtain ⟨a3, c3, rfl⟩ := ownsRow_slice o1.t.row
 obtain ⟨a4, c4, rfl⟩ := ownsRow_slice o1.h.row
 obtain ⟨e1, d1, rfl⟩ := ownsRow_slice o2.p.row
 obtain ⟨e2, d2, rfl⟩ := ownsRow_slice o2.s.row
 obtain ⟨e3, d3, rfl⟩ := ownsRow_slice o2.t.row
 obtain ⟨e4, d4, rfl⟩ := ownsRow_slice o2.h.row
 have HL : Hid y.Len := hl
 have O1 : Hid (OwnS w B1 c y (.slice a1 y.pn c1) (.slice a2 y.sn c2) (.slice a3 y.wn c3) (.slice a4 y.hn c4) up us uw uh) := o1
 have O2 : Hid (OwnS w B2 d y (.slice e1 y.pn d1) (.slice e2 y.sn d2) (.slice e3 y.wn d3) (.slice e4 y.hn d4) tp ts tw th) := o2
 have BW : Hid (Below w.heap.size w ((w.alloc (oQ4 a1 y.pn c1 a2 y.sn c2 a3 y.wn c3 a4 y.hn c4)).alloc (oQ4 e1 y.pn d1 e2 y.sn d2 e3 y.wn d3 e4 y.hn d4))) := (below_allocL _ _).trans ((below_allocL _ _).mono (by simp))
 have NA : Hid (BoxC ((w.alloc (oQ4 a1 y.pn c1 a2 y.sn c2 a3 y.wn c3 a4 y.hn c4)).alloc (oQ4 e1 y.pn d1 e2 y.sn d2 e3 y.wn d3 e4 y.hn d4)) w.heap.size (.slice a1 y.pn c1) (.slice a2 y.sn c2) (.slice a3 y.wn c3) (.slice a4 y.hn c4)) := (BoxC.new w _ _ _ _ _).below (below_allocL _ _)
 have NB : Hid (BoxC ((w.alloc (oQ4 a1 y.pn c1 a2 y.sn c2 a3 y.wn c3 a4 y.hn c4)).alloc (oQ4 e1 y.pn d1 e2 y.sn d2 e3 y.wn d3 e4 y.hn d4)) (w.heap.size + 1) (.slice e1 y.pn d1) (.slice e2 y.sn d2) (.slice e3 y.wn d3) (.slice e4 y.hn d4)) := ⟨new_cell _ _ _ 0 (by simp), new_cell _ _ _ 1 (by simp), new_cell _ _ _ 2 (by simp), new_cell _ _ _ 3 (by simp)⟩
 clear o1 o2 hl
 go_enter Tryz.func10, Tryz.ntmps10
 go_wp2_with fail
 generalize (w.alloc (oQ4 a1 y.pn c1 a2 y.sn c2 a3 y.wn c3 a4 y.hn c4)).alloc (oQ4 e1 y.pn d1 e2 y.sn d2 e3 y.wn d3 e4 y.hn d4) = wA at *
 refine (eqInsSS_own _ _ _ _ y.pn up tp y.pL y.pH wA HL.out.p.1 HL.out.p.2 (O1.out.p.below BW.out) (O2.out.p.below BW.out)).mono ?_
 rintro e w1 ⟨rfl, b1⟩
 have F1 : Hid (Below w.heap.size w w1 ∧ BoxC w1 w.heap.size (.slice a1 y.pn c1) (.slice a2 y.sn c2) (.slice a3 y.wn c3) (.slice a4 y.hn c4) ∧ BoxC w1 (w.heap.size + 1) (.slice e1 y.pn d1) (.slice e2 y.sn d2) (.slice e3 y.wn d3) (.slice e4 y.hn d4)) := ⟨BW.out.trans (b1.mono BW.out.size), NA.out.below b1, NB.out.below b1⟩
 clear b1 BW NA NB
 obtain ⟨-, ⟨p0, p1, p2, p3⟩, ⟨q0, q1, q2, q3⟩⟩ := F1.out
 go_wp2_with fail
 clear p0 p1 p2 p3 q0 q1 q2 q3
 refine (eqStateS_own _ _ _ _ y.sn us ts y.sS w1 HL.out.s.1 HL.out.s.2 (O1.out.s.below F1.out.1) (O2.out.s.below F1.out.1)).mono ?_
 rintro e w2 ⟨rfl, b2⟩
 have F2 : Hid (Below w.heap.size w w2 ∧ BoxC w2 w.heap.size (.slice a1 y.pn c1) (.slice a2 y.sn c2) (.slice a3 y.wn c3) (.slice a4 y.hn c4) ∧ BoxC w2 (w.heap.size + 1) (.slice e1 y.pn d1) (.slice e2 y.sn d2) (.slice e3 y.wn d3) (.slice e4 y.hn d4)) := ⟨F1.out.1.trans (b2.mono F1.out.1.size), F1.out.2.1.below b2, F1.out.2.2.below b2⟩
 clear b2 F1
 obtain ⟨-, ⟨p0, p1, p2, p3⟩, ⟨q0, q1, q2, q3⟩⟩ := F2.out
 go_wp2_with fail
 clear p0 p1 p2 p3 q0 q1 q2 q3
 refine (eqItemSS_own _ _ _ _ y.wn uw tw y.wL y.wH w2 HL.out.w.1 HL.out.w.2 (O1.out.t.below F2.out.1) (O2.out.t.below F2.out.1)).mono ?_
 rintro e w3 ⟨rfl, b3⟩
 have F3 : Hid (Below w.heap.size w w3 ∧ BoxC w3 w.heap.size (.slice a1 y.pn c1) (.slice a2 y.sn c2) (.slice a3 y.wn c3) (.slice a4 y.hn c4) ∧ BoxC w3 (w.heap.size + 1) (.slice e1 y.pn d1) (.slice e2 y.sn d2) (.slice e3 y.wn d3) (.slice e4 y.hn d4)) := ⟨F2.out.1.trans (b3.mono F2.out.1.size), F2.out.2.1.below b3, F2.out.2.2.below b3⟩
 clear b3 F2
 obtain ⟨-, ⟨p0, p1, p2, p3⟩, ⟨q0, q1, q2, q3⟩⟩ := F3.out
 go_wp2_with fail
 clear p0 p1 p2 p3 q0 q1 q2 q3
 refine (eqEventSS_own _ _ _ _ y.hn uh th y.hL y.hH w3 HL.out.h.1 HL.out.h.2 (O1.out.h.below F3.out.1) (O2.out.h.below F3.out.1)).mono ?_
 rintro e w4 ⟨rfl, b4⟩
 have F4 : Hid (Below w.heap.size w w4) := F3.out.1.trans (b4.mono F3.out.1.size)
 clear b4 F3
 go_wp2
 go_ret
 exact ⟨rfl, F4.out⟩
end Go.Proofs.YtdigofhceahpdaaGreatDoor
