/- Systems of one's own held against each other. -/
import Derived.Test.YtdigofhceahpdaaGreatDoorNc0
import Derived.Test.YtdigofhceahpdaaGreatDoorNc32
import Derived.Test.YtdigofhceahpdaaGreatDoorNc26
import Derived.Test.YtdigofhceahpdaaGreatDoorNc28
namespace Go.Proofs.YtdigofhceahpdaaGreatDoor
set_option maxRecDepth 100000
set_option maxHeartbeats 1000000
open Go.ChangeShapes Go.WideShapes Go.ChangeAt Go.RowKit Go.Deep
theorem slice_form {a : Option Addr} {n c m g cap : Nat} (e : Value.slice a n c = .slice (some ⟨g, 0, none⟩) m cap) : a = some ⟨g, 0, none⟩ := by
 simp only [Value.slice.injEq] at e
 exact e.1
theorem eqInsSS_own (v1 v2 : Value) (P1 P2 : Nat → Prop) (n : Nat) (u1 u2 : Nat → Value) (L : Nat → Nat) (H : Nat → Nat → I5) (w : World) (hn : n ≤ 1048576) (hl : ∀ i, i < n → L i ≤ 1048576) (o1 : LI w P1 v1 n u1 L H) (o2 : LI w P2 v2 n u2 L H) :
  Calls Tryz.prog 11 #[v1, v2] w fun e w' => e = .returned (.bool true) ∧ Below w.heap.size w w' := by
 have hl' : (n : Int) ≤ 1048576 := by omega
 obtain ⟨a1, c1, rfl⟩ := ownsRow_slice o1.row
 obtain ⟨a2, c2, rfl⟩ := ownsRow_slice o2.row
 have O1 : Hid (LI w P1 (.slice a1 n c1) n u1 L H) := o1
 have O2 : Hid (LI w P2 (.slice a2 n c2) n u2 L H) := o2
 have HL : Hid (∀ i, i < n → L i ≤ 1048576) := hl
 clear o1 o2 hl
 go_enter Tryz.func11, Tryz.ntmps11
 go_wp2_with fail
 go_loopw [5] (fun i wr => ∃ k : Nat, k ≤ n ∧ i = .int .i64 k ∧ Below w.heap.size w wr) (fun i _ => n - (intOf i).toNat)
 case atStart => exact ⟨0, Nat.zero_le _, rfl, Below.refl _ _⟩
 case round =>
  obtain ⟨k, hk, rfl, hbw⟩ := hrel
  have hs := hbw.size
  by_cases hlt : k < n
  ·have Q1 := O1.out.below hbw
   have Q2 := O2.out.below hbw
   obtain ⟨g1, k1, e1, -, -, ck, -⟩ := Q1.cell hlt
   obtain ⟨g2, k2, e2, -, -, dk, -⟩ := Q2.cell hlt
   obtain rfl := slice_form e1
   obtain rfl := slice_form e2
   obtain ⟨b1, m1, f1, l1, i1, -⟩ := atI (Q1.own k hlt) (Q1.nn k hlt)
   obtain ⟨b2, m2, f2, l2, i2, -⟩ := atI (Q2.own k hlt) (Q2.nn k hlt)
   rw [f1] at ck
   rw [f2] at dk
   have I1 : Hid (InsAt wr b1 0 (L k) (H k) ∧ b1 < wr.heap.size) := ⟨i1, l1⟩
   have I2 : Hid (InsAt wr b2 0 (L k) (H k) ∧ b2 < wr.heap.size) := ⟨i2, l2⟩
   have hlt' : (k : Int) < (n : Int) := by omega
   clear Q1 Q2 e1 e2 f1 f2 i1 i2 l1 l2
   go_wp2_with fail
   first | (go_region_with (go_at_call 32; refine (eqInsS_same b1 b2 (L k) m1 m2 (H k) wr.drew (HL.out k hlt) I1.out.2 I2.out.2 I1.out.1 I2.out.1).mono ?_; rintro e w1 ⟨rfl, hq1⟩)) | fail
   all_goals
    go_wp2
    go_roundw
    case rel => exact ⟨k + 1, by omega, by go_num, hbw.drew.trans (hq1.mono hs)⟩
    case measure => simp [intOf]; omega
  ·go_wp2
   go_ret
   exact ⟨rfl, hbw⟩
theorem eqStateS_own (v1 v2 : Value) (P1 P2 : Nat → Prop) (n : Nat) (u1 u2 : Nat → Value) (S : Nat → S4) (w : World) (hn : n ≤ 1048576) (hl : ∀ i, i < n → (S i).rs.length ≤ 1048576 ∧ (S i).os.length ≤ 1048576) (o1 : LS w P1 v1 n u1 S) (o2 : LS w P2 v2 n u2 S) :
  Calls Tryz.prog 29 #[v1, v2] w fun e w' => e = .returned (.bool true) ∧ Below w.heap.size w w' := by
 have hl' : (n : Int) ≤ 1048576 := by omega
 obtain ⟨a1, c1, rfl⟩ := ownsRow_slice o1.row
 obtain ⟨a2, c2, rfl⟩ := ownsRow_slice o2.row
 have O1 : Hid (LS w P1 (.slice a1 n c1) n u1 S) := o1
 have O2 : Hid (LS w P2 (.slice a2 n c2) n u2 S) := o2
 have HL : Hid (∀ i, i < n → (S i).rs.length ≤ 1048576 ∧ (S i).os.length ≤ 1048576) := hl
 clear o1 o2 hl
 go_enter Tryz.func29, Tryz.ntmps29
 go_wp2_with fail
 go_loopw [5] (fun i wr => ∃ k : Nat, k ≤ n ∧ i = .int .i64 k ∧ Below w.heap.size w wr) (fun i _ => n - (intOf i).toNat)
 case atStart => exact ⟨0, Nat.zero_le _, rfl, Below.refl _ _⟩
 case round =>
  obtain ⟨k, hk, rfl, hbw⟩ := hrel
  have hs := hbw.size
  by_cases hlt : k < n
  ·have Q1 := O1.out.below hbw
   have Q2 := O2.out.below hbw
   obtain ⟨g1, k1, e1, -, -, ⟨ra, rc, oa, oc, f1, x0, x1, x2, x3⟩, -⟩ := Q1.cell hlt
   obtain ⟨g2, k2, e2, -, -, ⟨ra', rc', oa', oc', f2, y0, y1, y2, y3⟩, -⟩ := Q2.cell hlt
   obtain rfl := slice_form e1
   obtain rfl := slice_form e2
   have hsl1 : Sl wr ra (S k).rs ∧ Sl wr oa (S k).os := by
    have h4 := Q1.own k hlt
    rw [f1] at h4
    exact ⟨h4.parts.1.slOf, h4.parts.2.1.slOf⟩
   have hsl2 : Sl wr ra' (S k).rs ∧ Sl wr oa' (S k).os := by
    have h4 := Q2.own k hlt
    rw [f2] at h4
    exact ⟨h4.parts.1.slOf, h4.parts.2.1.slOf⟩
   have H1 : Hid (Sl wr ra (S k).rs ∧ Sl wr oa (S k).os) := hsl1
   have H2 : Hid (Sl wr ra' (S k).rs ∧ Sl wr oa' (S k).os) := hsl2
   have hlt' : (k : Int) < (n : Int) := by omega
   clear hsl1 hsl2 e1 e2 f1 f2 Q1 Q2
   go_wp2_with fail
   first | (go_region_with (go_at_call 71; refine (eqState_same _ _ ra oa ra' oa' rc oc rc' oc' (S k).rs (S k).os wr.drew (HL.out k hlt).1 (HL.out k hlt).2 H1.out.1 H1.out.2 H2.out.1 H2.out.2).mono ?_; rintro e w1 ⟨rfl, hq1⟩)) | fail
   all_goals
    go_wp2
    go_roundw
    case rel => exact ⟨k + 1, by omega, by go_num, hbw.drew.trans (hq1.mono hs)⟩
    case measure => simp [intOf]; omega
  ·go_wp2
   go_ret
   exact ⟨rfl, hbw⟩
structure Sy.Len (y : Sy) : Prop where
 p : y.pn ≤ 1048576 ∧ ∀ i, i < y.pn → y.pL i ≤ 1048576
 s : y.sn ≤ 1048576 ∧ ∀ i, i < y.sn → (y.sS i).rs.length ≤ 1048576 ∧ (y.sS i).os.length ≤ 1048576
 w : y.wn ≤ 1048576 ∧ ∀ i, i < y.wn → y.wL i ≤ 1048576
 h : y.hn ≤ 1048576 ∧ ∀ i, i < y.hn → y.hL i ≤ 1048576
end Go.Proofs.YtdigofhceahpdaaGreatDoor
