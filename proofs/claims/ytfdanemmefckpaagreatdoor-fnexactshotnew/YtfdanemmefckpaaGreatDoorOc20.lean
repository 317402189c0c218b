/- Lists of lists of which some may be nil. -/
import Derived.Test.YtfdanemmefckpaaGreatDoorOc0
import Derived.Test.YtfdanemmefckpaaGreatDoorOc18
import Derived.Test.YtfdanemmefckpaaGreatDoorOc11
import Derived.Test.YtfdanemmefckpaaGreatDoorOc19
namespace Go.Proofs.YtfdanemmefckpaaGreatDoor
set_option maxRecDepth 100000
set_option maxHeartbeats 2000000
open Go.ChangeShapes Go.WideShapes Go.ChangeAt Go.RowKit Go.Deep
theorem slice_form {a : Option Addr} {n c m g cap : Nat} (e : Value.slice a n c = .slice (some ⟨g, 0, none⟩) m cap) : a = some ⟨g, 0, none⟩ := by
 simp only [Value.slice.injEq] at e
 exact e.1
theorem eqInsSS_own (v1 v2 : Value) (P1 P2 : Nat → Prop) (n : Nat) (u1 u2 : Nat → Value) (L : Nat → Nat) (H : Nat → Nat → I5) (w : World) (hn : n ≤ 1048576) (hl : ∀ i, i < n → L i ≤ 1048576) (o1 : LI true w P1 v1 n u1 L H) (o2 : LI true w P2 v2 n u2 L H) :
  Calls Tryz.prog 38 #[v1, v2] w fun e w' => e = .returned (.bool true) ∧ Below w.heap.size w w' := by
 have hl' : (n : Int) ≤ 1048576 := by omega
 obtain ⟨a1, c1, rfl⟩ := ownsRow_slice o1.row
 obtain ⟨a2, c2, rfl⟩ := ownsRow_slice o2.row
 have O1 : Hid (LI true w P1 (.slice a1 n c1) n u1 L H) := o1
 have O2 : Hid (LI true w P2 (.slice a2 n c2) n u2 L H) := o2
 have HL : Hid (∀ i, i < n → L i ≤ 1048576) := hl
 clear o1 o2 hl
 go_enter Tryz.func38, Tryz.ntmps38
 go_wp2_with fail
 go_loopw [5] (fun i wr => ∃ k : Nat, k ≤ n ∧ i = .int .i64 k ∧ Below w.heap.size w wr) (fun i _ => n - (intOf i).toNat)
 case atStart => exact ⟨0, Nat.zero_le _, rfl, Below.refl _ _⟩
 case round =>
  obtain ⟨k, hk, rfl, hbw⟩ := hrel
  have hs := hbw.size
  by_cases hlt : k < n
  ·have Q1 := O1.out.below hbw
   have Q2 := O2.out.below hbw
   obtain ⟨g1, k1, e1, -, -, ck, -⟩ := Q1.cell hlt
   obtain ⟨g2, k2, e2, -, -, dk, -⟩ := Q2.cell hlt
   obtain rfl := slice_form e1
   obtain rfl := slice_form e2
   obtain ⟨b1, m1, f1, l1, i1, -⟩ := atI (Q1.own k hlt) (Q1.nn (nzT _) k hlt)
   obtain ⟨b2, m2, f2, l2, i2, -⟩ := atI (Q2.own k hlt) (Q2.nn (nzT _) k hlt)
   rw [f1] at ck
   rw [f2] at dk
   have I1 : Hid (InsAt wr b1 0 (L k) (H k) ∧ b1 < wr.heap.size) := ⟨i1, l1⟩
   have I2 : Hid (InsAt wr b2 0 (L k) (H k) ∧ b2 < wr.heap.size) := ⟨i2, l2⟩
   have hlt' : (k : Int) < (n : Int) := by omega
   clear Q1 Q2 e1 e2 f1 f2 i1 i2 l1 l2
   go_wp2_with fail
   first | (go_region_with (go_at_call 102; refine (eqInsS_same b1 b2 (L k) m1 m2 (H k) wr.drew (HL.out k hlt) I1.out.2 I2.out.2 I1.out.1 I2.out.1).mono ?_; rintro e w1 ⟨rfl, hq1⟩)) | fail
   all_goals
    go_wp2
    go_roundw
    case rel => exact ⟨k + 1, by omega, by go_num, hbw.drew.trans (hq1.mono hs)⟩
    case measure => simp [intOf]; omega
  ·go_wp2
   go_ret
   exact ⟨rfl, hbw⟩
theorem eqStateS_own (v1 v2 : Value) (P1 P2 : Nat → Prop) (n : Nat) (u1 u2 : Nat → Value) (S : Nat → S4) (w : World) (hn : n ≤ 1048576) (hl : ∀ i, i < n → (S i).rs.length ≤ 1048576 ∧ (S i).os.length ≤ 1048576) (o1 : LS w P1 v1 n u1 S) (o2 : LS w P2 v2 n u2 S) :
  Calls Tryz.prog 39 #[v1, v2] w fun e w' => e = .returned (.bool true) ∧ Below w.heap.size w w' := by
 have hl' : (n : Int) ≤ 1048576 := by omega
 obtain ⟨a1, c1, rfl⟩ := ownsRow_slice o1.row
 obtain ⟨a2, c2, rfl⟩ := ownsRow_slice o2.row
 have O1 : Hid (LS w P1 (.slice a1 n c1) n u1 S) := o1
 have O2 : Hid (LS w P2 (.slice a2 n c2) n u2 S) := o2
 have HL : Hid (∀ i, i < n → (S i).rs.length ≤ 1048576 ∧ (S i).os.length ≤ 1048576) := hl
 clear o1 o2 hl
 go_enter Tryz.func39, Tryz.ntmps39
 go_wp2_with fail
 go_loopw [5] (fun i wr => ∃ k : Nat, k ≤ n ∧ i = .int .i64 k ∧ Below w.heap.size w wr) (fun i _ => n - (intOf i).toNat)
 case atStart => exact ⟨0, Nat.zero_le _, rfl, Below.refl _ _⟩
 case round =>
  obtain ⟨k, hk, rfl, hbw⟩ := hrel
  have hs := hbw.size
  by_cases hlt : k < n
  ·have Q1 := O1.out.below hbw
   have Q2 := O2.out.below hbw
   obtain ⟨g1, k1, e1, -, -, ⟨ra, rc, oa, oc, f1, x0, x1, x2, x3⟩, -⟩ := Q1.cell hlt
   obtain ⟨g2, k2, e2, -, -, ⟨ra', rc', oa', oc', f2, y0, y1, y2, y3⟩, -⟩ := Q2.cell hlt
   obtain rfl := slice_form e1
   obtain rfl := slice_form e2
   have hsl1 : Sl wr ra (S k).rs ∧ Sl wr oa (S k).os := by
    have h4 := Q1.own k hlt
    rw [f1] at h4
    exact ⟨h4.parts.1.slOf, h4.parts.2.1.slOf⟩
   have hsl2 : Sl wr ra' (S k).rs ∧ Sl wr oa' (S k).os := by
    have h4 := Q2.own k hlt
    rw [f2] at h4
    exact ⟨h4.parts.1.slOf, h4.parts.2.1.slOf⟩
   have H1 : Hid (Sl wr ra (S k).rs ∧ Sl wr oa (S k).os) := hsl1
   have H2 : Hid (Sl wr ra' (S k).rs ∧ Sl wr oa' (S k).os) := hsl2
   have hlt' : (k : Int) < (n : Int) := by omega
   clear hsl1 hsl2 e1 e2 f1 f2 Q1 Q2
   go_wp2_with fail
   first | (go_region_with (go_at_call 103; refine (eqState_same _ _ ra oa ra' oa' rc oc rc' oc' (S k).rs (S k).os wr.drew (HL.out k hlt).1 (HL.out k hlt).2 H1.out.1 H1.out.2 H2.out.1 H2.out.2).mono ?_; rintro e w1 ⟨rfl, hq1⟩)) | fail
   all_goals
    go_wp2
    go_roundw
    case rel => exact ⟨k + 1, by omega, by go_num, hbw.drew.trans (hq1.mono hs)⟩
    case measure => simp [intOf]; omega
  ·go_wp2
   go_ret
   exact ⟨rfl, hbw⟩
structure Sy.Len (y : Sy) : Prop where
 p : y.pn ≤ 1048576 ∧ ∀ i, i < y.pn → y.pL i ≤ 1048576
 s : y.sn ≤ 1048576 ∧ ∀ i, i < y.sn → (y.sS i).rs.length ≤ 1048576 ∧ (y.sS i).os.length ≤ 1048576
 w : y.wn ≤ 1048576 ∧ ∀ i, i < y.wn → y.wL i ≤ 1048576
 h : y.hn ≤ 1048576 ∧ ∀ i, i < y.hn → y.hL i ≤ 1048576
def mkI (k : Int) (i : Nat) : I5 := ⟨k + 5 * i, k + 5 * i + 1, k + 5 * i + 1 + 1, k + 5 * i + 1 + 1 + 1, k + 5 * i + 1 + 1 + 1 + 1⟩
def mkT (k : Int) (i : Nat) : I2 := ⟨(k + 2 * i) % 3 == 0, k + 2 * i + 1⟩
def mkEv (k : Int) (i : Nat) : E3 := ⟨k + 3 * i, k + 3 * i + 1, k + 3 * i + 1 + 1⟩
theorem flat_set2_ {f : Nat → List Value} {n i : Nat} (hl : ∀ j, j < n → (f j).length = 2) (hi : i < n) (a b : Value) :
  flat (fun j => if j = i then [a, b] else f j) n = ((flat f n).set (i * 2) a).set (i * 2 + 1) b := by
 have hl' : ∀ j, j < n → ((fun j => if j = i then [a, b] else f j) j).length = 2 := fun j hj => by
  by_cases e : j = i
  ·simp [e]
  ·simp [e, hl j hj]
 have n1 := flat_len hl
 have n2 := flat_len hl'
 apply List.ext_getElem?
 intro q
 by_cases hq : q < n * 2
 ·have hk : q / 2 < n := by omega
  have hr : q % 2 < 2 := by omega
  have e0 : q = q / 2 * 2 + q % 2 := by omega
  have e1 := flat_at hl' hk hr
  have e2 := flat_at hl hk hr
  rw [← e0] at e1 e2
  rw [e1]
  by_cases ei : q / 2 = i
  ·simp only [if_pos ei]
   have hrK : q % 2 = 0 ∨ q % 2 = 1 := by omega
   rcases hrK with h | h <;> rw [h] <;>
    (simp only [List.getElem?_set, List.length_set, n1]
     have : i < n := hi
     repeat (first | rw [if_pos (by omega)] | rw [if_neg (by omega)])
     simp)
  ·simp only [if_neg ei]
   simp only [List.getElem?_set, List.length_set, n1]
   repeat rw [if_neg (by omega)]
   rw [e2]
 ·rw [List.getElem?_eq_none (by omega), List.getElem?_eq_none (by simp only [List.length_set]; omega)]
theorem flat_set3_ {f : Nat → List Value} {n i : Nat} (hl : ∀ j, j < n → (f j).length = 3) (hi : i < n) (a b c : Value) :
  flat (fun j => if j = i then [a, b, c] else f j) n = (((flat f n).set (i * 3) a).set (i * 3 + 1) b).set (i * 3 + 2) c := by
 have hl' : ∀ j, j < n → ((fun j => if j = i then [a, b, c] else f j) j).length = 3 := fun j hj => by
  by_cases e : j = i
  ·simp [e]
  ·simp [e, hl j hj]
 have n1 := flat_len hl
 have n2 := flat_len hl'
 apply List.ext_getElem?
 intro q
 by_cases hq : q < n * 3
 ·have hk : q / 3 < n := by omega
  have hr : q % 3 < 3 := by omega
  have e0 : q = q / 3 * 3 + q % 3 := by omega
  have e1 := flat_at hl' hk hr
  have e2 := flat_at hl hk hr
  rw [← e0] at e1 e2
  rw [e1]
  by_cases ei : q / 3 = i
  ·simp only [if_pos ei]
   have hrK : q % 3 = 0 ∨ q % 3 = 1 ∨ q % 3 = 2 := by omega
   rcases hrK with h | h | h <;> rw [h] <;>
    (simp only [List.getElem?_set, List.length_set, n1]
     have : i < n := hi
     repeat (first | rw [if_pos (by omega)] | rw [if_neg (by omega)])
     simp)
  ·simp only [if_neg ei]
   simp only [List.getElem?_set, List.length_set, n1]
   repeat rw [if_neg (by omega)]
   rw [e2]
 ·rw [List.getElem?_eq_none (by omega), List.getElem?_eq_none (by simp only [List.length_set]; omega)]
theorem flat_set5_ {f : Nat → List Value} {n i : Nat} (hl : ∀ j, j < n → (f j).length = 5) (hi : i < n) (a b c d e : Value) :
  flat (fun j => if j = i then [a, b, c, d, e] else f j) n = (((((flat f n).set (i * 5) a).set (i * 5 + 1) b).set (i * 5 + 2) c).set (i * 5 + 3) d).set (i * 5 + 4) e := by
 have hl' : ∀ j, j < n → ((fun j => if j = i then [a, b, c, d, e] else f j) j).length = 5 := fun j hj => by
  by_cases e : j = i
  ·simp [e]
  ·simp [e, hl j hj]
 have n1 := flat_len hl
 have n2 := flat_len hl'
 apply List.ext_getElem?
 intro q
 by_cases hq : q < n * 5
 ·have hk : q / 5 < n := by omega
  have hr : q % 5 < 5 := by omega
  have e0 : q = q / 5 * 5 + q % 5 := by omega
  have e1 := flat_at hl' hk hr
  have e2 := flat_at hl hk hr
  rw [← e0] at e1 e2
  rw [e1]
  by_cases ei : q / 5 = i
  ·simp only [if_pos ei]
   have hrK : q % 5 = 0 ∨ q % 5 = 1 ∨ q % 5 = 2 ∨ q % 5 = 3 ∨ q % 5 = 4 := by omega
   rcases hrK with h | h | h | h | h <;> rw [h] <;>
    (simp only [List.getElem?_set, List.length_set, n1]
     have : i < n := hi
     repeat (first | rw [if_pos (by omega)] | rw [if_neg (by omega)])
     simp)
  ·simp only [if_neg ei]
   simp only [List.getElem?_set, List.length_set, n1]
   repeat rw [if_neg (by omega)]
   rw [e2]
 ·rw [List.getElem?_eq_none (by omega), List.getElem?_eq_none (by simp only [List.length_set]; omega)]
theorem markInsS_own (b n cap B : Nat) (h : Nat → I5) (k : Int) (w : World) (hlen : n ≤ 1048576) (k0 : 0 ≤ k) (k1 : k ≤ 100000000) (o : w.ownsRow B 149 5 (.slice (some ⟨b, 0, none⟩) n cap) n (fI h n)) :
  Calls Tryz.prog 106 #[.slice (some ⟨b, 0, none⟩) n cap, .int .i64 k] w fun e w' => e = .returned (.int .i64 (k + 5 * n)) ∧ w.grownBy w' (some b) ∧ w'.ownsRow B 149 5 (.slice (some ⟨b, 0, none⟩) n cap) n (fI (mkI k) n) := by
 have hl' : (n : Int) ≤ 1048576 := by omega
 have HO : Hid (w.ownsRow B 149 5 (.slice (some ⟨b, 0, none⟩) n cap) n (fI h n)) := o
 clear o
 go_enter Tryz.func106, Tryz.ntmps106
 go_wp2_with fail
 go_loopw [1, 5] (fun q i wr => ∃ j : Nat, j ≤ n ∧ i = .int .i64 j ∧ q = .int .i64 (k + 5 * j) ∧ Hid (wr.ownsRow B 149 5 (.slice (some ⟨b, 0, none⟩) n cap) n (flat (fun t => cI (if t < j then mkI k t else h t)) n) ∧ w.grownBy wr (some b))) (fun _ i _ => n - (intOf i).toNat)
 case atStart =>
  refine ⟨0, Nat.zero_le _, rfl, by simp, ?_, World.grownBy.refl _ _⟩
  have e : flat (fun t => cI (if t < 0 then mkI k t else h t)) n = fI h n := flat_congr fun t _ => by rw [if_neg (by omega)]
  rw [e]
  exact HO.out
 case round =>
  clear HO
  obtain ⟨j, hj, rfl, rfl, HR⟩ := hrel
  by_cases hlt : j < n
  ·have hlt' : (j : Int) < (n : Int) := by omega
   have hc : ∀ r, r < 5 → wr.cell? ⟨b, j * 5 + r, none⟩ = (cI (h j))[r]? := fun r hr => by
    rw [HR.out.1.cellAt _ (by omega)]
    have e := flat_at (sz := 5) (f := (fun t => cI (if t < j then mkI k t else h t))) (n := n) (fun _ _ => rfl) hlt hr
    rw [if_neg (by omega)] at e
    exact e
   have c0 := hc 0 (by omega)
   have c1 := hc 1 (by omega)
   have c2 := hc 2 (by omega)
   have c3 := hc 3 (by omega)
   have c4 := hc 4 (by omega)
   simp only [cI, Nat.add_zero, List.getElem?_cons_zero, List.getElem?_cons_succ] at c0 c1 c2 c3 c4
   have fz : ∀ o, wr.frozen? ⟨b, o, none⟩ = false := fun o => HR.out.1.frozenAt o
   clear hc
   go_wp2
   go_roundw
   case rel =>
    refine ⟨j + 1, by omega, by go_num, by go_num, ?_, ?_⟩
    ·have e : flat (fun t => cI (if t < j + 1 then mkI k t else h t)) n = flat (fun t => if t = j then cI (mkI k j) else (fun t => cI (if t < j then mkI k t else h t)) t) n := flat_congr fun t _ => by
      by_cases e : t = j
      ·rw [if_pos e, if_pos (by omega), e]
      ·rw [if_neg e]
       show cI (if t < j + 1 then mkI k t else h t) = cI (if t < j then mkI k t else h t)
       by_cases e2 : t < j
       ·rw [if_pos e2, if_pos (by omega)]
       ·rw [if_neg e2, if_neg (by omega)]
     have e2 := flat_set5_ (f := (fun t => cI (if t < j then mkI k t else h t))) (n := n) (i := j) (fun _ _ => rfl) hlt (.int .i64 (k + 5 * (j : Int))) (.int .i64 (k + 5 * (j : Int) + 1)) (.int .i64 (k + 5 * (j : Int) + 1 + 1)) (.int .i64 (k + 5 * (j : Int) + 1 + 1 + 1)) (.int .i64 (k + 5 * (j : Int) + 1 + 1 + 1 + 1))
     rw [e]
     refine Eq.mpr (congrArg (fun l => World.ownsRow _ B 149 5 (.slice (some ⟨b, 0, none⟩) n cap) n l) e2) ?_
     exact (World.ownsRow.stored (World.ownsRow.stored (World.ownsRow.stored (World.ownsRow.stored (World.ownsRow.stored HR.out.1 (j * 5) (.int .i64 (k + 5 * (j : Int)))).1 (j * 5 + 1) (.int .i64 (k + 5 * (j : Int) + 1))).1 (j * 5 + 2) (.int .i64 (k + 5 * (j : Int) + 1 + 1))).1 (j * 5 + 3) (.int .i64 (k + 5 * (j : Int) + 1 + 1 + 1))).1 (j * 5 + 4) (.int .i64 (k + 5 * (j : Int) + 1 + 1 + 1 + 1))).1
    ·repeat (refine grown_setCell ?_ (.inl rfl) _)
     exact HR.out.2
   case measure => simp [intOf]; omega
  ·have hjl : j = n := by omega
   subst hjl
   have HF : Hid (w.grownBy wr (some b) ∧ wr.ownsRow B 149 5 (.slice (some ⟨b, 0, none⟩) j cap) j (fI (mkI k) j)) := by
    refine ⟨HR.out.2, ?_⟩
    have e : flat (fun t => cI (if t < j then mkI k t else h t)) j = fI (mkI k) j := flat_congr fun t ht => by rw [if_pos ht]
    have := HR.out.1
    rw [e] at this
    exact this
   clear HR
   go_wp2
   go_ret
   exact ⟨rfl, HF.out⟩
theorem heldInsS_own (b n cap : Nat) (k : Int) (w : World) (hlen : n ≤ 1048576) (k0 : 0 ≤ k) (k1 : k ≤ 100000000) (hb : b < w.heap.size) (h : InsAt w b 0 n (mkI k)) :
  Calls Tryz.prog 180 #[.slice (some ⟨b, 0, none⟩) n cap, .int .i64 k] w fun e w' => e = .returned (.int .i64 (k + 5 * n)) ∧ Below w.heap.size w w' := by
 have hl' : (n : Int) ≤ 1048576 := by omega
 have HO : Hid (InsAt w b 0 n (mkI k) ∧ b < w.heap.size) := ⟨h, hb⟩
 clear h hb
 go_enter Tryz.func180, Tryz.ntmps180
 go_wp2_with fail
 go_loopw [1, 5] (fun q i wr => ∃ j : Nat, j ≤ n ∧ i = .int .i64 j ∧ q = .int .i64 (k + 5 * j) ∧ Below w.heap.size w wr) (fun _ i _ => n - (intOf i).toNat)
 case atStart => exact ⟨0, Nat.zero_le _, rfl, by simp, Below.refl _ _⟩
 case round =>
  obtain ⟨j, hj, rfl, rfl, hbw⟩ := hrel
  by_cases hlt : j < n
  ·have hlt' : (j : Int) < (n : Int) := by omega
   obtain ⟨d0, d1, d2, d3, d4⟩ := HO.out.1 j hlt
   have c0 : wr.cell? ⟨b, j * 5, none⟩ = some (.int .i64 (k + 5 * (j : Int))) := (hbw.cell (p := ⟨b, j * 5, none⟩) HO.out.2).trans (by have d := d0; rw [Nat.zero_add] at d; exact d)
   have c1 : wr.cell? ⟨b, j * 5 + 1, none⟩ = some (.int .i64 (k + 5 * (j : Int) + 1)) := (hbw.cell (p := ⟨b, j * 5 + 1, none⟩) HO.out.2).trans (by have d := d1; rw [Nat.zero_add] at d; exact d)
   have c2 : wr.cell? ⟨b, j * 5 + 2, none⟩ = some (.int .i64 (k + 5 * (j : Int) + 1 + 1)) := (hbw.cell (p := ⟨b, j * 5 + 2, none⟩) HO.out.2).trans (by have d := d2; rw [Nat.zero_add] at d; exact d)
   have c3 : wr.cell? ⟨b, j * 5 + 3, none⟩ = some (.int .i64 (k + 5 * (j : Int) + 1 + 1 + 1)) := (hbw.cell (p := ⟨b, j * 5 + 3, none⟩) HO.out.2).trans (by have d := d3; rw [Nat.zero_add] at d; exact d)
   have c4 : wr.cell? ⟨b, j * 5 + 4, none⟩ = some (.int .i64 (k + 5 * (j : Int) + 1 + 1 + 1 + 1)) := (hbw.cell (p := ⟨b, j * 5 + 4, none⟩) HO.out.2).trans (by have d := d4; rw [Nat.zero_add] at d; exact d)
   clear d0 d1 d2 d3 d4
   go_wp2
   go_roundw
   case rel => exact ⟨j + 1, by omega, by go_num, by go_num, hbw⟩
   case measure => simp [intOf]; omega
  ·have hjl : j = n := by omega
   subst hjl
   go_wp2
   go_ret
   exact ⟨rfl, hbw⟩
theorem markItemS_own (b n cap B : Nat) (h : Nat → I2) (k : Int) (w : World) (hlen : n ≤ 1048576) (k0 : 0 ≤ k) (k1 : k ≤ 100000000) (o : w.ownsRow B 95 2 (.slice (some ⟨b, 0, none⟩) n cap) n (fT h n)) :
  Calls Tryz.prog 108 #[.slice (some ⟨b, 0, none⟩) n cap, .int .i64 k] w fun e w' => e = .returned (.int .i64 (k + 2 * n)) ∧ w.grownBy w' (some b) ∧ w'.ownsRow B 95 2 (.slice (some ⟨b, 0, none⟩) n cap) n (fT (mkT k) n) := by
 have hl' : (n : Int) ≤ 1048576 := by omega
 have HO : Hid (w.ownsRow B 95 2 (.slice (some ⟨b, 0, none⟩) n cap) n (fT h n)) := o
 clear o
 go_enter Tryz.func108, Tryz.ntmps108
 go_wp2_with fail
 go_loopw [1, 5] (fun q i wr => ∃ j : Nat, j ≤ n ∧ i = .int .i64 j ∧ q = .int .i64 (k + 2 * j) ∧ Hid (wr.ownsRow B 95 2 (.slice (some ⟨b, 0, none⟩) n cap) n (flat (fun t => cT (if t < j then mkT k t else h t)) n) ∧ w.grownBy wr (some b))) (fun _ i _ => n - (intOf i).toNat)
 case atStart =>
  refine ⟨0, Nat.zero_le _, rfl, by simp, ?_, World.grownBy.refl _ _⟩
  have e : flat (fun t => cT (if t < 0 then mkT k t else h t)) n = fT h n := flat_congr fun t _ => by rw [if_neg (by omega)]
  rw [e]
  exact HO.out
 case round =>
  clear HO
  obtain ⟨j, hj, rfl, rfl, HR⟩ := hrel
  by_cases hlt : j < n
  ·have hlt' : (j : Int) < (n : Int) := by omega
   have hc : ∀ r, r < 2 → wr.cell? ⟨b, j * 2 + r, none⟩ = (cT (h j))[r]? := fun r hr => by
    rw [HR.out.1.cellAt _ (by omega)]
    have e := flat_at (sz := 2) (f := (fun t => cT (if t < j then mkT k t else h t))) (n := n) (fun _ _ => rfl) hlt hr
    rw [if_neg (by omega)] at e
    exact e
   have c0 := hc 0 (by omega)
   have c1 := hc 1 (by omega)
   simp only [cT, Nat.add_zero, List.getElem?_cons_zero, List.getElem?_cons_succ] at c0 c1
   have fz : ∀ o, wr.frozen? ⟨b, o, none⟩ = false := fun o => HR.out.1.frozenAt o
   clear hc
   go_wp2
   go_roundw
   case rel =>
    refine ⟨j + 1, by omega, by go_num, by go_num, ?_, ?_⟩
    ·have e : flat (fun t => cT (if t < j + 1 then mkT k t else h t)) n = flat (fun t => if t = j then cT (mkT k j) else (fun t => cT (if t < j then mkT k t else h t)) t) n := flat_congr fun t _ => by
      by_cases e : t = j
      ·rw [if_pos e, if_pos (by omega), e]
      ·rw [if_neg e]
       show cT (if t < j + 1 then mkT k t else h t) = cT (if t < j then mkT k t else h t)
       by_cases e2 : t < j
       ·rw [if_pos e2, if_pos (by omega)]
       ·rw [if_neg e2, if_neg (by omega)]
     have e2 := flat_set2_ (f := (fun t => cT (if t < j then mkT k t else h t))) (n := n) (i := j) (fun _ _ => rfl) hlt (.bool ((k + 2 * (j : Int)) % 3 == 0)) (.int .i64 (k + 2 * (j : Int) + 1))
     rw [e]
     refine Eq.mpr (congrArg (fun l => World.ownsRow _ B 95 2 (.slice (some ⟨b, 0, none⟩) n cap) n l) e2) ?_
     exact (World.ownsRow.stored (World.ownsRow.stored HR.out.1 (j * 2) (.bool ((k + 2 * (j : Int)) % 3 == 0))).1 (j * 2 + 1) (.int .i64 (k + 2 * (j : Int) + 1))).1
    ·repeat (refine grown_setCell ?_ (.inl rfl) _)
     exact HR.out.2
   case measure => simp [intOf]; omega
  ·have hjl : j = n := by omega
   subst hjl
   have HF : Hid (w.grownBy wr (some b) ∧ wr.ownsRow B 95 2 (.slice (some ⟨b, 0, none⟩) j cap) j (fT (mkT k) j)) := by
    refine ⟨HR.out.2, ?_⟩
    have e : flat (fun t => cT (if t < j then mkT k t else h t)) j = fT (mkT k) j := flat_congr fun t ht => by rw [if_pos ht]
    have := HR.out.1
    rw [e] at this
    exact this
   clear HR
   go_wp2
   go_ret
   exact ⟨rfl, HF.out⟩
theorem heldItemS_own (b n cap : Nat) (k : Int) (w : World) (hlen : n ≤ 1048576) (k0 : 0 ≤ k) (k1 : k ≤ 100000000) (hb : b < w.heap.size) (h : ItAt w b 0 n (mkT k)) :
  Calls Tryz.prog 181 #[.slice (some ⟨b, 0, none⟩) n cap, .int .i64 k] w fun e w' => e = .returned (.int .i64 (k + 2 * n)) ∧ Below w.heap.size w w' := by
 have hl' : (n : Int) ≤ 1048576 := by omega
 have HO : Hid (ItAt w b 0 n (mkT k) ∧ b < w.heap.size) := ⟨h, hb⟩
 clear h hb
 go_enter Tryz.func181, Tryz.ntmps181
 go_wp2_with fail
 go_loopw [1, 5] (fun q i wr => ∃ j : Nat, j ≤ n ∧ i = .int .i64 j ∧ q = .int .i64 (k + 2 * j) ∧ Below w.heap.size w wr) (fun _ i _ => n - (intOf i).toNat)
 case atStart => exact ⟨0, Nat.zero_le _, rfl, by simp, Below.refl _ _⟩
 case round =>
  obtain ⟨j, hj, rfl, rfl, hbw⟩ := hrel
  by_cases hlt : j < n
  ·have hlt' : (j : Int) < (n : Int) := by omega
   obtain ⟨d0, d1⟩ := HO.out.1 j hlt
   have c0 : wr.cell? ⟨b, j * 2, none⟩ = some (.bool ((k + 2 * (j : Int)) % 3 == 0)) := (hbw.cell (p := ⟨b, j * 2, none⟩) HO.out.2).trans (by have d := d0; rw [Nat.zero_add] at d; exact d)
   have c1 : wr.cell? ⟨b, j * 2 + 1, none⟩ = some (.int .i64 (k + 2 * (j : Int) + 1)) := (hbw.cell (p := ⟨b, j * 2 + 1, none⟩) HO.out.2).trans (by have d := d1; rw [Nat.zero_add] at d; exact d)
   clear d0 d1
   rcases Bool.eq_false_or_eq_true ((k + 2 * (j : Int)) % 3 == 0) with t | t
   ·rw [t] at c0
    go_wp2_with fail
    exact ⟨⟨j + 1, by omega, by go_num, by go_num, hbw⟩, by simp [intOf]; omega⟩
   ·rw [t] at c0
    go_wp2_with fail
    exact ⟨⟨j + 1, by omega, by go_num, by go_num, hbw⟩, by simp [intOf]; omega⟩
  ·have hjl : j = n := by omega
   subst hjl
   go_wp2
   go_ret
   exact ⟨rfl, hbw⟩
theorem markEventS_own (b n cap B : Nat) (h : Nat → E3) (k : Int) (w : World) (hlen : n ≤ 1048576) (k0 : 0 ≤ k) (k1 : k ≤ 100000000) (o : w.ownsRow B 106 3 (.slice (some ⟨b, 0, none⟩) n cap) n (fE h n)) :
  Calls Tryz.prog 109 #[.slice (some ⟨b, 0, none⟩) n cap, .int .i64 k] w fun e w' => e = .returned (.int .i64 (k + 3 * n)) ∧ w.grownBy w' (some b) ∧ w'.ownsRow B 106 3 (.slice (some ⟨b, 0, none⟩) n cap) n (fE (mkEv k) n) := by
 have hl' : (n : Int) ≤ 1048576 := by omega
 have HO : Hid (w.ownsRow B 106 3 (.slice (some ⟨b, 0, none⟩) n cap) n (fE h n)) := o
 clear o
 go_enter Tryz.func109, Tryz.ntmps109
 go_wp2_with fail
 go_loopw [1, 5] (fun q i wr => ∃ j : Nat, j ≤ n ∧ i = .int .i64 j ∧ q = .int .i64 (k + 3 * j) ∧ Hid (wr.ownsRow B 106 3 (.slice (some ⟨b, 0, none⟩) n cap) n (flat (fun t => cE (if t < j then mkEv k t else h t)) n) ∧ w.grownBy wr (some b))) (fun _ i _ => n - (intOf i).toNat)
 case atStart =>
  refine ⟨0, Nat.zero_le _, rfl, by simp, ?_, World.grownBy.refl _ _⟩
  have e : flat (fun t => cE (if t < 0 then mkEv k t else h t)) n = fE h n := flat_congr fun t _ => by rw [if_neg (by omega)]
  rw [e]
  exact HO.out
 case round =>
  clear HO
  obtain ⟨j, hj, rfl, rfl, HR⟩ := hrel
  by_cases hlt : j < n
  ·have hlt' : (j : Int) < (n : Int) := by omega
   have hc : ∀ r, r < 3 → wr.cell? ⟨b, j * 3 + r, none⟩ = (cE (h j))[r]? := fun r hr => by
    rw [HR.out.1.cellAt _ (by omega)]
    have e := flat_at (sz := 3) (f := (fun t => cE (if t < j then mkEv k t else h t))) (n := n) (fun _ _ => rfl) hlt hr
    rw [if_neg (by omega)] at e
    exact e
   have c0 := hc 0 (by omega)
   have c1 := hc 1 (by omega)
   have c2 := hc 2 (by omega)
   simp only [cE, Nat.add_zero, List.getElem?_cons_zero, List.getElem?_cons_succ] at c0 c1 c2
   have fz : ∀ o, wr.frozen? ⟨b, o, none⟩ = false := fun o => HR.out.1.frozenAt o
   clear hc
   go_wp2
   go_roundw
   case rel =>
    refine ⟨j + 1, by omega, by go_num, by go_num, ?_, ?_⟩
    ·have e : flat (fun t => cE (if t < j + 1 then mkEv k t else h t)) n = flat (fun t => if t = j then cE (mkEv k j) else (fun t => cE (if t < j then mkEv k t else h t)) t) n := flat_congr fun t _ => by
      by_cases e : t = j
      ·rw [if_pos e, if_pos (by omega), e]
      ·rw [if_neg e]
       show cE (if t < j + 1 then mkEv k t else h t) = cE (if t < j then mkEv k t else h t)
       by_cases e2 : t < j
       ·rw [if_pos e2, if_pos (by omega)]
       ·rw [if_neg e2, if_neg (by omega)]
     have e2 := flat_set3_ (f := (fun t => cE (if t < j then mkEv k t else h t))) (n := n) (i := j) (fun _ _ => rfl) hlt (.int .i64 (k + 3 * (j : Int))) (.int .i64 (k + 3 * (j : Int) + 1)) (.int .i64 (k + 3 * (j : Int) + 1 + 1))
     rw [e]
     refine Eq.mpr (congrArg (fun l => World.ownsRow _ B 106 3 (.slice (some ⟨b, 0, none⟩) n cap) n l) e2) ?_
     exact (World.ownsRow.stored (World.ownsRow.stored (World.ownsRow.stored HR.out.1 (j * 3) (.int .i64 (k + 3 * (j : Int)))).1 (j * 3 + 1) (.int .i64 (k + 3 * (j : Int) + 1))).1 (j * 3 + 2) (.int .i64 (k + 3 * (j : Int) + 1 + 1))).1
    ·repeat (refine grown_setCell ?_ (.inl rfl) _)
     exact HR.out.2
   case measure => simp [intOf]; omega
  ·have hjl : j = n := by omega
   subst hjl
   have HF : Hid (w.grownBy wr (some b) ∧ wr.ownsRow B 106 3 (.slice (some ⟨b, 0, none⟩) j cap) j (fE (mkEv k) j)) := by
    refine ⟨HR.out.2, ?_⟩
    have e : flat (fun t => cE (if t < j then mkEv k t else h t)) j = fE (mkEv k) j := flat_congr fun t ht => by rw [if_pos ht]
    have := HR.out.1
    rw [e] at this
    exact this
   clear HR
   go_wp2
   go_ret
   exact ⟨rfl, HF.out⟩
theorem heldEventS_own (b n cap : Nat) (k : Int) (w : World) (hlen : n ≤ 1048576) (k0 : 0 ≤ k) (k1 : k ≤ 100000000) (hb : b < w.heap.size) (h : EvAt w b 0 n (mkEv k)) :
  Calls Tryz.prog 182 #[.slice (some ⟨b, 0, none⟩) n cap, .int .i64 k] w fun e w' => e = .returned (.int .i64 (k + 3 * n)) ∧ Below w.heap.size w w' := by
 have hl' : (n : Int) ≤ 1048576 := by omega
 have HO : Hid (EvAt w b 0 n (mkEv k) ∧ b < w.heap.size) := ⟨h, hb⟩
 clear h hb
 go_enter Tryz.func182, Tryz.ntmps182
 go_wp2_with fail
 go_loopw [1, 5] (fun q i wr => ∃ j : Nat, j ≤ n ∧ i = .int .i64 j ∧ q = .int .i64 (k + 3 * j) ∧ Below w.heap.size w wr) (fun _ i _ => n - (intOf i).toNat)
 case atStart => exact ⟨0, Nat.zero_le _, rfl, by simp, Below.refl _ _⟩
 case round =>
  obtain ⟨j, hj, rfl, rfl, hbw⟩ := hrel
  by_cases hlt : j < n
  ·have hlt' : (j : Int) < (n : Int) := by omega
   obtain ⟨d0, d1, d2⟩ := HO.out.1 j hlt
   have c0 : wr.cell? ⟨b, j * 3, none⟩ = some (.int .i64 (k + 3 * (j : Int))) := (hbw.cell (p := ⟨b, j * 3, none⟩) HO.out.2).trans (by have d := d0; rw [Nat.zero_add] at d; exact d)
   have c1 : wr.cell? ⟨b, j * 3 + 1, none⟩ = some (.int .i64 (k + 3 * (j : Int) + 1)) := (hbw.cell (p := ⟨b, j * 3 + 1, none⟩) HO.out.2).trans (by have d := d1; rw [Nat.zero_add] at d; exact d)
   have c2 : wr.cell? ⟨b, j * 3 + 2, none⟩ = some (.int .i64 (k + 3 * (j : Int) + 1 + 1)) := (hbw.cell (p := ⟨b, j * 3 + 2, none⟩) HO.out.2).trans (by have d := d2; rw [Nat.zero_add] at d; exact d)
   clear d0 d1 d2
   go_wp2
   go_roundw
   case rel => exact ⟨j + 1, by omega, by go_num, by go_num, hbw⟩
   case measure => simp [intOf]; omega
  ·have hjl : j = n := by omega
   subst hjl
   go_wp2
   go_ret
   exact ⟨rfl, hbw⟩
section
variable {e : TypeId} {sz : Nat} {E : TypeId} {w : World} {P : Nat → Prop} {v : Value} {n : Nat} {u : Nat → Value} {L : Nat → Nat} {c : Nat → List Value}
theorem LL.remark (o : LL true e sz E w P v n u L c) {i : Nat} (hi : i < n) {w1 : World} {c' : List Value} (hu : w1.ownsRow 0 e sz (u i) (L i) c') (g : ∀ k, k < w.heap.size → (u i).ownBlock ≠ some k → w1.heap[k]? = w.heap[k]?) : LL true e sz E w1 P v n u L (fun j => if j = i then c' else c j) := by
 refine ⟨ownsRow_blkL o.row fun k hk => g k (o.row.lt k hk).2 fun e => o.ra i hi k e hk, fun j hj => ?_, o.rb, o.ob, o.ra, o.oa, o.nn⟩
 by_cases ej : j = i
 ·subst ej
  simp only [if_true]
  exact hu
 ·simp only [if_neg ej]
  exact ownsRow_blkL (o.own j hj) fun k hk => g k ((o.own j hj).lt k hk).2 fun e => o.oa j i hj hi ej k hk e
theorem LL.cast (o : LL true e sz E w P v n u L c) {c' : Nat → List Value} (h : ∀ i, i < n → c i = c' i) : LL true e sz E w P v n u L c' :=
 ⟨o.row, fun i hi => by rw [← h i hi]; exact o.own i hi, o.rb, o.ob, o.ra, o.oa, o.nn⟩
end
theorem markInsSS_own (v : Value) (P : Nat → Prop) (n : Nat) (u : Nat → Value) (L : Nat → Nat) (H : Nat → Nat → I5) (k : Int) (w : World) (hn : n ≤ 1048576) (hl : sumL L n ≤ 1048576) (k0 : 0 ≤ k) (k1 : k ≤ 50000000) (o : LI true w P v n u L H) :
  Calls Tryz.prog 42 #[v, .int .i64 k] w fun e w' => e = .returned (.int .i64 (k + 5 * (sumL L n : Nat))) ∧ LI true w' P v n u L (fun i => mkI (k + 5 * (sumL L i : Nat))) ∧ Touch P w w' := by
 have hl' : (n : Int) ≤ 1048576 := by omega
 obtain ⟨a1, c1, rfl⟩ := ownsRow_slice o.row
 have O : Hid (LI true w P (.slice a1 n c1) n u L H) := o
 have HL : Hid (sumL L n ≤ 1048576) := hl
 clear o hl
 go_enter Tryz.func42, Tryz.ntmps42
 go_wp2_with fail
 go_loopw [1, 5] (fun q i wr => ∃ j : Nat, j ≤ n ∧ i = .int .i64 j ∧ q = .int .i64 (k + 5 * (sumL L j : Nat)) ∧ Hid (LL true 149 5 122 wr P (.slice a1 n c1) n u L (fun t => fI (if t < j then mkI (k + 5 * (sumL L t : Nat)) else H t) (L t)) ∧ Touch P w wr)) (fun _ i _ => n - (intOf i).toNat)
 case atStart => exact ⟨0, Nat.zero_le _, rfl, by simp [sumL], O.out.cast fun i _ => by rw [if_neg (by omega)], Touch.refl _ _⟩
 case round =>
  obtain ⟨j, hj, rfl, rfl, HT⟩ := hrel
  by_cases hlt : j < n
  ·have hlt' : (j : Int) < (n : Int) := by omega
   obtain ⟨g1, m1, e1, -, -, ck, -⟩ := HT.out.1.cell hlt
   obtain rfl := slice_form e1
   have how := HT.out.1.own j hlt
   rw [if_neg (by omega)] at how
   obtain ⟨b, m, f1, lb, -, -⟩ := atI how (HT.out.1.nn (nzT _) j hlt)
   rw [f1] at ck how
   have OW : Hid (wr.ownsRow 0 149 5 (.slice (some ⟨b, 0, none⟩) (L j) m) (L j) (fI (H j) (L j))) := how
   have HU : Hid (u j = .slice (some ⟨b, 0, none⟩) (L j) m) := f1
   have hsl := sumL_at L hlt
   have hS := HL.out
   have e1' : k + 5 * (sumL L j : Nat) + 5 * (L j : Int) = k + 5 * (sumL L (j + 1) : Nat) := by simp only [sumL]; omega
   have HE : Hid (k + 5 * (sumL L j : Nat) + 5 * (L j : Int) = k + 5 * (sumL L (j + 1) : Nat)) := e1'
   have e2 : 0 ≤ k + 5 * (sumL L j : Nat) := by omega
   have e3 : k + 5 * (sumL L j : Nat) ≤ 100000000 := by omega
   have e4 : L j ≤ 1048576 := by omega
   clear e1' hS hsl how f1 e1
   go_wp2_with fail
   refine (markInsS_own b (L j) m 0 (H j) _ wr e4 e2 e3 OW.out).mono ?_
   rintro e w1 ⟨rfl, g1', o1⟩
   rw [HE.out]
   have HT1 : Hid (LL true 149 5 122 w1 P (.slice (some ⟨g1, 0, none⟩) n c1) n u L (fun t => fI (if t < j + 1 then mkI (k + 5 * (sumL L t : Nat)) else H t) (L t)) ∧ Touch P w w1) := by
    refine ⟨(HT.out.1.remark hlt (c' := fI (mkI (k + 5 * (sumL L j : Nat))) (L j)) (by rw [HU.out]; exact o1) fun q hq hne => g1'.block q hq fun e => hne (by rw [HU.out, e]; rfl)).cast fun t ht => ?_, HT.out.2.trans (Touch.of_grown g1' fun q e => HT.out.1.ob j hlt q (by rw [HU.out, ← e]; rfl))⟩
    by_cases et : t = j
    ·rw [if_pos et, if_pos (by omega), et]
    ·rw [if_neg et]
     by_cases e2 : t < j
     ·rw [if_pos e2, if_pos (by omega)]
     ·rw [if_neg e2, if_neg (by omega)]
   clear HT e2 e3 e4 g1' o1 ck
   go_wp2
   go_roundw
   case rel => exact ⟨j + 1, by omega, by go_num, rfl, HT1.out⟩
   case measure => simp [intOf]; omega
  ·have hkl : j = n := by omega
   subst hkl
   have HT1 : Hid (LI true wr P (.slice a1 j c1) j u L (fun i => mkI (k + 5 * (sumL L i : Nat))) ∧ Touch P w wr) := ⟨HT.out.1.cast fun t ht => by rw [if_pos ht], HT.out.2⟩
   clear HT
   go_wp2
   go_ret
   exact ⟨rfl, HT1.out⟩
theorem heldInsSS_own (v : Value) (P : Nat → Prop) (n : Nat) (u : Nat → Value) (L : Nat → Nat) (k : Int) (w : World) (hn : n ≤ 1048576) (hl : sumL L n ≤ 1048576) (k0 : 0 ≤ k) (k1 : k ≤ 50000000) (o : LI true w P v n u L (fun i => mkI (k + 5 * (sumL L i : Nat)))) :
  Calls Tryz.prog 112 #[v, .int .i64 k] w fun e w' => e = .returned (.int .i64 (k + 5 * (sumL L n : Nat))) ∧ Below w.heap.size w w' := by
 have hl' : (n : Int) ≤ 1048576 := by omega
 obtain ⟨a1, c1, rfl⟩ := ownsRow_slice o.row
 have O : Hid (LI true w P (.slice a1 n c1) n u L (fun i => mkI (k + 5 * (sumL L i : Nat)))) := o
 have HL : Hid (sumL L n ≤ 1048576) := hl
 clear o hl
 go_enter Tryz.func112, Tryz.ntmps112
 go_wp2_with fail
 go_loopw [1, 5] (fun q i wr => ∃ j : Nat, j ≤ n ∧ i = .int .i64 j ∧ q = .int .i64 (k + 5 * (sumL L j : Nat)) ∧ Below w.heap.size w wr) (fun _ i _ => n - (intOf i).toNat)
 case atStart => exact ⟨0, Nat.zero_le _, rfl, by simp [sumL], Below.refl _ _⟩
 case round =>
  obtain ⟨j, hj, rfl, rfl, hbw⟩ := hrel
  by_cases hlt : j < n
  ·have hlt' : (j : Int) < (n : Int) := by omega
   have Q := O.out.below hbw
   obtain ⟨g1, m1, e1, -, -, ck, -⟩ := Q.cell hlt
   obtain rfl := slice_form e1
   obtain ⟨b, m, f1, lb, it, -⟩ := atI (Q.own j hlt) (Q.nn (nzT _) j hlt)
   rw [f1] at ck
   have IT : Hid (InsAt wr b 0 (L j) (mkI (k + 5 * (sumL L j : Nat))) ∧ b < wr.heap.size) := ⟨it, lb⟩
   have hsl := sumL_at L hlt
   have hS := HL.out
   have e1' : k + 5 * (sumL L j : Nat) + 5 * (L j : Int) = k + 5 * (sumL L (j + 1) : Nat) := by simp only [sumL]; omega
   have HE : Hid (k + 5 * (sumL L j : Nat) + 5 * (L j : Int) = k + 5 * (sumL L (j + 1) : Nat)) := e1'
   have e2 : 0 ≤ k + 5 * (sumL L j : Nat) := by omega
   have e3 : k + 5 * (sumL L j : Nat) ≤ 100000000 := by omega
   have e4 : L j ≤ 1048576 := by omega
   have e5 : ¬ (k + 5 * (sumL L (j + 1) : Nat) < 0) := by omega
   clear e1' hS hsl Q f1 it lb e1
   go_wp2_with fail
   refine (heldInsS_own b (L j) m _ wr e4 e2 e3 IT.out.2 IT.out.1).mono ?_
   rintro e w1 ⟨rfl, b1⟩
   rw [HE.out]
   have B1 : Hid (Below w.heap.size w w1) := hbw.trans (b1.mono hbw.size)
   clear b1 e2 e3 e4 ck hbw
   go_wp2
   go_roundw
   case rel => exact ⟨j + 1, by omega, by go_num, rfl, B1.out⟩
   case measure => simp [intOf]; omega
  ·have hkl : j = n := by omega
   subst hkl
   go_wp2
   go_ret
   exact ⟨rfl, hbw⟩
open Go.Sort
noncomputable def pB (p : Prop) : Bool := @decide p (Classical.propDecidable _)
theorem pB_true {p : Prop} (h : p) : pB p = true := by simp [pB, h]
theorem pB_false {p : Prop} (h : ¬ p) : pB p = false := by simp [pB, h]
theorem specSameState_any (S T : S4) (ra oa ra' oa' : Option Addr) (rc oc rc' oc' : Nat) (w : World) (l1 : S.rs.length ≤ 1048576) (l2 : S.os.length ≤ 1048576) (_l3 : T.rs.length ≤ 1048576) (_l4 : T.os.length ≤ 1048576) (h1 : Sl w ra S.rs) (h2 : Sl w oa S.os) (h3 : Sl w ra' T.rs) (h4 : Sl w oa' T.os) :
  Calls Tryz.prog 77 #[stV S.p ra S.rs.length rc oa S.os.length oc S.c, stV T.p ra' T.rs.length rc' oa' T.os.length oc' T.c] w fun e w' => e = .returned (.bool (eqS S T)) ∧ Below w.heap.size w w' := by
 have l1' : (S.rs.length : Int) ≤ 1048576 := by omega
 have l2' : (S.os.length : Int) ≤ 1048576 := by omega
 have H1 : Hid (Sl w ra S.rs ∧ Sl w ra' T.rs) := ⟨h1, h3⟩
 have H2 : Hid (Sl w oa S.os ∧ Sl w oa' T.os) := ⟨h2, h4⟩
 clear h1 h2 h3 h4 l1 l2
 rcases Bool.eq_false_or_eq_true (S.p != T.p) with t1 | t1
 case inl =>
  have HE : Hid (eqS S T = false) := by
   show eqS S T = false
   have : (S.p == T.p) = false := by simpa using t1
   simp [eqS, this]
  go_enter Tryz.func77, Tryz.ntmps77
  go_wp2
  go_ret
  rw [HE.out]
  exact ⟨rfl, by go_grown⟩
 rcases Bool.eq_false_or_eq_true (S.c != T.c) with t2 | t2
 case inl =>
  have HE : Hid (eqS S T = false) := by
   show eqS S T = false
   have : (S.c == T.c) = false := by simpa using t2
   simp [eqS, this]
  go_enter Tryz.func77, Tryz.ntmps77
  go_wp2
  go_ret
  rw [HE.out]
  exact ⟨rfl, by go_grown⟩
 rcases Bool.eq_false_or_eq_true ((S.rs.length : Int) != (T.rs.length : Int)) with t3 | t3
 case inl =>
  have HE : Hid (eqS S T = false) := by
   show eqS S T = false
   have : (S.rs == T.rs) = false := by
    rw [beq_eq_false_iff_ne]
    intro e
    rw [e] at t3
    simp at t3
   simp [eqS, this]
  go_enter Tryz.func77, Tryz.ntmps77
  go_wp2
  go_ret
  rw [HE.out]
  exact ⟨rfl, by go_grown⟩
 rcases Bool.eq_false_or_eq_true ((S.os.length : Int) != (T.os.length : Int)) with t4 | t4
 case inl =>
  have HE : Hid (eqS S T = false) := by
   show eqS S T = false
   have : (S.os == T.os) = false := by
    rw [beq_eq_false_iff_ne]
    intro e
    rw [e] at t4
    simp at t4
   simp [eqS, this]
  go_enter Tryz.func77, Tryz.ntmps77
  go_wp2
  go_ret
  rw [HE.out]
  exact ⟨rfl, by go_grown⟩
 have HE : Hid (eqS S T = ((S.rs == T.rs) && (S.os == T.os)) ∧ S.rs.length = T.rs.length ∧ S.os.length = T.os.length) := by
  have e1 : (S.p == T.p) = true := by simpa using t1
  have e2 : (S.c == T.c) = true := by simpa using t2
  have e3 : S.rs.length = T.rs.length := by simp at t3; omega
  have e4 : S.os.length = T.os.length := by simp at t4; omega
  refine ⟨?_, e3, e4⟩
  show eqS S T = _
  simp [eqS, e1, e2]
 have N1 : Hid (BoxC ((w.alloc (oQ1 S.p ra S.rs.length rc oa S.os.length oc S.c)).alloc (oQ1 T.p ra' T.rs.length rc' oa' T.os.length oc' T.c)) w.heap.size (.int .i64 S.p) (.slice ra S.rs.length rc) (.slice oa S.os.length oc) (.int .i64 S.c)) := (BoxC.new w _ _ _ _ _).below (below_alloc _ _)
 have N2 : Hid (BoxC ((w.alloc (oQ1 S.p ra S.rs.length rc oa S.os.length oc S.c)).alloc (oQ1 T.p ra' T.rs.length rc' oa' T.os.length oc' T.c)) (w.heap.size + 1) (.int .i64 T.p) (.slice ra' T.rs.length rc') (.slice oa' T.os.length oc') (.int .i64 T.c)) := by
  have h := BoxC.new (w.alloc (oQ1 S.p ra S.rs.length rc oa S.os.length oc S.c)) (.int .i64 T.p) (.slice ra' T.rs.length rc') (.slice oa' T.os.length oc') (.int .i64 T.c) 123
  rw [World.size_alloc] at h
  exact h
 have NB : Hid (Below w.heap.size w ((w.alloc (oQ1 S.p ra S.rs.length rc oa S.os.length oc S.c)).alloc (oQ1 T.p ra' T.rs.length rc' oa' T.os.length oc' T.c))) := by
  show Below _ _ _
  go_grown
 go_enter Tryz.func77, Tryz.ntmps77
 go_wp2_with fail
 generalize (w.alloc (oQ1 S.p ra S.rs.length rc oa S.os.length oc S.c)).alloc (oQ1 T.p ra' T.rs.length rc' oa' T.os.length oc' T.c) = wb at *
 go_loopw [5] (fun i wr => ∃ k : Nat, k ≤ S.rs.length ∧ i = .int .i64 k ∧ Below wb.heap.size wb wr ∧ Hid (∀ j, j < k → zi S.rs j = zi T.rs j)) (fun i _ => S.rs.length - (intOf i).toNat)
 case atStart => exact ⟨0, Nat.zero_le _, rfl, Below.refl _ _, fun j hj => by omega⟩
 case round =>
  obtain ⟨k, hk, rfl, hbw, HZ⟩ := hrel
  have hw : Below w.heap.size w wr := NB.out.trans (hbw.mono NB.out.size)
  obtain ⟨n0, n1, n2, n3⟩ := N1.out.below hbw
  obtain ⟨m0, m1, m2, m3⟩ := N2.out.below hbw
  by_cases hlt : k < S.rs.length
  ·have hlt2 : k < T.rs.length := by have := HE.out; omega
   obtain ⟨b, off, rfl, hbl, ck⟩ := (H1.out.1.below hw).at hlt
   obtain ⟨b', off', rfl, hbl', ck'⟩ := (H1.out.2.below hw).at hlt2
   have hlt' : (k : Int) < (S.rs.length : Int) := by omega
   have hlt2' : (k : Int) < (T.rs.length : Int) := by omega
   clear hlt2
   rcases Bool.eq_false_or_eq_true (zi S.rs k != zi T.rs k) with t | t
   ·have HN : Hid (eqS S T = false) := by
     show eqS S T = false
     rw [HE.out.1]
     have : (S.rs == T.rs) = false := by
      rw [beq_eq_false_iff_ne]
      intro e
      rw [e] at t
      simp at t
     rw [this, Bool.false_and]
    go_wp2_with fail
    go_quiet (fail)
    go_wp2
    go_ret
    rw [HN.out]
    exact ⟨rfl, below_drewN hw _⟩
   ·have HZ' : Hid (∀ j, j < k + 1 → zi S.rs j = zi T.rs j) := fun j hj => by
     by_cases e : j = k
     ·subst e
      simpa using t
     ·exact HZ.out j (by omega)
    clear HZ
    go_wp2_with fail
    go_quiet (fail)
    go_wp2
    go_roundw
    case rel => exact ⟨k + 1, by omega, by go_num, below_drewN hbw _, HZ'.out⟩
    case measure => simp [intOf]; omega
  ·have HR : Hid ((S.rs == T.rs) = true) := by
    show (S.rs == T.rs) = true
    rw [beq_iff_eq]
    exact list_of_zi HE.out.2.1 fun j hj => HZ.out j (by omega)
   have hkl : k = S.rs.length := by omega
   subst hkl
   clear HZ hlt hk
   go_wp2_with fail
   clear n0 n1 n2 n3 m0 m1 m2 m3
   go_loopw [6] (fun i wr => ∃ k : Nat, k ≤ S.os.length ∧ i = .int .i64 k ∧ Below wb.heap.size wb wr ∧ Hid (∀ j, j < k → zi S.os j = zi T.os j)) (fun i _ => S.os.length - (intOf i).toNat)
   case atStart => exact ⟨0, Nat.zero_le _, rfl, hbw, fun j hj => by omega⟩
   case round =>
    clear hbw hw
    obtain ⟨k, hk, rfl, hbw, HZ⟩ := hrel
    have hw : Below w.heap.size w wr := NB.out.trans (hbw.mono NB.out.size)
    obtain ⟨n0, n1, n2, n3⟩ := N1.out.below hbw
    obtain ⟨m0, m1, m2, m3⟩ := N2.out.below hbw
    by_cases hlt : k < S.os.length
    ·have hlt2 : k < T.os.length := by have := HE.out; omega
     obtain ⟨b, off, rfl, hbl, ck⟩ := (H2.out.1.below hw).at hlt
     obtain ⟨b', off', rfl, hbl', ck'⟩ := (H2.out.2.below hw).at hlt2
     have hlt' : (k : Int) < (S.os.length : Int) := by omega
     have hlt2' : (k : Int) < (T.os.length : Int) := by omega
     clear hlt2
     rcases Bool.eq_false_or_eq_true (zi S.os k != zi T.os k) with t | t
     ·have HN : Hid (eqS S T = false) := by
       show eqS S T = false
       rw [HE.out.1]
       have : (S.os == T.os) = false := by
        rw [beq_eq_false_iff_ne]
        intro e
        rw [e] at t
        simp at t
       rw [this, Bool.and_false]
      go_wp2_with fail
      go_quiet (fail)
      go_wp2
      go_ret
      rw [HN.out]
      exact ⟨rfl, below_drewN hw _⟩
     ·have HZ' : Hid (∀ j, j < k + 1 → zi S.os j = zi T.os j) := fun j hj => by
       by_cases e : j = k
       ·subst e
        simpa using t
       ·exact HZ.out j (by omega)
      clear HZ
      go_wp2_with fail
      go_quiet (fail)
      go_wp2
      go_roundw
      case rel => exact ⟨k + 1, by omega, by go_num, below_drewN hbw _, HZ'.out⟩
      case measure => simp [intOf]; omega
    ·have HN : Hid (eqS S T = true) := by
      show eqS S T = true
      rw [HE.out.1, HR.out, Bool.true_and, beq_iff_eq]
      exact list_of_zi HE.out.2.2 fun j hj => HZ.out j (by omega)
     clear HZ
     go_wp2
     go_ret
     rw [HN.out]
     exact ⟨rfl, hw⟩
structure LWay (h : Nat → I2) (len : Nat) (sent : List Int) (t : Nat) : Prop where
 it : ∀ i, i < len → itemB (h i) = true
 le : len ≤ 12
 ln : sent.length = t + (numL h len).length
 eq : ∀ j, j < (numL h len).length → zi (numL h len) j = zi sent (t + j)
theorem zi_append_left {xs ys : List Int} {j : Nat} (h : j < xs.length) : zi (xs ++ ys) j = zi xs j := by
 simp [zi, List.getD_eq_getElem?_getD, List.getElem?_append_left h]
theorem zi_append_right {xs ys : List Int} {j : Nat} : zi (xs ++ ys) (xs.length + j) = zi ys j := by
 simp [zi, List.getD_eq_getElem?_getD, List.getElem?_append_right]
theorem LWay.iff {h : Nat → I2} {len : Nat} {took sent : List Int} : (LWay h len sent took.length ∧ ∀ i, i < took.length → zi took i = zi sent i) ↔ WayP h len took sent := by
 refine ⟨fun ⟨a, b⟩ => ⟨a.it, a.le, ?_⟩, fun a => ⟨⟨a.it, a.le, by rw [← a.eq, List.length_append], fun j _ => by rw [← a.eq, zi_append_right]⟩, fun i hi => by rw [← a.eq, zi_append_left hi]⟩⟩
 refine list_of_zi (by rw [List.length_append, a.ln]) fun j hj => ?_
 by_cases hl : j < took.length
 ·rw [zi_append_left hl, b j hl]
 ·rw [List.length_append] at hj
  have e : j = took.length + (j - took.length) := by omega
  rw [e, zi_append_right]
  exact a.eq _ (by omega)
theorem l4Way_any (a : Option Addr) (len cap : Nat) (h : Nat → I2) (sa : Option Addr) (sc : Nat) (sent : List Int) (t : Nat) (w : World) (hlen : len ≤ 1048576) (hc : ItL w a len h) (hs : sent.length ≤ 1048576) (hS : Sl w sa sent) (ht : t ≤ 1048576) :
  Calls Tryz.prog 79 #[.slice a len cap, .slice sa sent.length sc, .int .i64 t] w fun e w' => e = .returned (.bool (pB (LWay h len sent t))) ∧ Below w.heap.size w w' := by
 have hl' : (len : Int) ≤ 1048576 := by omega
 have hs' : (sent.length : Int) ≤ 1048576 := by omega
 have ht' : (t : Int) ≤ 1048576 := by omega
 have HC : Hid (ItL w a len h) := hc
 have HS : Hid (Sl w sa sent) := hS
 clear hc hS
 go_enter Tryz.func79, Tryz.ntmps79
 go_wp2_with fail
 go_loopw [7] (fun i wr => ∃ k : Nat, k ≤ len ∧ i = .int .i64 k ∧ Below w.heap.size w wr ∧ Hid (∀ j, j < k → itemB (h j) = true)) (fun i _ => len - (intOf i).toNat)
 case atStart => exact ⟨0, Nat.zero_le _, rfl, Below.refl _ _, fun j hj => by omega⟩
 case round =>
  obtain ⟨k, hk, rfl, hbw, HZ⟩ := hrel
  by_cases hlt : k < len
  ·have hlt' : (k : Int) < (len : Int) := by omega
   obtain ⟨b, off, rfl, -, c0, c1⟩ := (HC.out.below hbw).at hlt
   have hN : ∀ {x : Bool}, inB (h k).v (-1000000000) 1000000000 = x → numB (h k).v = x := fun e => e
   rcases Bool.eq_false_or_eq_true (inB (h k).v (-1000000000) 1000000000) with t1 | t1
   ·have go_on : itemB (h k) = true → Hid (∀ j, j < k + 1 → itemB (h j) = true) := fun t j hj => by
     by_cases e : j = k
     ·subst e
      exact t
     ·exact HZ.out j (by omega)
    have stop : itemB (h k) = false → Hid (pB (LWay h len sent t) = false) := fun t => pB_false fun x => by
     have := x.it k hlt
     rw [t] at this
     cases this
    rcases Bool.eq_false_or_eq_true (h k).m with t2 | t2
    ·rcases Bool.eq_false_or_eq_true ((h k).v != 0) with t3 | t3
     ·have HN := stop (by
       have : ((h k).v == 0) = false := by simpa using t3
       simp [itemB, t2, this])
      rw [t2] at c0
      clear go_on stop HZ hN
      go_wp2_with fail
      refine (l1Num_any _ _).mono ?_
      rintro e w1 ⟨rfl, rfl⟩
      rw [t1]
      go_wp2
      go_ret
      rw [HN.out]
      exact ⟨rfl, hbw⟩
     ·have HZ' := go_on (by
       have : ((h k).v == 0) = true := by simpa using t3
       simp [itemB, hN t1, this])
      rw [t2] at c0
      clear go_on stop HZ hN
      go_wp2_with fail
      refine (l1Num_any _ _).mono ?_
      rintro e w1 ⟨rfl, rfl⟩
      rw [t1]
      go_wp2
      go_roundw
      case rel => exact ⟨k + 1, by omega, by go_num, hbw, HZ'.out⟩
      case measure => simp [intOf]; omega
    ·have HZ' := go_on (by simp [itemB, hN t1, t2])
     rw [t2] at c0
     clear go_on stop HZ hN
     go_wp2_with fail
     refine (l1Num_any _ _).mono ?_
     rintro e w1 ⟨rfl, rfl⟩
     rw [t1]
     go_wp2
     go_roundw
     case rel => exact ⟨k + 1, by omega, by go_num, hbw, HZ'.out⟩
     case measure => simp [intOf]; omega
   ·have HN : Hid (pB (LWay h len sent t) = false) := pB_false fun x => by
     have := x.it k hlt
     simp [itemB, hN t1] at this
    clear HZ hN
    go_wp2_with fail
    refine (l1Num_any _ _).mono ?_
    rintro e w1 ⟨rfl, rfl⟩
    rw [t1]
    go_wp2
    go_ret
    rw [HN.out]
    exact ⟨rfl, hbw⟩
  ·have HZ' : Hid (∀ j, j < len → itemB (h j) = true) := fun j hj => HZ.out j (by omega)
   have hkl : k = len := by omega
   subst hkl
   clear HZ hlt hk
   go_wp2_with fail
   refine (specNumbers_l a k cap h wr hlen (HC.out.below hbw)).mono ?_
   rintro e w1 ⟨v, rfl, o1, b1⟩
   obtain ⟨na, nc, rfl, s1⟩ := o1.form
   have B1 : Hid (Below w.heap.size w w1) := hbw.trans (b1.mono hbw.size)
   have S1 : Hid (Sl w1 na (numL h k)) := s1
   have hnl := numL_le h k
   have hnl' : ((numL h k).length : Int) ≤ 1048576 := by omega
   clear o1 b1 s1 hbw
   generalize hNU : numL h k = nu at *
   have HNU : Hid (numL h k = nu) := hNU
   clear hNU hnl
   by_cases h12 : k ≤ 12
   case neg =>
    have h12' : (12 : Int) < (k : Int) := by omega
    have HN : Hid (pB (LWay h k sent t) = false) := pB_false fun x => h12 x.le
    go_wp2
    go_ret
    rw [HN.out]
    exact ⟨rfl, B1.out⟩
   have h12' : ¬ (12 : Int) < (k : Int) := by omega
   rcases Bool.eq_false_or_eq_true (((sent.length : Int) - (t : Int)) != (nu.length : Int)) with t5 | t5
   ·have HN : Hid (pB (LWay h k sent t) = false) := pB_false fun x => by
     have := x.ln
     rw [HNU.out] at this
     rw [this] at t5
     simp at t5
     omega
    go_wp2
    go_ret
    rw [HN.out]
    exact ⟨rfl, B1.out⟩
   have HLN : Hid (sent.length = t + nu.length) := by
    show sent.length = t + nu.length
    simp at t5
    omega
   go_wp2_with fail
   go_loopw [9] (fun i wr => ∃ j : Nat, j ≤ nu.length ∧ i = .int .i64 j ∧ Below w1.heap.size w1 wr ∧ Hid (∀ i, i < j → zi nu i = zi sent (t + i))) (fun i _ => nu.length - (intOf i).toNat)
   case atStart => exact ⟨0, Nat.zero_le _, rfl, Below.refl _ _, fun j hj => by omega⟩
   case round =>
    obtain ⟨j, hj, rfl, hbw, HZ⟩ := hrel
    have hw : Below w.heap.size w wr := B1.out.trans (hbw.mono B1.out.size)
    by_cases hlt : j < nu.length
    ·have hlt2 : t + j < sent.length := by have := HLN.out; omega
     obtain ⟨b, off, rfl, hbl, ck⟩ := (S1.out.below hbw).at hlt
     obtain ⟨b', off', rfl, hbl', ck'⟩ := (HS.out.below hw).at hlt2
     have hlt' : (j : Int) < (nu.length : Int) := by omega
     have hlt2' : (t : Int) + (j : Int) < (sent.length : Int) := by omega
     have hq : ((t : Int) + (j : Int)).toNat = t + j := by omega
     clear hlt2
     rcases Bool.eq_false_or_eq_true (zi nu j != zi sent (t + j)) with t6 | t6
     ·have HN : Hid (pB (LWay h k sent t) = false) := pB_false fun x => by
       have := x.eq j (by rw [HNU.out]; exact hlt)
       rw [HNU.out] at this
       rw [this] at t6
       simp at t6
      go_wp2_with fail
      go_quiet (fail)
      go_wp2
      go_ret
      rw [HN.out]
      exact ⟨rfl, below_drewN hw _⟩
     ·have HZ2 : Hid (∀ i, i < j + 1 → zi nu i = zi sent (t + i)) := fun i hi => by
       by_cases e : i = j
       ·subst e
        simpa using t6
       ·exact HZ.out i (by omega)
      clear HZ
      go_wp2_with fail
      go_quiet (fail)
      go_wp2
      go_roundw
      case rel => exact ⟨j + 1, by omega, by go_num, below_drewN hbw _, HZ2.out⟩
      case measure => simp [intOf]; omega
    ·have HN : Hid (pB (LWay h k sent t) = true) := pB_true ⟨HZ'.out, h12, by rw [HNU.out]; exact HLN.out, fun i hi => by
      rw [HNU.out] at hi ⊢
      exact HZ.out i (by omega)⟩
     clear HZ
     go_wp2
     go_ret
     rw [HN.out]
     exact ⟨rfl, hw⟩
theorem LL.weak {z : Bool} {e : TypeId} {sz : Nat} {E : TypeId} {w : World} {P : Nat → Prop} {v : Value} {n : Nat} {u : Nat → Value} {L : Nat → Nat} {c : Nat → List Value} (o : LL z e sz E w P v n u L c) : LL false e sz E w P v n u L c :=
 ⟨o.row, o.own, o.rb, o.ob, o.ra, o.oa, fun h i hi => o.nn (h.elim (fun h => by cases h) .inr) i hi⟩
theorem OwnS.weak {z : Bool} {w : World} {B : Nat} {c : Nat → Nat} {y : Sy} {vp vs vw vh : Value} {up us uw uh : Nat → Value} (o : OwnS z w B c y vp vs vw vh up us uw uh) : OwnS false w B c y vp vs vw vh up us uw uh := ⟨o.p.weak, o.s, o.t.weak, o.h.weak⟩
theorem ZL.ll {e : TypeId} {sz : Nat} {E : TypeId} {w : World} {P : Nat → Prop} {v : Value} {n : Nat} (o : ZL E w P v n) (he : e ≠ 149) (c : Nat → List Value) (hc : ∀ i, c i = []) : LL false e sz E w P v n (fun _ => .slice none 0 0) (fun _ => 0) c :=
 ⟨(by rw [List.map_const']; simpa using o.row), fun i _ => by rw [hc]; exact World.ownsRow_nil _ _ _ _, o.rb, fun i _ k hk => (by cases hk), fun i _ k hk => (by cases hk), fun i j _ _ _ k hk => (by cases hk), fun h _ _ => h.elim (fun h => by cases h) (fun h => absurd h he)⟩
end Go.Proofs.YtfdanemmefckpaaGreatDoor
