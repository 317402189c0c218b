/- The walks of the model's l4SameState and l4Way. -/
import Derived.Test.YtdmpcnmbnfdfmaaGreatDoorFc0
import Derived.Test.YtdmpcnmbnfdfmaaGreatDoorFc34
import Derived.Test.YtdmpcnmbnfdfmaaGreatDoorFc37
import Derived.Test.YtdmpcnmbnfdfmaaGreatDoorFc36
import Derived.Lib.QuietBelow
namespace Go.Proofs.YtdmpcnmbnfdfmaaGreatDoor
set_option maxRecDepth 100000
set_option maxHeartbeats 4000000
open Go.RowKit Go.Deep
theorem l1Max_any (a b : Int) (w : World) : Calls Tryz.prog 17 #[.int .i64 a, .int .i64 b] w fun e w' => ∃ z : Int, e = .returned (.int .i64 z) ∧ (a ≤ z ∧ b ≤ z ∧ (z = a ∨ z = b)) ∧ w' = w := by
 by_cases t : b < a
 ·go_enter Tryz.func17, Tryz.ntmps17
  go_wp2
  go_ret
  exact ⟨_, rfl, by omega, rfl⟩
 ·go_enter Tryz.func17, Tryz.ntmps17
  go_wp2
  go_ret
  exact ⟨_, rfl, by omega, rfl⟩
theorem l1Min_any (a b : Int) (w : World) : Calls Tryz.prog 18 #[.int .i64 a, .int .i64 b] w fun e w' => ∃ z : Int, e = .returned (.int .i64 z) ∧ (z ≤ a ∧ z ≤ b ∧ (z = a ∨ z = b)) ∧ w' = w := by
 by_cases t : a < b
 ·go_enter Tryz.func18, Tryz.ntmps18
  go_wp2
  go_ret
  exact ⟨_, rfl, by omega, rfl⟩
 ·go_enter Tryz.func18, Tryz.ntmps18
  go_wp2
  go_ret
  exact ⟨_, rfl, by omega, rfl⟩
structure DrN (w wr : World) (W0 len cap : Nat) (a0 : Option Addr) (c : Nat) (v : Value) (k : Nat) : Prop where
 ll : ∃ u L H, LI wr (fun b => c < b) v k u L H ∧ ∀ i, i < k → L i ≤ 31
 cu : Cur wr W0 c a0 len cap
 gr : w.grownBy wr none
 nn : v ≠ .slice none 0 0
theorem DrN.start {w wr : World} {W0 len cap c : Nat} {a0 : Option Addr} (hc : Cur wr W0 c a0 len cap) (hg : w.grownBy wr none) : DrN w (wr.alloc (.cells #[] 47)) W0 len cap a0 c (.slice (some ⟨wr.heap.size, 0, none⟩) 0 0) 0 :=
 ⟨⟨fun _ => .slice none 0 0, fun _ => 0, fun _ _ => ⟨0, 0, 0, 0, 0⟩, LL.new _ _ _ _ _ hc.lt _ _ _, fun i hi => by omega⟩, hc.alloc _, hg.trans (World.grownBy_alloc _ _ _), fun e => by cases e⟩
theorem DrN.draw {w wr w' : World} {W0 len cap c k : Nat} {a0 : Option Addr} {v : Value} (h : DrN w wr W0 len cap a0 c v k) (hW : w.heap.size ≤ c) (hc : Cur w' W0 c a0 len cap) (hg : wr.grownBy w' (some c)) : DrN w w' W0 len cap a0 c v k := by
 obtain ⟨⟨u, L, H, hl, h31⟩, -, gr, nn⟩ := h
 exact ⟨⟨u, L, H, hl.keep fun b hb hlt => hg.block b hlt (by simp; omega), h31⟩, hc, gr.andThen hg (fun j hj => by cases hj; exact .inl hW), nn⟩
theorem DrN.alloc {w wr : World} {W0 len cap c k : Nat} {a0 : Option Addr} {v : Value} (h : DrN w wr W0 len cap a0 c v k) (o : Obj) : DrN w (wr.alloc o) W0 len cap a0 c v k := by
 obtain ⟨⟨u, L, H, hl, h31⟩, cu, gr, nn⟩ := h
 exact ⟨⟨u, L, H, hl.below (below_allocL _ _), h31⟩, cu.alloc _, gr.trans (World.grownBy_alloc _ _ _), nn⟩
theorem DrN.push {w wr w1 w2 : World} {W0 len cap c k m : Nat} {a0 : Option Addr} {v v' x : Value} {u : Nat → Value} {L : Nat → Nat} {H : Nat → Nat → I5} (hl : LI wr (fun b => c < b) v k u L H) (h31 : ∀ i, i < k → L i ≤ 31) (g0 : w.grownBy wr none) (hW : w.heap.size ≤ c) (hc0 : c < wr.heap.size) (g1 : wr.grownBy w1 (some c)) (hc1 : Cur w1 W0 c a0 len cap) (hx : Lst w1 wr.heap.size x m) (hm : m ≤ 31) (hne : x ≠ .slice none 0 0)
  (hv : w2.ownsRow 0 47 1 v' (k + 1) ((List.range k).map u ++ [x])) (g2 : w1.grownBy w2 v.ownBlock) (hv' : ∀ j, v'.ownBlock = some j → v.ownBlock = some j ∨ w1.heap.size ≤ j) (hn' : v' ≠ .slice none 0 0) : DrN w w2 W0 len cap a0 c v' (k + 1) := by
 obtain ⟨G, hG⟩ := hx.known
 have hvb : ∀ j, v.ownBlock = some j → c < j := hl.rb
 refine ⟨⟨_, fun j => if j = k then m else L j, fun j => if j = k then G else H j, (LL.ext (L' := fun j => if j = k then m else L j) (c' := fun i => fI (if i = k then G else H i) (if i = k then m else L i)) hl fun i hi => ?_).pushG g1.size (fun b hb hlt => g1.block b hlt (by simp; omega)) ?_ hne hv g2 hv' (fun b hb _ => hb) (fun b hb _ => by omega), fun i hi => ?_⟩, hc1.kept g2 (fun e => ?_) (fun j hj => ?_), (g0.andThen g1 (fun j hj => by cases hj; exact .inl hW)).andThen g2 (fun j hj => .inl ?_), hn'⟩
 ·simp only [if_neg (show ¬ i = k by omega), and_self]
 ·simp only [if_true]
  exact hG
 ·show (if i = k then m else L i) ≤ 31
  by_cases e : i = k
  ·rw [if_pos e]
   exact hm
  ·rw [if_neg e]
   exact h31 i (by omega)
 ·have := hvb c e.symm
  omega
 ·have := hvb j hj
  have := hc1.ge
  omega
 ·have := hvb j hj
  omega
theorem append_prog {ops : Array Oper} {rest : List Oper} {op : Oper} {act : Act} {Q : Exit → Act → World → Prop} {w wr : World} (w1 : World) {W0 len cap c k m N : Nat} {a0 : Option Addr} {v y : Value} (hN : N = w1.heap.size) (hgd : op.guard = none) (s x : Operand)
  (ho : op.op = .call { callee := .builtin .append, args := #[s, x], argTypes := #[24, 24] }) (hs : act.eval s = v) (hxv : act.eval x = .slice (some ⟨N, 0, none⟩) 1 1)
  (DR : DrN w wr W0 len cap a0 c v k) (hW : w.heap.size ≤ c) (hk : k ≤ 5) (g1 : wr.grownBy w1 (some c)) (hc1 : Cur w1 W0 c a0 len cap) (hx : Lst w1 wr.heap.size y m) (hm : m ≤ 31) (hne : y ≠ .slice none 0 0)
  (h : ∀ v' w', DrN w w' W0 len cap a0 c v' (k + 1) → wpList Tryz.prog ops Q rest (act.put op.dst v') w') :
  wpList Tryz.prog ops Q (op :: rest) act (w1.alloc (.cells #[y] 47)) := by
 obtain ⟨u, L, H, hl, h31⟩ := DR.ll
 have hone : ∀ z ∈ (#[y] : Array Value).toList, z.oneCell' = true := by
  intro z hz
  simp at hz
  rw [hz]
  obtain ⟨xs, ho, _⟩ := hx
  rcases ho.2 with ⟨e, _⟩ | ⟨g, cp, cur, e, _⟩
  ·exact absurd e hne
  ·rw [e]
   rfl
 refine step_append_val kndII w1 hN hgd s x ho 0 v k ((List.range k).map u) hs (ownsRow_blkL hl.row fun b hb => g1.block b (hl.row.lt b hb).2 (by have := hl.rb b hb; simp; omega)) #[y] hxv rfl hone (by omega) (Nat.zero_le _) ?_
 intro v' w' o g hv' hn'
 exact h v' w' (DrN.push hl h31 DR.gr hW DR.cu.lt g1 hc1 hx hm hne o g hv' hn')
def DrawnN (w : World) (e : Ending) (w' : World) : Prop := ∃ (pa : Option Addr) (k pc : Nat) (A : Nat → Option Addr) (L C : Nat → Nat) (H : Nat → Nat → I5), e = .returned (.slice pa k pc) ∧ k ≤ 5 ∧ (∀ i, i < k → L i ≤ 31) ∧ (RowS w' pa k fun i => .slice (A i) (L i) (C i)) ∧ (∀ i, i < k → ∃ b, A i = some ⟨b, 0, none⟩ ∧ b < w'.heap.size ∧ InsAt w' b 0 (L i) (H i)) ∧ Below w.heap.size w w'
theorem DrN.done {w wr : World} {W0 len cap c k : Nat} {a0 : Option Addr} {v : Value} (h : DrN w wr W0 len cap a0 c v k) (hk : k ≤ 5) : DrawnN w (.returned v) wr := by
 obtain ⟨⟨u, L, H, hl, h31⟩, -, gr, nn⟩ := h
 have hr := rowS_of hl
 rcases hl.row.2 with ⟨e, _⟩ | ⟨g, pc, cur, rfl, _⟩
 ·exact absurd e nn
 ·refine ⟨_, k, pc, fun i => adOf (u i), L, fun i => cpOf (u i), H, rfl, hk, h31, hr, fun i hi => ?_, below_of_grown gr⟩
  obtain ⟨b, cap, eu, hb, hI, -⟩ := atI (hl.own i hi) (hl.nn i hi)
  exact ⟨b, by show adOf (u i) = _; rw [eu]; rfl, hb, hI⟩
def pick05 (j : Nat) : Int := [(0 : Int), 5].getD j 0
theorem pick05_at (w : World) : IntsAt (w.alloc (.cells #[.int .i64 0, .int .i64 5] 3)) w.heap.size 2 pick05 := by
 intro j hj
 match j, hj with
 | 0, _ => simp [pick05]
 | 1, _ => simp [pick05]
theorem DrawSysNew_any (W0 len cap : Nat) (a0 : Option Addr) (w : World) (hB : BytesAt w W0 a0 len) (hW : W0 ≤ w.heap.size) (ln : len ≤ 1048576) :
  Calls Tryz.prog 5 #[.slice a0 len cap] w (DrawnN w) := by
 have HB : Hid (BytesAt w W0 a0 len) := hB
 clear hB
 go_enter Tryz.func5, Tryz.ntmps5
 go_wp2_with fail
 refine (l1New_any W0 len cap a0 _ HB.out hW ln).mono ?_
 rintro e w1 ⟨rfl, hc1, hg1⟩
 have D1 : Hid (DrN w (w1.alloc (.cells #[] 47)) W0 len cap a0 w.heap.size (.slice (some ⟨w1.heap.size, 0, none⟩) 0 0) 0) := DrN.start hc1 hg1
 clear hc1 hg1 HB
 go_wp2_with fail
 refine (l1Below_any W0 w.heap.size len cap a0 _ _ D1.out.cu (by omega) (by omega)).mono ?_
 rintro e w2 ⟨y, rfl, ⟨y0, y1⟩, hc2, hg2⟩
 have D2 : Hid (DrN w w2 W0 len cap a0 w.heap.size (.slice (some ⟨w1.heap.size, 0, none⟩) 0 0) 0) := D1.out.draw (Nat.le_refl _) hc2 hg2
 clear hc2 hg2 D1
 go_wp2_with fail
 refine (l1Once_any W0 w.heap.size len cap a0 _ _ D2.out.cu (by omega) (by omega)).mono ?_
 rintro e w3 ⟨b, rfl, hc3, hg3⟩
 have D3 : Hid (DrN w w3 W0 len cap a0 w.heap.size (.slice (some ⟨w1.heap.size, 0, none⟩) 0 0) 0) := D2.out.draw (Nat.le_refl _) hc3 hg3
 clear hc3 hg3 D2
 rcases b with _ | _
 ·obtain ⟨n, hn, hn5⟩ : ∃ n : Nat, 1 + y = (n : Int) ∧ n ≤ 5 := ⟨(1 + y).toNat, by omega, by omega⟩
  have D4 : Hid (DrN w w3 W0 len cap a0 w.heap.size (.slice (some ⟨w1.heap.size, 0, none⟩) 0 0) 0) := D3
  rw [hn]
  clear D3 hn y0 y1
  go_wp2_with fail
  have hn5' : (n : Int) ≤ 5 := by omega
  have hcc : w.heap.size ≤ w.heap.size := Nat.le_refl _
  go_loopw [4, 6] (fun out i wr => ∃ k : Nat, k ≤ n ∧ i = .int .i64 k ∧ Hid (DrN w wr W0 len cap a0 w.heap.size out k)) (fun _ i _ => n - (intOf i).toNat)
  case atStart => exact ⟨0, Nat.zero_le _, rfl, D4⟩
  case round =>
   obtain ⟨k, hk, rfl, HR⟩ := hrel
   by_cases hlt : k < n
   ·have hlt' : (k : Int) < (n : Int) := by omega
    go_wp2_with fail
    refine (l1Min_any _ _ _).mono ?_
    rintro e wy ⟨z, rfl, hz, rfl⟩
    go_wp2_with fail
    refine (l1Max_any _ _ _).mono ?_
    rintro e wz ⟨P, rfl, hP, rfl⟩
    have hP1 : 1 ≤ P := hP.2.1
    have hP4 : P ≤ 4 := by omega
    clear hP hz
    go_wp2_with fail
    refine (l1DrawProg_gen W0 w.heap.size len cap a0 P 0 _ HR.out.cu (by omega) (by omega) hP4).mono ?_
    rintro e w5 ⟨x, m, rfl, ⟨m1, m2⟩, l5, c5, g5⟩
    obtain ⟨gx, cx, rfl, -⟩ := l5.form (by omega)
    have X5 : Hid (Lst w5 wz.heap.size (.slice (some ⟨gx, 0, none⟩) m cx) m ∧ Cur w5 W0 w.heap.size a0 len cap ∧ wz.grownBy w5 (some w.heap.size)) := ⟨l5, c5, g5⟩
    clear l5 c5 g5
    go_wp2_with fail
    refine (l1Once_any W0 w.heap.size len cap a0 _ _ X5.out.2.1 (by omega) (by omega)).mono ?_
    rintro e w6 ⟨b, rfl, c6, g6⟩
    have X6 : Hid (Cur w6 W0 w.heap.size a0 len cap ∧ wz.grownBy w6 (some w.heap.size)) := ⟨c6, X5.out.2.2.trans g6⟩
    have L6 : Hid (Lst w6 wz.heap.size (.slice (some ⟨gx, 0, none⟩) m cx) m) := X5.out.1.kept g6 (fun j e => by cases e; exact HR.out.cu.lt)
    clear c6 g6 X5
    rcases b with _ | _
    ·go_wp2_with (at_builtin; refine append_prog w6 rfl rfl _ _ rfl rfl rfl HR.out hcc (by omega) X6.out.2 X6.out.1 L6.out (by omega) (fun e => by cases e) ?_; intro v' w8 hd8; have H8 : Hid (DrN w w8 W0 len cap a0 w.heap.size v' (k + 1)) := hd8; clear hd8)
     go_roundw
     case rel => exact ⟨k + 1, by omega, by go_num, H8⟩
     case measure => simp [intOf]; omega
    ·go_wp2_with fail
     refine (l1DrawAny_any W0 w.heap.size len cap a0 _ X6.out.1).mono ?_
     rintro e w7 ⟨g, m', gc, rfl, hm', hw⟩
     have X7 : Hid (Cur w7 W0 w.heap.size a0 len cap ∧ wz.grownBy w7 (some w.heap.size) ∧ Lst w7 wz.heap.size (.slice (some ⟨g, 0, none⟩) m' gc) m') := ⟨hw.2.1, X6.out.2.trans hw.2.2, hw.1.mono X6.out.2.size⟩
     clear hw X6 L6
     go_wp2_with (at_builtin; refine append_prog w7 rfl rfl _ _ rfl rfl rfl HR.out hcc (by omega) X7.out.2.1 X7.out.1 X7.out.2.2 hm' (fun e => by cases e) ?_; intro v' w8 hd8; have H8 : Hid (DrN w w8 W0 len cap a0 w.heap.size v' (k + 1)) := hd8; clear hd8)
     go_roundw
     case rel => exact ⟨k + 1, by omega, by go_num, H8⟩
     case measure => simp [intOf]; omega
   ·have hlt' : ¬ (k : Int) < (n : Int) := by omega
    go_wp2
    go_ret
    exact HR.out.done (by omega)
 ·have hs3 := D3.out.cu.lt
  go_wp2_with fail
  refine (l1PickInt_of W0 w.heap.size len cap w3.heap.size 2 2 a0 pick05 _ (D3.out.cu.alloc _) (by omega) (by omega) (by simp) (by omega) (pick05_at w3)).mono ?_
  rintro e w4 ⟨j, hj, rfl, hc4, hg4⟩
  obtain ⟨n, hn, hn5⟩ : ∃ n : Nat, pick05 j = (n : Int) ∧ n ≤ 5 := by
   match j, hj with
   | 0, _ => exact ⟨0, rfl, by omega⟩
   | 1, _ => exact ⟨5, rfl, by omega⟩
  rw [hn]
  have D4 : Hid (DrN w w4 W0 len cap a0 w.heap.size (.slice (some ⟨w1.heap.size, 0, none⟩) 0 0) 0) := (D3.out.alloc _).draw (Nat.le_refl _) hc4 hg4
  clear hc4 hg4 D3 hn hj hs3 y0 y1
  go_wp2_with fail
  have hn5' : (n : Int) ≤ 5 := by omega
  have hcc : w.heap.size ≤ w.heap.size := Nat.le_refl _
  go_loopw [4, 6] (fun out i wr => ∃ k : Nat, k ≤ n ∧ i = .int .i64 k ∧ Hid (DrN w wr W0 len cap a0 w.heap.size out k)) (fun _ i _ => n - (intOf i).toNat)
  case atStart => exact ⟨0, Nat.zero_le _, rfl, D4⟩
  case round =>
   obtain ⟨k, hk, rfl, HR⟩ := hrel
   by_cases hlt : k < n
   ·have hlt' : (k : Int) < (n : Int) := by omega
    go_wp2_with fail
    refine (l1Min_any _ _ _).mono ?_
    rintro e wy ⟨z, rfl, hz, rfl⟩
    go_wp2_with fail
    refine (l1Max_any _ _ _).mono ?_
    rintro e wz ⟨P, rfl, hP, rfl⟩
    have hP1 : 1 ≤ P := hP.2.1
    have hP4 : P ≤ 4 := by omega
    clear hP hz
    go_wp2_with fail
    refine (l1DrawProg_gen W0 w.heap.size len cap a0 P 0 _ HR.out.cu (by omega) (by omega) hP4).mono ?_
    rintro e w5 ⟨x, m, rfl, ⟨m1, m2⟩, l5, c5, g5⟩
    obtain ⟨gx, cx, rfl, -⟩ := l5.form (by omega)
    have X5 : Hid (Lst w5 wz.heap.size (.slice (some ⟨gx, 0, none⟩) m cx) m ∧ Cur w5 W0 w.heap.size a0 len cap ∧ wz.grownBy w5 (some w.heap.size)) := ⟨l5, c5, g5⟩
    clear l5 c5 g5
    go_wp2_with fail
    refine (l1Once_any W0 w.heap.size len cap a0 _ _ X5.out.2.1 (by omega) (by omega)).mono ?_
    rintro e w6 ⟨b, rfl, c6, g6⟩
    have X6 : Hid (Cur w6 W0 w.heap.size a0 len cap ∧ wz.grownBy w6 (some w.heap.size)) := ⟨c6, X5.out.2.2.trans g6⟩
    have L6 : Hid (Lst w6 wz.heap.size (.slice (some ⟨gx, 0, none⟩) m cx) m) := X5.out.1.kept g6 (fun j e => by cases e; exact HR.out.cu.lt)
    clear c6 g6 X5
    rcases b with _ | _
    ·go_wp2_with (at_builtin; refine append_prog w6 rfl rfl _ _ rfl rfl rfl HR.out hcc (by omega) X6.out.2 X6.out.1 L6.out (by omega) (fun e => by cases e) ?_; intro v' w8 hd8; have H8 : Hid (DrN w w8 W0 len cap a0 w.heap.size v' (k + 1)) := hd8; clear hd8)
     go_roundw
     case rel => exact ⟨k + 1, by omega, by go_num, H8⟩
     case measure => simp [intOf]; omega
    ·go_wp2_with fail
     refine (l1DrawAny_any W0 w.heap.size len cap a0 _ X6.out.1).mono ?_
     rintro e w7 ⟨g, m', gc, rfl, hm', hw⟩
     have X7 : Hid (Cur w7 W0 w.heap.size a0 len cap ∧ wz.grownBy w7 (some w.heap.size) ∧ Lst w7 wz.heap.size (.slice (some ⟨g, 0, none⟩) m' gc) m') := ⟨hw.2.1, X6.out.2.trans hw.2.2, hw.1.mono X6.out.2.size⟩
     clear hw X6 L6
     go_wp2_with (at_builtin; refine append_prog w7 rfl rfl _ _ rfl rfl rfl HR.out hcc (by omega) X7.out.2.1 X7.out.1 X7.out.2.2 hm' (fun e => by cases e) ?_; intro v' w8 hd8; have H8 : Hid (DrN w w8 W0 len cap a0 w.heap.size v' (k + 1)) := hd8; clear hd8)
     go_roundw
     case rel => exact ⟨k + 1, by omega, by go_num, H8⟩
     case measure => simp [intOf]; omega
   ·have hlt' : ¬ (k : Int) < (n : Int) := by omega
    go_wp2
    go_ret
    exact HR.out.done (by omega)
open Go.ChangeShapes Go.WideShapes Go.ChangeAt Go.Sort
theorem list_of_zi {xs ys : List Int} (hl : xs.length = ys.length) (h : ∀ j, j < xs.length → zi xs j = zi ys j) : xs = ys := by
 refine List.ext_getElem hl fun i h1 h2 => ?_
 have := h i h1
 simpa [zi, List.getD_eq_getElem?_getD, List.getElem?_eq_getElem h1, List.getElem?_eq_getElem h2] using this
theorem equal_any (a0 a1 : Option Addr) (c0 c1 : Nat) (xs ys : List Int) (w : World) (hx : xs.length ≤ 1048576) (hy : ys.length ≤ 1048576) (h0 : Sl w a0 xs) (h1 : Sl w a1 ys) :
  Calls Tryz.prog 48 #[.slice a0 xs.length c0, .slice a1 ys.length c1] w fun e w' => e = .returned (.bool (xs == ys)) ∧ Below w.heap.size w w' := by
 have hl' : (xs.length : Int) ≤ 1048576 := by omega
 have hl2 : (ys.length : Int) ≤ 1048576 := by omega
 by_cases hl : xs.length = ys.length
 ·have H0 : Hid (Sl w a0 xs) := h0
  have H1 : Hid (Sl w a1 ys) := h1
  have HL : Hid (xs.length = ys.length) := hl
  rw [← hl]
  clear h0 h1 hl hy hl2
  go_enter Tryz.func48, Tryz.ntmps48
  go_wp2_with fail
  go_loopw [13] (fun i wr => ∃ k : Nat, k ≤ xs.length ∧ i = .int .i64 k ∧ Below w.heap.size w wr ∧ Hid (∀ j, j < k → zi xs j = zi ys j)) (fun i _ => xs.length - (intOf i).toNat)
  case atStart => exact ⟨0, Nat.zero_le _, rfl, Below.refl _ _, fun j hj => by omega⟩
  case round =>
   obtain ⟨k, hk, rfl, hbw, HZ⟩ := hrel
   by_cases hlt : k < xs.length
   ·have hlt2 : k < ys.length := by have := HL.out; omega
    obtain ⟨b, off, rfl, hbl, ck⟩ := (H0.out.below hbw).at hlt
    obtain ⟨b', off', rfl, hbl', ck'⟩ := (H1.out.below hbw).at hlt2
    have hlt' : (k : Int) < (xs.length : Int) := by omega
    clear hlt2
    rcases Bool.eq_false_or_eq_true (zi xs k != zi ys k) with t | t
    ·have HN : Hid ((xs == ys) = false) := by
      show (xs == ys) = false
      rw [beq_eq_false_iff_ne]
      intro e
      rw [e] at t
      simp at t
     go_wp2_with fail
     go_quiet (fail)
     go_wp2
     go_ret
     rw [HN.out]
     exact ⟨rfl, below_drewN hbw _⟩
    ·have HZ' : Hid (∀ j, j < k + 1 → zi xs j = zi ys j) := fun j hj => by
      by_cases e : j = k
      ·subst e
       simpa using t
      ·exact HZ.out j (by omega)
     clear HZ
     go_wp2_with fail
     go_quiet (fail)
     go_wp2
     go_roundw
     case rel => exact ⟨k + 1, by omega, by go_num, below_drewN hbw _, HZ'.out⟩
     case measure => simp [intOf]; omega
   ·have HE : Hid ((xs == ys) = true) := by
     show (xs == ys) = true
     rw [beq_iff_eq]
     exact list_of_zi HL.out fun j hj => HZ.out j (by omega)
    clear HZ
    go_wp2
    go_ret
    rw [HE.out]
    exact ⟨rfl, hbw⟩
 ·have hne : ((xs.length : Int) != (ys.length : Int)) = true := by simp; omega
  have HN : Hid ((xs == ys) = false) := by
   show (xs == ys) = false
   rw [beq_eq_false_iff_ne]
   intro e
   exact hl (by rw [e])
  clear h0 h1 hl
  go_enter Tryz.func48, Tryz.ntmps48
  go_wp2
  go_ret
  rw [HN.out]
  exact ⟨rfl, Below.refl _ _⟩
def eqS (S T : S4) : Bool := (S.p == T.p) && (S.c == T.c) && (S.rs == T.rs) && (S.os == T.os)
theorem eqS_iff {S T : S4} : eqS S T = true ↔ S = T := by
 obtain ⟨a, b, c, d⟩ := S
 obtain ⟨a', b', c', d'⟩ := T
 simp only [eqS, Bool.and_eq_true, beq_iff_eq, S4.mk.injEq]
 exact ⟨fun ⟨⟨⟨h1, h2⟩, h3⟩, h4⟩ => ⟨h1, h3, h4, h2⟩, fun ⟨h1, h3, h4, h2⟩ => ⟨⟨⟨h1, h2⟩, h3⟩, h4⟩⟩
theorem implSameState_any (S T : S4) (ra oa ra' oa' : Option Addr) (rc oc rc' oc' : Nat) (w : World) (l1 : S.rs.length ≤ 1048576) (l2 : S.os.length ≤ 1048576) (l3 : T.rs.length ≤ 1048576) (l4 : T.os.length ≤ 1048576) (h1 : Sl w ra S.rs) (h2 : Sl w oa S.os) (h3 : Sl w ra' T.rs) (h4 : Sl w oa' T.os) :
  Calls Tryz.prog 46 #[stV S.p ra S.rs.length rc oa S.os.length oc S.c, stV T.p ra' T.rs.length rc' oa' T.os.length oc' T.c] w fun e w' => e = .returned (.bool (eqS S T)) ∧ Below w.heap.size w w' := by
 have H1 : Hid (Sl w ra S.rs ∧ Sl w ra' T.rs) := ⟨h1, h3⟩
 have H2 : Hid (Sl w oa S.os ∧ Sl w oa' T.os) := ⟨h2, h4⟩
 clear h1 h2 h3 h4
 rcases Bool.eq_false_or_eq_true (S.p == T.p) with t1 | t1
 case inr =>
  have HE : Hid (eqS S T = false) := by
   show eqS S T = false
   simp [eqS, t1]
  go_enter Tryz.func46, Tryz.ntmps46
  go_wp2
  go_ret
  rw [HE.out]
  exact ⟨rfl, by go_grown⟩
 rcases Bool.eq_false_or_eq_true (S.c == T.c) with t2 | t2
 case inr =>
  have HE : Hid (eqS S T = false) := by
   show eqS S T = false
   simp [eqS, t2]
  go_enter Tryz.func46, Tryz.ntmps46
  go_wp2
  go_ret
  rw [HE.out]
  exact ⟨rfl, by go_grown⟩
 rcases Bool.eq_false_or_eq_true (S.rs == T.rs) with t3 | t3
 case inr =>
  have HE : Hid (eqS S T = false) := by
   show eqS S T = false
   simp [eqS, t3]
  have T3 : Hid ((S.rs == T.rs) = false) := t3
  clear t3
  go_enter Tryz.func46, Tryz.ntmps46
  go_wp2_with fail
  refine (equal_any _ _ _ _ _ _ _ l1 l3 (H1.out.1.below (by go_grown)) (H1.out.2.below (by go_grown))).mono ?_
  rintro e w1 ⟨rfl, b1⟩
  rw [T3.out]
  have B1 : Hid (Below w.heap.size w w1) := below_up (by go_grown) b1 (by simp; omega)
  clear b1
  go_wp2
  go_ret
  rw [HE.out]
  exact ⟨rfl, B1.out⟩
 have HE : Hid (eqS S T = (S.os == T.os)) := by
  show eqS S T = (S.os == T.os)
  simp [eqS, t1, t2, t3]
 have T3 : Hid ((S.rs == T.rs) = true) := t3
 clear t3
 go_enter Tryz.func46, Tryz.ntmps46
 go_wp2_with fail
 refine (equal_any _ _ _ _ _ _ _ l1 l3 (H1.out.1.below (by go_grown)) (H1.out.2.below (by go_grown))).mono ?_
 rintro e w1 ⟨rfl, b1⟩
 rw [T3.out]
 have B1 : Hid (Below w.heap.size w w1) := below_up (by go_grown) b1 (by simp; omega)
 obtain ⟨hc1, hf1⟩ := bcell b1
 clear b1
 go_wp2_with fail
 refine (equal_any _ _ _ _ _ _ _ l2 l4 (H2.out.1.below B1.out) (H2.out.2.below B1.out)).mono ?_
 rintro e w2 ⟨rfl, b2⟩
 have B2 : Hid (Below w.heap.size w w2) := B1.out.trans (b2.mono B1.out.size)
 clear b2 hc1 hf1
 go_wp2
 go_ret
 rw [HE.out]
 exact ⟨rfl, B2.out⟩
theorem itemOk_any (m : Bool) (v : Int) (w : World) :
  Calls Tryz.prog 64 #[itV m v] w fun e w' => e = .returned (.bool (itemB ⟨m, v⟩)) ∧ Below w.heap.size w w' := by
 rcases Bool.eq_false_or_eq_true m with rfl | rfl
 ·have HE : Hid (itemB ⟨true, v⟩ = (v == 0)) := by
   show itemB ⟨true, v⟩ = (v == 0)
   simp only [itemB, Bool.not_true, Bool.false_or]
   by_cases e : v = 0
   ·subst e
    rfl
   ·have : (v == 0) = false := by simpa using e
    rw [this, Bool.and_false]
  go_enter Tryz.func64, Tryz.ntmps64
  go_wp2
  go_ret
  rw [HE.out]
  exact ⟨rfl, by go_grown⟩
 ·have HE : Hid (itemB ⟨false, v⟩ = inB v (-1000000000) 1000000000) := by
   show itemB ⟨false, v⟩ = inB v (-1000000000) 1000000000
   simp [itemB, numB]
  go_enter Tryz.func64, Tryz.ntmps64
  go_wp2_with fail
  refine (isNum_any _ _).mono ?_
  rintro e w1 ⟨rfl, rfl⟩
  go_wp2
  go_ret
  rw [HE.out]
  exact ⟨rfl, by go_grown⟩
def itemsB (h : Nat → I2) (n : Nat) : Bool := (List.range n).all fun i => itemB (h i)
theorem itemsB_iff {h : Nat → I2} {n : Nat} : itemsB h n = true ↔ ∀ i, i < n → itemB (h i) = true := by
 simp [itemsB]
theorem itemsB_no {h : Nat → I2} {n k : Nat} (hk : k < n) (hf : itemB (h k) = false) : itemsB h n = false := by
 rcases Bool.eq_false_or_eq_true (itemsB h n) with t | t
 ·have := itemsB_iff.1 t k hk
  rw [hf] at this
  cases this
 ·exact t
theorem wayOk_any (a : Option Addr) (len cap : Nat) (h : Nat → I2) (w : World) (hlen : len ≤ 1048576) (hc : ItL w a len h) :
  Calls Tryz.prog 47 #[.slice a len cap] w fun e w' => e = .returned (.bool (decide (len ≤ 12) && itemsB h len)) ∧ Below w.heap.size w w' := by
 have hl' : (len : Int) ≤ 1048576 := by omega
 have HC : Hid (ItL w a len h) := hc
 clear hc
 by_cases h12 : len ≤ 12
 case neg =>
  have h12' : (12 : Int) < (len : Int) := by omega
  have HE : Hid ((decide (len ≤ 12) && itemsB h len) = false) := by
   show (decide (len ≤ 12) && itemsB h len) = false
   simp [h12]
  go_enter Tryz.func47, Tryz.ntmps47
  go_wp2
  go_ret
  rw [HE.out]
  exact ⟨rfl, Below.refl _ _⟩
 have h12' : ¬ (12 : Int) < (len : Int) := by omega
 have HE : Hid ((decide (len ≤ 12) && itemsB h len) = itemsB h len) := by
  show (decide (len ≤ 12) && itemsB h len) = itemsB h len
  simp [h12]
 clear h12
 go_enter Tryz.func47, Tryz.ntmps47
 go_wp2_with fail
 go_loopw [10] (fun i wr => ∃ k : Nat, k ≤ len ∧ i = .int .i64 k ∧ Below w.heap.size w wr ∧ Hid (∀ j, j < k → itemB (h j) = true)) (fun i _ => len - (intOf i).toNat)
 case atStart => exact ⟨0, Nat.zero_le _, rfl, Below.refl _ _, fun j hj => by omega⟩
 case round =>
  obtain ⟨k, hk, rfl, hbw, HZ⟩ := hrel
  by_cases hlt : k < len
  ·have hlt' : (k : Int) < (len : Int) := by omega
   obtain ⟨b, off, rfl, -, c0, c1⟩ := (HC.out.below hbw).at hlt
   go_wp2_with fail
   refine (itemOk_any _ _ _).mono ?_
   rintro e w1 ⟨rfl, b1⟩
   have B1 : Hid (Below w.heap.size w w1) := hbw.trans (((below_alloc wr _).trans (b1.mono (by simp))).mono hbw.size)
   clear b1
   rcases Bool.eq_false_or_eq_true (itemB (h k)) with t | t
   ·have HZ' : Hid (∀ j, j < k + 1 → itemB (h j) = true) := fun j hj => by
     by_cases e : j = k
     ·subst e
      exact t
     ·exact HZ.out j (by omega)
    rw [show itemB { m := (h k).m, v := (h k).v } = true from t]
    clear HZ t
    go_wp2
    go_roundw
    case rel => exact ⟨k + 1, by omega, by go_num, B1.out, HZ'.out⟩
    case measure => simp [intOf]; omega
   ·have HN : Hid (itemsB h len = false) := itemsB_no hlt t
    rw [show itemB { m := (h k).m, v := (h k).v } = false from t]
    clear HZ t
    go_wp2
    go_ret
    rw [HE.out, HN.out]
    exact ⟨rfl, B1.out⟩
  ·have HN : Hid (itemsB h len = true) := itemsB_iff.2 fun j hj => HZ.out j (by omega)
   clear HZ
   go_wp2
   go_ret
   rw [HE.out, HN.out]
   exact ⟨rfl, hbw⟩
noncomputable def pB (p : Prop) : Bool := @decide p (Classical.propDecidable _)
theorem pB_true {p : Prop} (h : p) : pB p = true := by simp [pB, h]
theorem pB_false {p : Prop} (h : ¬ p) : pB p = false := by simp [pB, h]
theorem specSameState_any (S T : S4) (ra oa ra' oa' : Option Addr) (rc oc rc' oc' : Nat) (w : World) (l1 : S.rs.length ≤ 1048576) (l2 : S.os.length ≤ 1048576) (_l3 : T.rs.length ≤ 1048576) (_l4 : T.os.length ≤ 1048576) (h1 : Sl w ra S.rs) (h2 : Sl w oa S.os) (h3 : Sl w ra' T.rs) (h4 : Sl w oa' T.os) :
  Calls Tryz.prog 40 #[stV S.p ra S.rs.length rc oa S.os.length oc S.c, stV T.p ra' T.rs.length rc' oa' T.os.length oc' T.c] w fun e w' => e = .returned (.bool (eqS S T)) ∧ Below w.heap.size w w' := by
 have l1' : (S.rs.length : Int) ≤ 1048576 := by omega
 have l2' : (S.os.length : Int) ≤ 1048576 := by omega
 have H1 : Hid (Sl w ra S.rs ∧ Sl w ra' T.rs) := ⟨h1, h3⟩
 have H2 : Hid (Sl w oa S.os ∧ Sl w oa' T.os) := ⟨h2, h4⟩
 clear h1 h2 h3 h4 l1 l2
 rcases Bool.eq_false_or_eq_true (S.p != T.p) with t1 | t1
 case inl =>
  have HE : Hid (eqS S T = false) := by
   show eqS S T = false
   have : (S.p == T.p) = false := by simpa using t1
   simp [eqS, this]
  go_enter Tryz.func40, Tryz.ntmps40
  go_wp2
  go_ret
  rw [HE.out]
  exact ⟨rfl, by go_grown⟩
 rcases Bool.eq_false_or_eq_true (S.c != T.c) with t2 | t2
 case inl =>
  have HE : Hid (eqS S T = false) := by
   show eqS S T = false
   have : (S.c == T.c) = false := by simpa using t2
   simp [eqS, this]
  go_enter Tryz.func40, Tryz.ntmps40
  go_wp2
  go_ret
  rw [HE.out]
  exact ⟨rfl, by go_grown⟩
 rcases Bool.eq_false_or_eq_true ((S.rs.length : Int) != (T.rs.length : Int)) with t3 | t3
 case inl =>
  have HE : Hid (eqS S T = false) := by
   show eqS S T = false
   have : (S.rs == T.rs) = false := by
    rw [beq_eq_false_iff_ne]
    intro e
    rw [e] at t3
    simp at t3
   simp [eqS, this]
  go_enter Tryz.func40, Tryz.ntmps40
  go_wp2
  go_ret
  rw [HE.out]
  exact ⟨rfl, by go_grown⟩
 rcases Bool.eq_false_or_eq_true ((S.os.length : Int) != (T.os.length : Int)) with t4 | t4
 case inl =>
  have HE : Hid (eqS S T = false) := by
   show eqS S T = false
   have : (S.os == T.os) = false := by
    rw [beq_eq_false_iff_ne]
    intro e
    rw [e] at t4
    simp at t4
   simp [eqS, this]
  go_enter Tryz.func40, Tryz.ntmps40
  go_wp2
  go_ret
  rw [HE.out]
  exact ⟨rfl, by go_grown⟩
 have HE : Hid (eqS S T = ((S.rs == T.rs) && (S.os == T.os)) ∧ S.rs.length = T.rs.length ∧ S.os.length = T.os.length) := by
  have e1 : (S.p == T.p) = true := by simpa using t1
  have e2 : (S.c == T.c) = true := by simpa using t2
  have e3 : S.rs.length = T.rs.length := by simp at t3; omega
  have e4 : S.os.length = T.os.length := by simp at t4; omega
  refine ⟨?_, e3, e4⟩
  show eqS S T = _
  simp [eqS, e1, e2]
 have N1 : Hid (BoxC ((w.alloc (oQ2 S.p ra S.rs.length rc oa S.os.length oc S.c)).alloc (oQ2 T.p ra' T.rs.length rc' oa' T.os.length oc' T.c)) w.heap.size (.int .i64 S.p) (.slice ra S.rs.length rc) (.slice oa S.os.length oc) (.int .i64 S.c)) := (BoxC.new w _ _ _ _ _).below (below_alloc _ _)
 have N2 : Hid (BoxC ((w.alloc (oQ2 S.p ra S.rs.length rc oa S.os.length oc S.c)).alloc (oQ2 T.p ra' T.rs.length rc' oa' T.os.length oc' T.c)) (w.heap.size + 1) (.int .i64 T.p) (.slice ra' T.rs.length rc') (.slice oa' T.os.length oc') (.int .i64 T.c)) := by
  have h := BoxC.new (w.alloc (oQ2 S.p ra S.rs.length rc oa S.os.length oc S.c)) (.int .i64 T.p) (.slice ra' T.rs.length rc') (.slice oa' T.os.length oc') (.int .i64 T.c) 37
  rw [World.size_alloc] at h
  exact h
 have NB : Hid (Below w.heap.size w ((w.alloc (oQ2 S.p ra S.rs.length rc oa S.os.length oc S.c)).alloc (oQ2 T.p ra' T.rs.length rc' oa' T.os.length oc' T.c))) := by
  show Below _ _ _
  go_grown
 go_enter Tryz.func40, Tryz.ntmps40
 go_wp2_with fail
 generalize (w.alloc (oQ2 S.p ra S.rs.length rc oa S.os.length oc S.c)).alloc (oQ2 T.p ra' T.rs.length rc' oa' T.os.length oc' T.c) = wb at *
 go_loopw [5] (fun i wr => ∃ k : Nat, k ≤ S.rs.length ∧ i = .int .i64 k ∧ Below wb.heap.size wb wr ∧ Hid (∀ j, j < k → zi S.rs j = zi T.rs j)) (fun i _ => S.rs.length - (intOf i).toNat)
 case atStart => exact ⟨0, Nat.zero_le _, rfl, Below.refl _ _, fun j hj => by omega⟩
 case round =>
  obtain ⟨k, hk, rfl, hbw, HZ⟩ := hrel
  have hw : Below w.heap.size w wr := NB.out.trans (hbw.mono NB.out.size)
  obtain ⟨n0, n1, n2, n3⟩ := N1.out.below hbw
  obtain ⟨m0, m1, m2, m3⟩ := N2.out.below hbw
  by_cases hlt : k < S.rs.length
  ·have hlt2 : k < T.rs.length := by have := HE.out; omega
   obtain ⟨b, off, rfl, hbl, ck⟩ := (H1.out.1.below hw).at hlt
   obtain ⟨b', off', rfl, hbl', ck'⟩ := (H1.out.2.below hw).at hlt2
   have hlt' : (k : Int) < (S.rs.length : Int) := by omega
   have hlt2' : (k : Int) < (T.rs.length : Int) := by omega
   clear hlt2
   rcases Bool.eq_false_or_eq_true (zi S.rs k != zi T.rs k) with t | t
   ·have HN : Hid (eqS S T = false) := by
     show eqS S T = false
     rw [HE.out.1]
     have : (S.rs == T.rs) = false := by
      rw [beq_eq_false_iff_ne]
      intro e
      rw [e] at t
      simp at t
     rw [this, Bool.false_and]
    go_wp2_with fail
    go_quiet (fail)
    go_wp2
    go_ret
    rw [HN.out]
    exact ⟨rfl, below_drewN hw _⟩
   ·have HZ' : Hid (∀ j, j < k + 1 → zi S.rs j = zi T.rs j) := fun j hj => by
     by_cases e : j = k
     ·subst e
      simpa using t
     ·exact HZ.out j (by omega)
    clear HZ
    go_wp2_with fail
    go_quiet (fail)
    go_wp2
    go_roundw
    case rel => exact ⟨k + 1, by omega, by go_num, below_drewN hbw _, HZ'.out⟩
    case measure => simp [intOf]; omega
  ·have HR : Hid ((S.rs == T.rs) = true) := by
    show (S.rs == T.rs) = true
    rw [beq_iff_eq]
    exact list_of_zi HE.out.2.1 fun j hj => HZ.out j (by omega)
   have hkl : k = S.rs.length := by omega
   subst hkl
   clear HZ hlt hk
   go_wp2_with fail
   clear n0 n1 n2 n3 m0 m1 m2 m3
   go_loopw [6] (fun i wr => ∃ k : Nat, k ≤ S.os.length ∧ i = .int .i64 k ∧ Below wb.heap.size wb wr ∧ Hid (∀ j, j < k → zi S.os j = zi T.os j)) (fun i _ => S.os.length - (intOf i).toNat)
   case atStart => exact ⟨0, Nat.zero_le _, rfl, hbw, fun j hj => by omega⟩
   case round =>
    clear hbw hw
    obtain ⟨k, hk, rfl, hbw, HZ⟩ := hrel
    have hw : Below w.heap.size w wr := NB.out.trans (hbw.mono NB.out.size)
    obtain ⟨n0, n1, n2, n3⟩ := N1.out.below hbw
    obtain ⟨m0, m1, m2, m3⟩ := N2.out.below hbw
    by_cases hlt : k < S.os.length
    ·have hlt2 : k < T.os.length := by have := HE.out; omega
     obtain ⟨b, off, rfl, hbl, ck⟩ := (H2.out.1.below hw).at hlt
     obtain ⟨b', off', rfl, hbl', ck'⟩ := (H2.out.2.below hw).at hlt2
     have hlt' : (k : Int) < (S.os.length : Int) := by omega
     have hlt2' : (k : Int) < (T.os.length : Int) := by omega
     clear hlt2
     rcases Bool.eq_false_or_eq_true (zi S.os k != zi T.os k) with t | t
     ·have HN : Hid (eqS S T = false) := by
       show eqS S T = false
       rw [HE.out.1]
       have : (S.os == T.os) = false := by
        rw [beq_eq_false_iff_ne]
        intro e
        rw [e] at t
        simp at t
       rw [this, Bool.and_false]
      go_wp2_with fail
      go_quiet (fail)
      go_wp2
      go_ret
      rw [HN.out]
      exact ⟨rfl, below_drewN hw _⟩
     ·have HZ' : Hid (∀ j, j < k + 1 → zi S.os j = zi T.os j) := fun j hj => by
       by_cases e : j = k
       ·subst e
        simpa using t
       ·exact HZ.out j (by omega)
      clear HZ
      go_wp2_with fail
      go_quiet (fail)
      go_wp2
      go_roundw
      case rel => exact ⟨k + 1, by omega, by go_num, below_drewN hbw _, HZ'.out⟩
      case measure => simp [intOf]; omega
    ·have HN : Hid (eqS S T = true) := by
      show eqS S T = true
      rw [HE.out.1, HR.out, Bool.true_and, beq_iff_eq]
      exact list_of_zi HE.out.2.2 fun j hj => HZ.out j (by omega)
     clear HZ
     go_wp2
     go_ret
     rw [HN.out]
     exact ⟨rfl, hw⟩
structure LWay (h : Nat → I2) (len : Nat) (sent : List Int) (t : Nat) : Prop where
 it : ∀ i, i < len → itemB (h i) = true
 le : len ≤ 12
 ln : sent.length = t + (numL h len).length
 eq : ∀ j, j < (numL h len).length → zi (numL h len) j = zi sent (t + j)
theorem zi_append_left {xs ys : List Int} {j : Nat} (h : j < xs.length) : zi (xs ++ ys) j = zi xs j := by
 simp [zi, List.getD_eq_getElem?_getD, List.getElem?_append_left h]
theorem zi_append_right {xs ys : List Int} {j : Nat} : zi (xs ++ ys) (xs.length + j) = zi ys j := by
 simp [zi, List.getD_eq_getElem?_getD, List.getElem?_append_right]
theorem LWay.iff {h : Nat → I2} {len : Nat} {took sent : List Int} : (LWay h len sent took.length ∧ ∀ i, i < took.length → zi took i = zi sent i) ↔ WayP h len took sent := by
 refine ⟨fun ⟨a, b⟩ => ⟨a.it, a.le, ?_⟩, fun a => ⟨⟨a.it, a.le, by rw [← a.eq, List.length_append], fun j _ => by rw [← a.eq, zi_append_right]⟩, fun i hi => by rw [← a.eq, zi_append_left hi]⟩⟩
 refine list_of_zi (by rw [List.length_append, a.ln]) fun j hj => ?_
 by_cases hl : j < took.length
 ·rw [zi_append_left hl, b j hl]
 ·rw [List.length_append] at hj
  have e : j = took.length + (j - took.length) := by omega
  rw [e, zi_append_right]
  exact a.eq _ (by omega)
theorem l4Way_any (a : Option Addr) (len cap : Nat) (h : Nat → I2) (sa : Option Addr) (sc : Nat) (sent : List Int) (t : Nat) (w : World) (hlen : len ≤ 1048576) (hc : ItL w a len h) (hs : sent.length ≤ 1048576) (hS : Sl w sa sent) (ht : t ≤ 1048576) :
  Calls Tryz.prog 42 #[.slice a len cap, .slice sa sent.length sc, .int .i64 t] w fun e w' => e = .returned (.bool (pB (LWay h len sent t))) ∧ Below w.heap.size w w' := by
 have hl' : (len : Int) ≤ 1048576 := by omega
 have hs' : (sent.length : Int) ≤ 1048576 := by omega
 have ht' : (t : Int) ≤ 1048576 := by omega
 have HC : Hid (ItL w a len h) := hc
 have HS : Hid (Sl w sa sent) := hS
 clear hc hS
 go_enter Tryz.func42, Tryz.ntmps42
 go_wp2_with fail
 go_loopw [7] (fun i wr => ∃ k : Nat, k ≤ len ∧ i = .int .i64 k ∧ Below w.heap.size w wr ∧ Hid (∀ j, j < k → itemB (h j) = true)) (fun i _ => len - (intOf i).toNat)
 case atStart => exact ⟨0, Nat.zero_le _, rfl, Below.refl _ _, fun j hj => by omega⟩
 case round =>
  obtain ⟨k, hk, rfl, hbw, HZ⟩ := hrel
  by_cases hlt : k < len
  ·have hlt' : (k : Int) < (len : Int) := by omega
   obtain ⟨b, off, rfl, -, c0, c1⟩ := (HC.out.below hbw).at hlt
   have hN : ∀ {x : Bool}, inB (h k).v (-1000000000) 1000000000 = x → numB (h k).v = x := fun e => e
   rcases Bool.eq_false_or_eq_true (inB (h k).v (-1000000000) 1000000000) with t1 | t1
   ·have go_on : itemB (h k) = true → Hid (∀ j, j < k + 1 → itemB (h j) = true) := fun t j hj => by
     by_cases e : j = k
     ·subst e
      exact t
     ·exact HZ.out j (by omega)
    have stop : itemB (h k) = false → Hid (pB (LWay h len sent t) = false) := fun t => pB_false fun x => by
     have := x.it k hlt
     rw [t] at this
     cases this
    rcases Bool.eq_false_or_eq_true (h k).m with t2 | t2
    ·rcases Bool.eq_false_or_eq_true ((h k).v != 0) with t3 | t3
     ·have HN := stop (by
       have : ((h k).v == 0) = false := by simpa using t3
       simp [itemB, t2, this])
      rw [t2] at c0
      clear go_on stop HZ hN
      go_wp2_with fail
      refine (l1Num_any _ _).mono ?_
      rintro e w1 ⟨rfl, rfl⟩
      rw [t1]
      go_wp2
      go_ret
      rw [HN.out]
      exact ⟨rfl, hbw⟩
     ·have HZ' := go_on (by
       have : ((h k).v == 0) = true := by simpa using t3
       simp [itemB, hN t1, this])
      rw [t2] at c0
      clear go_on stop HZ hN
      go_wp2_with fail
      refine (l1Num_any _ _).mono ?_
      rintro e w1 ⟨rfl, rfl⟩
      rw [t1]
      go_wp2
      go_roundw
      case rel => exact ⟨k + 1, by omega, by go_num, hbw, HZ'.out⟩
      case measure => simp [intOf]; omega
    ·have HZ' := go_on (by simp [itemB, hN t1, t2])
     rw [t2] at c0
     clear go_on stop HZ hN
     go_wp2_with fail
     refine (l1Num_any _ _).mono ?_
     rintro e w1 ⟨rfl, rfl⟩
     rw [t1]
     go_wp2
     go_roundw
     case rel => exact ⟨k + 1, by omega, by go_num, hbw, HZ'.out⟩
     case measure => simp [intOf]; omega
   ·have HN : Hid (pB (LWay h len sent t) = false) := pB_false fun x => by
     have := x.it k hlt
     simp [itemB, hN t1] at this
    clear HZ hN
    go_wp2_with fail
    refine (l1Num_any _ _).mono ?_
    rintro e w1 ⟨rfl, rfl⟩
    rw [t1]
    go_wp2
    go_ret
    rw [HN.out]
    exact ⟨rfl, hbw⟩
  ·have HZ' : Hid (∀ j, j < len → itemB (h j) = true) := fun j hj => HZ.out j (by omega)
   have hkl : k = len := by omega
   subst hkl
   clear HZ hlt hk
   go_wp2_with fail
   refine (specNumbers_l a k cap h wr hlen (HC.out.below hbw)).mono ?_
   rintro e w1 ⟨v, rfl, o1, b1⟩
   obtain ⟨na, nc, rfl, s1⟩ := o1.form
   have B1 : Hid (Below w.heap.size w w1) := hbw.trans (b1.mono hbw.size)
   have S1 : Hid (Sl w1 na (numL h k)) := s1
   have hnl := numL_le h k
   have hnl' : ((numL h k).length : Int) ≤ 1048576 := by omega
   clear o1 b1 s1 hbw
   generalize hNU : numL h k = nu at *
   have HNU : Hid (numL h k = nu) := hNU
   clear hNU hnl
   by_cases h12 : k ≤ 12
   case neg =>
    have h12' : (12 : Int) < (k : Int) := by omega
    have HN : Hid (pB (LWay h k sent t) = false) := pB_false fun x => h12 x.le
    go_wp2
    go_ret
    rw [HN.out]
    exact ⟨rfl, B1.out⟩
   have h12' : ¬ (12 : Int) < (k : Int) := by omega
   rcases Bool.eq_false_or_eq_true (((sent.length : Int) - (t : Int)) != (nu.length : Int)) with t5 | t5
   ·have HN : Hid (pB (LWay h k sent t) = false) := pB_false fun x => by
     have := x.ln
     rw [HNU.out] at this
     rw [this] at t5
     simp at t5
     omega
    go_wp2
    go_ret
    rw [HN.out]
    exact ⟨rfl, B1.out⟩
   have HLN : Hid (sent.length = t + nu.length) := by
    show sent.length = t + nu.length
    simp at t5
    omega
   go_wp2_with fail
   go_loopw [9] (fun i wr => ∃ j : Nat, j ≤ nu.length ∧ i = .int .i64 j ∧ Below w1.heap.size w1 wr ∧ Hid (∀ i, i < j → zi nu i = zi sent (t + i))) (fun i _ => nu.length - (intOf i).toNat)
   case atStart => exact ⟨0, Nat.zero_le _, rfl, Below.refl _ _, fun j hj => by omega⟩
   case round =>
    obtain ⟨j, hj, rfl, hbw, HZ⟩ := hrel
    have hw : Below w.heap.size w wr := B1.out.trans (hbw.mono B1.out.size)
    by_cases hlt : j < nu.length
    ·have hlt2 : t + j < sent.length := by have := HLN.out; omega
     obtain ⟨b, off, rfl, hbl, ck⟩ := (S1.out.below hbw).at hlt
     obtain ⟨b', off', rfl, hbl', ck'⟩ := (HS.out.below hw).at hlt2
     have hlt' : (j : Int) < (nu.length : Int) := by omega
     have hlt2' : (t : Int) + (j : Int) < (sent.length : Int) := by omega
     have hq : ((t : Int) + (j : Int)).toNat = t + j := by omega
     clear hlt2
     rcases Bool.eq_false_or_eq_true (zi nu j != zi sent (t + j)) with t6 | t6
     ·have HN : Hid (pB (LWay h k sent t) = false) := pB_false fun x => by
       have := x.eq j (by rw [HNU.out]; exact hlt)
       rw [HNU.out] at this
       rw [this] at t6
       simp at t6
      go_wp2_with fail
      go_quiet (fail)
      go_wp2
      go_ret
      rw [HN.out]
      exact ⟨rfl, below_drewN hw _⟩
     ·have HZ2 : Hid (∀ i, i < j + 1 → zi nu i = zi sent (t + i)) := fun i hi => by
       by_cases e : i = j
       ·subst e
        simpa using t6
       ·exact HZ.out i (by omega)
      clear HZ
      go_wp2_with fail
      go_quiet (fail)
      go_wp2
      go_roundw
      case rel => exact ⟨j + 1, by omega, by go_num, below_drewN hbw _, HZ2.out⟩
      case measure => simp [intOf]; omega
    ·have HN : Hid (pB (LWay h k sent t) = true) := pB_true ⟨HZ'.out, h12, by rw [HNU.out]; exact HLN.out, fun i hi => by
      rw [HNU.out] at hi ⊢
      exact HZ.out i (by omega)⟩
     clear HZ
     go_wp2
     go_ret
     rw [HN.out]
     exact ⟨rfl, hw⟩
end Go.Proofs.YtdmpcnmbnfdfmaaGreatDoor
