/- Systems of which no part is great. -/
import Derived.Test.YtnfdnnmddadmkaaGreatDoorNc0
import Derived.Test.YtnfdnnmddadmkaaGreatDoorNc24
import Derived.Test.YtnfdnnmddadmkaaGreatDoorNc36
import Derived.Test.YtnfdnnmddadmkaaGreatDoorNc19
import Derived.Test.YtnfdnnmddadmkaaGreatDoorNc16
import Derived.Test.YtnfdnnmddadmkaaGreatDoorNc27
import Derived.Test.YtnfdnnmddadmkaaGreatDoorNc38
namespace Go.Proofs.YtnfdnnmddadmkaaGreatDoor
set_option maxRecDepth 100000
set_option maxHeartbeats 4000000
open Go.RowKit Go.Deep
theorem specValues_l (ea : Option Addr) (len cap : Nat) (eh : Nat → E3) (kd pr : Int) (w : World) (hlen : len ≤ 1048576) (hc : EvL w ea len eh) :
  Calls Tryz.prog 111 #[.slice ea len cap, .int .i64 kd, .int .i64 pr] w fun e w' => ∃ v, e = .returned v ∧ OwnI w' w.heap.size v (valL eh kd pr len) ∧ Below w.heap.size w w' := by
 have hl' : (len : Int) ≤ 1048576 := by omega
 have HC : Hid (EvL w ea len eh) := hc
 clear hc
 go_enter Tryz.func111, Tryz.ntmps111
 go_wp2_with fail
 go_loopw [7, 8] (fun o i wr => ∃ k : Nat, k ≤ len ∧ i = .int .i64 k ∧ Hid (OwnI wr w.heap.size o (valL eh kd pr k)) ∧ Below w.heap.size w wr) (fun _ i _ => len - (intOf i).toNat)
 case atStart => exact ⟨0, Nat.zero_le _, rfl, own_empty w, (Below.refl _ _).alloc (Nat.le_refl _) _⟩
 case round =>
  obtain ⟨k, hk, rfl, HO, hbw⟩ := hrel
  have hs := hbw.size
  by_cases hlt : k < len
  ·have hlt' : (k : Int) < (len : Int) := by omega
   have hvl := valL_le eh kd pr k
   obtain ⟨b, off, rfl, -, c0, c1, c2⟩ := (HC.out.below hbw).at hlt
   rcases Bool.eq_false_or_eq_true ((eh k).k == kd) with t1 | t1
   ·rcases Bool.eq_false_or_eq_true ((eh k).q == pr) with t2 | t2
    ·have HH : Hid (valL eh kd pr (k + 1) = valL eh kd pr k ++ [(eh k).v]) := valL_hit (by
      unfold hitB
      rw [t1, t2]
      rfl)
     go_wp2_with (at_builtin; refine append_one wr rfl _ _ rfl w.heap.size u7 (valL eh kd pr k) rfl HO.out (eh k).v rfl (by omega) hs ?_; intro v' w4 o4 b4; have H4 : Hid (OwnI w4 w.heap.size v' (valL eh kd pr (k + 1))) := o4.to HH.out; clear o4)
     go_roundw
     case rel => exact ⟨k + 1, by omega, by go_num, H4.out, hbw.trans b4⟩
     case measure => simp [intOf]; omega
    ·have HH : Hid (valL eh kd pr (k + 1) = valL eh kd pr k) := valL_not (by
      unfold hitB
      rw [t1, t2]
      rfl)
     go_wp2
     go_roundw
     case rel => exact ⟨k + 1, by omega, by go_num, HO.out.to HH.out, hbw⟩
     case measure => simp [intOf]; omega
   ·have HH : Hid (valL eh kd pr (k + 1) = valL eh kd pr k) := valL_not (by
     unfold hitB
     rw [t1]
     rfl)
    go_wp2
    go_roundw
    case rel => exact ⟨k + 1, by omega, by go_num, HO.out.to HH.out, hbw⟩
    case measure => simp [intOf]; omega
  ·have hkl : k = len := by omega
   have H4 : Hid (OwnI wr w.heap.size u7 (valL eh kd pr len)) := by
    have := HO.out
    rw [hkl] at this
    exact this
   clear HO hkl
   go_wp2
   go_ret
   exact ⟨_, rfl, H4.out, hbw⟩
theorem placesOf_l (ea : Option Addr) (len cap : Nat) (eh : Nat → E3) (kd pr : Int) (w : World) (hlen : len ≤ 1048576) (hc : EvL w ea len eh) :
  Calls Tryz.prog 225 #[.slice ea len cap, .int .i64 kd, .int .i64 pr] w fun e w' => ∃ v, e = .returned v ∧ OwnI w' w.heap.size v (plI eh kd pr len) ∧ Below w.heap.size w w' := by
 have hl' : (len : Int) ≤ 1048576 := by omega
 have HC : Hid (EvL w ea len eh) := hc
 clear hc
 go_enter Tryz.func225, Tryz.ntmps225
 go_wp2_with fail
 go_loopw [7, 13] (fun o i wr => ∃ k : Nat, k ≤ len ∧ i = .int .i64 k ∧ Hid (OwnI wr w.heap.size o (plI eh kd pr k)) ∧ Below w.heap.size w wr) (fun _ i _ => len - (intOf i).toNat)
 case atStart => exact ⟨0, Nat.zero_le _, rfl, own_empty w, (Below.refl _ _).alloc (Nat.le_refl _) _⟩
 case round =>
  obtain ⟨k, hk, rfl, HO, hbw⟩ := hrel
  have hs := hbw.size
  by_cases hlt : k < len
  ·have hlt' : (k : Int) < (len : Int) := by omega
   have hvl := plI_le eh kd pr k
   obtain ⟨b, off, rfl, -, c0, c1, c2⟩ := (HC.out.below hbw).at hlt
   rcases Bool.eq_false_or_eq_true ((eh k).k == kd) with t1 | t1
   ·rcases Bool.eq_false_or_eq_true ((eh k).q == pr) with t2 | t2
    ·have HH : Hid (plI eh kd pr (k + 1) = plI eh kd pr k ++ [(k : Int)]) := plI_hit (by
      unfold hitB
      rw [t1, t2]
      rfl)
     go_wp2_with (at_builtin; refine append_oneN _ (N := wr.heap.size + 1) (by simp) rfl _ _ rfl w.heap.size u7 (plI eh kd pr k) rfl (HO.out.below (by go_grown)) k rfl (by omega) (by simp; omega) ?_; intro v' w4 o4 b4; have H4 : Hid (OwnI w4 w.heap.size v' (plI eh kd pr (k + 1))) := o4.to HH.out; clear o4)
     go_roundw
     case rel => exact ⟨k + 1, by omega, by go_num, H4.out, Below.trans (by go_grown) b4⟩
     case measure => simp [intOf]; omega
    ·have HH : Hid (plI eh kd pr (k + 1) = plI eh kd pr k) := plI_not (by
      unfold hitB
      rw [t1, t2]
      rfl)
     go_wp2
     go_roundw
     case rel => exact ⟨k + 1, by omega, by go_num, (HO.out.below (by go_grown)).to HH.out, by go_grown⟩
     case measure => simp [intOf]; omega
   ·have HH : Hid (plI eh kd pr (k + 1) = plI eh kd pr k) := plI_not (by
     unfold hitB
     rw [t1]
     rfl)
    go_wp2
    go_roundw
    case rel => exact ⟨k + 1, by omega, by go_num, (HO.out.below (by go_grown)).to HH.out, by go_grown⟩
    case measure => simp [intOf]; omega
  ·have hkl : k = len := by omega
   have H4 : Hid (OwnI wr w.heap.size u7 (plI eh kd pr len)) := by
    have := HO.out
    rw [hkl] at this
    exact this
   clear HO hkl
   go_wp2
   go_ret
   exact ⟨_, rfl, H4.out, hbw⟩
theorem specCount_l (ea : Option Addr) (len cap : Nat) (eh : Nat → E3) (kd pr : Int) (w : World) (hlen : len ≤ 1048576) (hc : EvL w ea len eh) :
  Calls Tryz.prog 177 #[.slice ea len cap, .int .i64 kd, .int .i64 pr] w fun e w' => e = .returned (.int .i64 ((plN eh kd pr len).length : Nat)) ∧ Below w.heap.size w w' := by
 have HC : Hid (EvL w ea len eh) := hc
 clear hc
 go_enter Tryz.func177, Tryz.ntmps177
 go_wp2_with fail
 refine (specValues_l ea len cap eh kd pr w hlen HC.out).mono ?_
 rintro e w1 ⟨v, rfl, o1, b1⟩
 obtain ⟨a0, cp, rfl, -⟩ := o1.form
 rw [valL_length]
 go_wp2
 go_ret
 exact ⟨rfl, b1⟩
theorem implValues_l (ea : Option Addr) (len cap : Nat) (eh : Nat → E3) (kd pr : Int) (w : World) (hlen : len ≤ 1048576) (hc : EvL w ea len eh) :
  Calls Tryz.prog 183 #[.slice ea len cap, .int .i64 kd, .int .i64 pr] w fun e w' => ∃ v, e = .returned v ∧ OwnI w' w.heap.size v (valL eh kd pr len) ∧ Below w.heap.size w w' := by
 have hl' : (len : Int) ≤ 1048576 := by omega
 have HC : Hid (EvL w ea len eh) := hc
 clear hc
 have hpl := plI_le eh kd pr len
 go_enter Tryz.func183, Tryz.ntmps183
 go_wp2_with fail
 refine (placesOf_l ea len cap eh kd pr _ hlen (HC.out.below (by go_grown))).mono ?_
 rintro e w1 ⟨v, rfl, o1, b1⟩
 have B1 : Hid (Below w.heap.size w w1) := below_up (by go_grown) b1 (by simp)
 obtain ⟨a0, cp, rfl, -⟩ := o1.form
 have HS : Hid (OwnI w1 (w.heap.size + 1) (.slice a0 (plI eh kd pr len).length cp) (plI eh kd pr len)) := by
  rw [World.size_alloc] at o1
  exact o1
 clear o1
 go_wp2_with fail
 have HO : Hid (OwnI w1 w.heap.size (.slice (some ⟨w.heap.size, 0, none⟩) 0 0) []) := (own_empty w).below b1
 clear b1
 go_loopw [7, 16] (fun o i wr => ∃ k : Nat, k ≤ (plI eh kd pr len).length ∧ i = .int .i64 k ∧ Hid (OwnI wr w.heap.size o (valT eh kd pr len k)) ∧ Below w.heap.size w wr ∧ Hid (Away w w1 wr o)) (fun _ i _ => (plI eh kd pr len).length - (intOf i).toNat)
 case atStart => exact ⟨0, Nat.zero_le _, rfl, HO.out, B1.out, ⟨fun j hj => by simp [Value.ownBlock] at hj; exact .inl hj.symm, fun _ _ _ => rfl, Nat.le_refl _⟩⟩
 case round =>
  clear HO B1
  obtain ⟨k, hk, rfl, HO, hbw, HA⟩ := hrel
  have hs := hbw.size
  by_cases hlt : k < (plI eh kd pr len).length
  ·have hlt' : (k : Int) < ((plI eh kd pr len).length : Int) := by omega
   obtain ⟨b0, o0, e0, hb0, hcell⟩ := (HA.out.sl (Nat.lt_succ_self _) HS.out).at hlt
   obtain ⟨q, hq, hql, hqe⟩ := plI_place eh kd pr len k hlt
   have hql' : (q : Int) < (len : Int) := by omega
   rw [hq] at hcell
   subst e0
   have hvl := valT_le eh kd pr len k
   have HH : Hid (valT eh kd pr len (k + 1) = valT eh kd pr len k ++ [(eh q).v]) := valT_next hqe
   obtain ⟨b, off, rfl, -, c0, c1, c2⟩ := (HC.out.below hbw).at hql
   clear hq hqe
   go_wp2_with (at_builtin; refine append_far wr rfl _ _ rfl w.heap.size u7 (valT eh kd pr len k) rfl HO.out (eh q).v rfl (by omega) hs ?_; intro v' w4 o4 g4 a4; have A4 : Hid (Away w w1 w4 v') := HA.out.step g4 a4; have b4 : Below w.heap.size wr w4 := ⟨g4.os, g4.tape, g4.output, g4.size, fun j hj => g4.block j (Nat.lt_of_lt_of_le hj hs) (fun e => Nat.not_le_of_lt hj (HO.out.lt j e.symm).1)⟩; have H4 : Hid (OwnI w4 w.heap.size v' (valT eh kd pr len (k + 1))) := o4.to HH.out; clear o4 g4 a4)
   go_roundw
   case rel => exact ⟨k + 1, by omega, by go_num, H4.out, hbw.trans b4, A4.out⟩
   case measure => simp [intOf]; omega
  ·have hkl : k = (plI eh kd pr len).length := by omega
   have H4 : Hid (OwnI wr w.heap.size u7 (valL eh kd pr len)) := by
    have := HO.out
    rw [hkl, valT_all] at this
    exact this
   clear HO hkl
   go_wp2
   go_ret
   exact ⟨_, rfl, H4.out, hbw⟩
theorem specNumbers_l (ea : Option Addr) (len cap : Nat) (h : Nat → I2) (w : World) (hlen : len ≤ 1048576) (hc : ItL w ea len h) :
  Calls Tryz.prog 176 #[.slice ea len cap] w fun e w' => ∃ v, e = .returned v ∧ OwnI w' w.heap.size v (numL h len) ∧ Below w.heap.size w w' := by
 have hl' : (len : Int) ≤ 1048576 := by omega
 have HC : Hid (ItL w ea len h) := hc
 clear hc
 go_enter Tryz.func176, Tryz.ntmps176
 go_wp2_with fail
 go_loopw [3, 4] (fun o i wr => ∃ k : Nat, k ≤ len ∧ i = .int .i64 k ∧ Hid (OwnI wr w.heap.size o (numL h k)) ∧ Below w.heap.size w wr) (fun _ i _ => len - (intOf i).toNat)
 case atStart => exact ⟨0, Nat.zero_le _, rfl, own_empty w, (Below.refl _ _).alloc (Nat.le_refl _) _⟩
 case round =>
  obtain ⟨k, hk, rfl, HO, hbw⟩ := hrel
  have hs := hbw.size
  by_cases hlt : k < len
  ·have hlt' : (k : Int) < (len : Int) := by omega
   have hvl := numL_le h k
   obtain ⟨b, off, rfl, -, c0, c1⟩ := (HC.out.below hbw).at hlt
   rcases Bool.eq_false_or_eq_true (h k).m with t1 | t1
   ·have HH : Hid (numL h (k + 1) = numL h k) := numL_not t1
    rw [t1] at c0
    go_wp2
    go_roundw
    case rel => exact ⟨k + 1, by omega, by go_num, HO.out.to HH.out, hbw⟩
    case measure => simp [intOf]; omega
   ·have HH : Hid (numL h (k + 1) = numL h k ++ [(h k).v]) := numL_hit t1
    rw [t1] at c0
    go_wp2_with (at_builtin; refine append_one wr rfl _ _ rfl w.heap.size u3 (numL h k) rfl HO.out (h k).v rfl (by omega) hs ?_; intro v' w4 o4 b4; have H4 : Hid (OwnI w4 w.heap.size v' (numL h (k + 1))) := o4.to HH.out; clear o4)
    go_roundw
    case rel => exact ⟨k + 1, by omega, by go_num, H4.out, hbw.trans b4⟩
    case measure => simp [intOf]; omega
  ·have hkl : k = len := by omega
   have H4 : Hid (OwnI wr w.heap.size u3 (numL h len)) := by
    have := HO.out
    rw [hkl] at this
    exact this
   clear HO hkl
   go_wp2
   go_ret
   exact ⟨_, rfl, H4.out, hbw⟩
theorem implNumbers_l (ea : Option Addr) (len cap : Nat) (h : Nat → I2) (w : World) (hlen : len ≤ 1048576) (hc : ItL w ea len h) :
  Calls Tryz.prog 19 #[.slice ea len cap] w fun e w' => ∃ v, e = .returned v ∧ OwnI w' w.heap.size v (numL h len) ∧ Below w.heap.size w w' := by
 have hl' : (len : Int) ≤ 1048576 := by omega
 have HC : Hid (ItL w ea len h) := hc
 clear hc
 go_enter Tryz.func19, Tryz.ntmps19
 go_wp2_with fail
 go_loopw [3, 9] (fun o i wr => ∃ k : Nat, k ≤ len ∧ i = .int .i64 k ∧ Hid (OwnI wr w.heap.size o (numL h k)) ∧ Below w.heap.size w wr) (fun _ i _ => len - (intOf i).toNat)
 case atStart => exact ⟨0, Nat.zero_le _, rfl, own_empty w, (Below.refl _ _).alloc (Nat.le_refl _) _⟩
 case round =>
  obtain ⟨k, hk, rfl, HO, hbw⟩ := hrel
  have hs := hbw.size
  by_cases hlt : k < len
  ·have hlt' : (k : Int) < (len : Int) := by omega
   have hvl := numL_le h k
   obtain ⟨b, off, rfl, -, c0, c1⟩ := (HC.out.below hbw).at hlt
   rcases Bool.eq_false_or_eq_true (h k).m with t1 | t1
   ·have HH : Hid (numL h (k + 1) = numL h k) := numL_not t1
    rw [t1] at c0
    go_wp2
    go_roundw
    case rel => exact ⟨k + 1, by omega, by go_num, (HO.out.below (by go_grown)).to HH.out, by go_grown⟩
    case measure => simp [intOf]; omega
   ·have HH : Hid (numL h (k + 1) = numL h k ++ [(h k).v]) := numL_hit t1
    rw [t1] at c0
    go_wp2_with (at_builtin; refine append_oneN _ (N := wr.heap.size + 1) (by simp) rfl _ _ rfl w.heap.size u3 (numL h k) rfl (HO.out.below (by go_grown)) (h k).v rfl (by omega) (by simp; omega) ?_; intro v' w4 o4 b4; have H4 : Hid (OwnI w4 w.heap.size v' (numL h (k + 1))) := o4.to HH.out; clear o4)
    go_roundw
    case rel => exact ⟨k + 1, by omega, by go_num, H4.out, Below.trans (by go_grown) b4⟩
    case measure => simp [intOf]; omega
  ·have hkl : k = len := by omega
   have H4 : Hid (OwnI wr w.heap.size u3 (numL h len)) := by
    have := HO.out
    rw [hkl] at this
    exact this
   clear HO hkl
   go_wp2
   go_ret
   exact ⟨_, rfl, H4.out, hbw⟩
open Go.ChangeShapes Go.WideShapes Go.ChangeAt Go.Sort
theorem sumL_all {d l : Nat → Nat} (h : ∀ i, d i ≤ l i) (n : Nat) (e : sumL d n = sumL l n) (p : Nat) (hp : p < n) : d p = l p := by
 induction n with
 | zero => omega
 | succ n ih =>
  have h1 := sumL_le h n
  have h2 := h n
  have e' : sumL d n + d n = sumL l n + l n := e
  by_cases hpn : p = n
  ·subst hpn
   omega
  ·exact ih (by omega) (by omega)
structure OrdB (w : World) (D n : Nat) (d : Nat → Nat) : Prop where
 c : ∀ i, i < n → w.cell? ⟨D, i, none⟩ = some (.int .i64 (d i))
 fr : ∀ j, w.frozen? ⟨D, j, none⟩ = false
theorem OrdB.blk {w w' : World} {D n : Nat} {d : Nat → Nat} (h : OrdB w D n d) (hb : w'.heap[D]? = w.heap[D]?) : OrdB w' D n d := ⟨fun i hi => (World.cell?_of_block hb).trans (h.c i hi), fun j => (World.frozen?_of_block hb).trans (h.fr j)⟩
theorem OrdB.put {w : World} {D n k : Nat} {d : Nat → Nat} (h : OrdB w D n d) (hk : k < n) : OrdB (w.setCell ⟨D, k, none⟩ (.int .i64 ((d k : Int) + 1))) D n (up d k) := by
 refine ⟨fun i hi => ?_, fun j => by rw [World.frozen?_setCell]; exact h.fr j⟩
 by_cases e : i = k
 ·subst e
  rw [World.cell?_setCell_same' _ _ _ (by rw [h.c i hi]; rfl), up_same]
  rfl
 ·rw [World.cell?_setCell_other _ _ _ _ (by intro e'; injection e' with _ e'; exact e e'.symm), up_other e]
  exact h.c i hi
structure Od (w wr : World) (B D : Nat) (ha : Option Addr) (hc : Nat) (y : Hs) (d : Nat → Nat) : Prop where
 pu : y.Put d
 od : OrdB wr D y.n d
 bx : wr.cell? ⟨B, 3, none⟩ = some (.slice ha y.n hc)
 be : Below w.heap.size w wr
theorem Od.below {w wr w' : World} {B D : Nat} {ha : Option Addr} {hc : Nat} {y : Hs} {d : Nat → Nat} (h : Od w wr B D ha hc y d) (hb : Below wr.heap.size wr w') (hD : D < wr.heap.size) : Od w w' B D ha hc y d :=
 ⟨h.pu, h.od.blk (hb.block D hD), (hb.cell (p := ⟨B, 3, none⟩) (World.block_lt_of_cell? wr _ h.bx)).trans h.bx, h.be.trans (hb.mono h.be.size)⟩
theorem Od.set {w wr : World} {B D k : Nat} {ha : Option Addr} {hc : Nat} {y : Hs} {d : Nat → Nat} (h : Od w wr B D ha hc y d) (hk : k < y.n) (hcan : y.Can d k) (hBD : B ≠ D) (hw : w.heap.size ≤ D) : Od w (wr.setCell ⟨D, k, none⟩ (.int .i64 ((d k : Int) + 1))) B D ha hc y (up d k) :=
 ⟨.next h.pu hk hcan, h.od.put hk, (World.cell?_setCell_other _ _ _ _ (by intro e; injection e with e; exact hBD e.symm)).trans h.bx, h.be.setCell hw _⟩
theorem madeInt_cell (w : World) (n i : Nat) (hi : i < n) : (w.alloc (.cells (madeCells #[.int .i64 0] n) 3)).cell? ⟨w.heap.size, i, none⟩ = some (.int .i64 0) := by
 rw [new_cell _ _ _ i rfl]
 simp [madeCells, hi, Nat.mod_one]
theorem slice_to (a : Option Addr) (len cap h : Nat) (hh : h ≤ cap) (w : World) : (Instr.slice 84 (.slice a len cap) none (some (.int .i64 (h : Int))) none).run Tryz.prog w = .ok (.slice a h cap) w := by
 have hh' : (h : Int) ≤ (cap : Int) := by omega
 cases a with
 | none => simp [go_sem, sliced, hh']
 | some a => simp [go_sem, sliced, hh']
theorem l4Order_any (pa : Option Addr) (pn pc : Nat) (sa : Option Addr) (sn sc : Nat) (wa : Option Addr) (wn wc : Nat) (ha : Option Addr) (hc : Nat) (hA : Nat → Option Addr) (hC : Nat → Nat) (y : Hs) (w : World) (hE : HisE w ha hA hC y) (hcap : ∀ i, i < y.n → y.l i ≤ hC i) (h1 : 1 ≤ y.n) (h4 : y.n ≤ 4) (hp : y.Peers) (hl : ∀ i, i < y.n → y.l i ≤ 200) :
  Calls Tryz.prog 113 #[sysV pa pn pc sa sn sc wa wn wc ha y.n hc] w fun e w' => e = .returned (.bool (qB y.Row)) ∧ Below w.heap.size w w' := by
 have HE : Hid (HisE w ha hA hC y) := hE
 have HH : Hid (y.Peers ∧ (∀ i, i < y.n → y.l i ≤ 200) ∧ (∀ i, i < y.n → y.l i ≤ hC i)) := ⟨hp, hl, hcap⟩
 have hn4 : (y.n : Int) ≤ 4 := by omega
 have hmk : ∀ wx : World, (Instr.makeSlice 44 (.int .i64 (y.n : Int)) (.int .i64 (y.n : Int))).run Tryz.prog wx = .ok (.slice (some ⟨wx.heap.size, 0, none⟩) y.n y.n) (wx.alloc (.cells (madeCells #[.int .i64 0] y.n) 3)) := fun wx => run_make_int y.n (by omega) wx
 have HOd : Hid (Od w ((w.alloc (oQ4 pa pn pc sa sn sc wa wn wc ha y.n hc)).alloc (.cells (madeCells #[.int .i64 0] y.n) 3)) w.heap.size (w.heap.size + 1) ha hc y (fun _ => 0)) := by
  refine ⟨.start, ⟨fun i hi => ?_, fun j => new_frozen _ _ _ _ (by simp)⟩, ?_, (below_alloc _ _).trans ((below_alloc _ _).mono (by simp))⟩
  ·have := madeInt_cell (w.alloc (oQ4 pa pn pc sa sn sc wa wn wc ha y.n hc)) y.n i hi
   rw [World.size_alloc] at this
   exact this
  ·exact ((BoxC.new w _ _ _ _ _).below (below_alloc _ _)).2.2.2
 have HD : Hid (w.heap.size + 1 < ((w.alloc (oQ4 pa pn pc sa sn sc wa wn wc ha y.n hc)).alloc (.cells (madeCells #[.int .i64 0] y.n) 3)).heap.size) := by
  show w.heap.size + 1 < _
  simp
 clear hE hp hl hcap
 go_enter Tryz.func113, Tryz.ntmps113
 go_wp2_with fail
 generalize (w.alloc (oQ4 pa pn pc sa sn sc wa wn wc ha y.n hc)).alloc (.cells (madeCells #[.int .i64 0] y.n) 3) = W1 at *
 generalize hD : w.heap.size + 1 = D at *
 have HDW : Hid (w.heap.size + 1 = D) := hD
 clear hmk hD
 go_loopw [6, 7] (fun s i wr => ∃ k : Nat, k ≤ y.n ∧ i = .int .i64 k ∧ s = .int .i64 (sumL y.l k : Nat) ∧ wr = W1) (fun _ i _ => y.n - (intOf i).toNat)
 case atStart => exact ⟨0, Nat.zero_le _, rfl, rfl, rfl⟩
 case round =>
  obtain ⟨k, hk, rfl, rfl, rfl⟩ := hrel
  have hsum : sumL y.l k ≤ 200 * k := by
   have : ∀ j, j ≤ y.n → sumL y.l j ≤ 200 * j := by
    intro j
    induction j with
    | zero => exact fun _ => Nat.le_refl _
    | succ j ih =>
     intro hj
     have h5 := ih (by omega)
     have h6 := HH.out.2.1 j (by omega)
     show sumL y.l j + y.l j ≤ 200 * (j + 1)
     omega
   exact this k hk
  have hsum' : ((sumL y.l k : Nat) : Int) ≤ 1000 := by omega
  have b3 := HOd.out.bx
  by_cases hlt : k < y.n
  ·have hlt' : (k : Int) < (y.n : Int) := by omega
   obtain ⟨bh, oh, eh, ch⟩ := (HE.out.below HOd.out.be).row.at hlt
   rw [eh] at b3
   have hl2 : (y.l k : Int) ≤ 200 := by have := HH.out.2.1 k hlt; omega
   clear hsum
   go_wp2
   go_roundw
   case rel => exact ⟨k + 1, by omega, by go_num, by simp only [sumL]; congr 1, by first | rfl | trivial⟩
   case measure => simp [intOf]; omega
  ·have hkn : k = y.n := by omega
   subst hkn
   clear hlt hk hsum b3
   have hlt' : ¬ ((y.n : Int) < (y.n : Int)) := by omega
   have hsumI : ∀ d : Nat → Nat, y.Put d → ((sumL y.l y.n : Nat) : Int) - ((sumL d y.n : Nat) : Int) = ((sumL y.l y.n - sumL d y.n : Nat) : Int) := fun d hd => by
    have := sumL_le hd.le y.n
    omega
   have HSI : Hid (∀ d : Nat → Nat, y.Put d → ((sumL y.l y.n : Nat) : Int) - ((sumL d y.n : Nat) : Int) = ((sumL y.l y.n - sumL d y.n : Nat) : Int)) := hsumI
   have HSM : Hid (((sumL y.l y.n : Nat) : Int) ≤ 1000) := hsum'
   clear hsumI hsum'
   go_wp2_with fail
   go_loopg [5, 6] (2 * (sumL y.l y.n) + 1) (fun gn m s wr => ∃ (t : Bool) (d : Nat → Nat), m = .bool t ∧ s = .int .i64 ((sumL y.l y.n - sumL d y.n : Nat) : Int) ∧ gn = 2 * (sumL y.l y.n - sumL d y.n) + (if t = true then 1 else 0) ∧ Hid (Od w wr w.heap.size D ha hc y d ∧ D < wr.heap.size ∧ (t = false → ∀ p, p < y.n → ¬ y.Can d p)))
   case atStart => exact ⟨true, fun _ => 0, rfl, by rw [sumL_zero]; rfl, by rw [sumL_zero]; rfl, HOd.out, HD.out, fun h => by cases h⟩
   case round =>
    clear HOd HD
    obtain ⟨t, d, rfl, rfl, hgn, HI⟩ := hrel
    rcases Bool.eq_false_or_eq_true t with rfl | rfl
    ·have HGN : Hid (gk = 2 * (sumL y.l y.n - sumL d y.n) + 1) := hgn
     clear hgn
     go_wp2_with fail
     go_loopw [5, 6, 8] (fun m s i wr => ∃ (k : Nat) (t' : Bool) (d' : Nat → Nat), k ≤ y.n ∧ i = .int .i64 k ∧ m = .bool t' ∧ s = .int .i64 ((sumL y.l y.n - sumL d' y.n : Nat) : Int) ∧ Hid (Od w wr w.heap.size D ha hc y d' ∧ D < wr.heap.size ∧ (t' = true → sumL d y.n < sumL d' y.n) ∧ (t' = false → d' = d ∧ ∀ p, p < k → ¬ y.Can d p))) (fun _ _ i _ => y.n - (intOf i).toNat)
     case atStart => exact ⟨0, false, d, Nat.zero_le _, rfl, rfl, rfl, HI.out.1, HI.out.2.1, (fun h => by cases h), fun _ => ⟨rfl, fun p hp => by omega⟩⟩
     case round =>
      clear HI
      obtain ⟨k, t', d', hk, rfl, rfl, rfl, HJ⟩ := hrel
      by_cases hlt : k < y.n
      ·have hlt' : (k : Int) < (y.n : Int) := by omega
       have hdk : d' k ≤ y.l k := HJ.out.1.pu.le k
       have hl2 : (y.l k : Int) ≤ 200 := by have := HH.out.2.1 k hlt; omega
       have dk := HJ.out.1.od.c k hlt
       have b3 := HJ.out.1.bx
       obtain ⟨bh, oh, eh, ch⟩ := (HE.out.below HJ.out.1.be).row.at hlt
       rw [eh] at b3
       by_cases he : d' k = y.l k
       ·have HNo : Hid (¬ y.Can d' k) := fun h => by have := h.1; omega
        have HJ' : ∀ nq, Hid (Od w (wr.drewN nq) w.heap.size D ha hc y d' ∧ D < (wr.drewN nq).heap.size ∧ (t' = true → sumL d y.n < sumL d' y.n) ∧ (t' = false → d' = d ∧ ∀ p, p < k + 1 → ¬ y.Can d p)) := fun nq => ⟨HJ.out.1.below (below_drewN (Below.refl _ _) _) HJ.out.2.1, HJ.out.2.1, HJ.out.2.2.1, fun h => ⟨(HJ.out.2.2.2 h).1, fun p hp => by
         have h5 := HJ.out.2.2.2 h
         by_cases e : p = k
         ·subst e
          rw [← h5.1]
          exact HNo.out
         ·exact h5.2 p (by omega)⟩⟩
        rw [he] at dk
        have HJQ : Hid (∀ nq, Hid (Od w (wr.drewN nq) w.heap.size D ha hc y d' ∧ D < (wr.drewN nq).heap.size ∧ (t' = true → sumL d y.n < sumL d' y.n) ∧ (t' = false → d' = d ∧ ∀ p, p < k + 1 → ¬ y.Can d p))) := HJ'
        clear HJ HJ' he hdk
        go_wp2_with fail
        go_quiet (fail)
        go_wp2
        go_roundw
        case rel => exact ⟨k + 1, t', d', by omega, by go_num, rfl, rfl, HJQ.out _⟩
        case measure => simp [intOf]; omega
       ·have hkl : d' k < y.l k := by omega
        have hkl' : (d' k : Int) < (y.l k : Int) := by omega
        have hne : ((d' k : Int) == (y.l k : Int)) = false := by
         have : ¬ (d' k : Int) = (y.l k : Int) := by omega
         simpa using this
        clear he hdk
        go_wp2_with fail
        go_quiet (fail)
        go_wp2_with fail
        have OD : Hid (Od w (wr.drewN nq) w.heap.size D ha hc y d' ∧ D < (wr.drewN nq).heap.size ∧ (t' = true → sumL d y.n < sumL d' y.n) ∧ (t' = false → d' = d ∧ ∀ p, p < k → ¬ y.Can d p)) := ⟨HJ.out.1.below (below_drewN (Below.refl _ _) _) HJ.out.2.1, HJ.out.2.1, HJ.out.2.2⟩
        clear HJ dk b3 ch
        generalize wr.drewN nq = wd at *
        have dk := OD.out.1.od.c k hlt
        have b3 := OD.out.1.bx
        obtain ⟨bh', oh', eh', ch⟩ := (HE.out.below OD.out.1.be).row.at hlt
        rw [eh'] at b3
        obtain ⟨b, off, ea, zb, e0, e1, e2⟩ := ((HE.out.below OD.out.1.be).ev k hlt).at hkl
        rw [ea] at ch
        have n1 : wd.heap.size ≠ D := by have := OD.out.2.1; omega
        have n2 : wd.heap.size ≠ b := by omega
        have n3 : wd.heap.size ≠ bh' := by have := World.block_lt_of_cell? wd _ ch; simp at this; omega
        have dk' := cell_allocs dk
        have b3' := cell_allocs b3
        have ch' := cell_allocs ch
        have e0' := cell_allocs e0
        have e1' := cell_allocs e1
        have e2' := cell_allocs e2
        clear zb
        go_region
        all_goals
         have OZ : Hid (Od w (wd.alloc (oQ0 (y.e k (d' k)).k (y.e k (d' k)).q (y.e k (d' k)).v)).drew w.heap.size D ha hc y d' ∧ D < (wd.alloc (oQ0 (y.e k (d' k)).k (y.e k (d' k)).q (y.e k (d' k)).v)).drew.heap.size ∧ (t' = true → sumL d y.n < sumL d' y.n) ∧ (t' = false → d' = d ∧ ∀ p, p < k → ¬ y.Can d p)) := ⟨OD.out.1.below (below_alloc _ _).drew OD.out.2.1, Nat.lt_of_lt_of_le OD.out.2.1 (below_alloc _ _).drew.size, OD.out.2.2⟩
         have z0 : (wd.alloc (oQ0 (y.e k (d' k)).k (y.e k (d' k)).q (y.e k (d' k)).v)).drew.cell? ⟨wd.heap.size, 0, none⟩ = some (.int .i64 (y.e k (d' k)).k) := new_cell wd _ _ 0 rfl
         have z1 : (wd.alloc (oQ0 (y.e k (d' k)).k (y.e k (d' k)).q (y.e k (d' k)).v)).drew.cell? ⟨wd.heap.size, 1, none⟩ = some (.int .i64 (y.e k (d' k)).q) := new_cell wd _ _ 1 rfl
         go_wp2_with fail
         clear dk b3 ch e0 e1 e2 dk' b3' ch' e0' e1' e2' n1 n2 n3 OD eh eh' ea
         generalize (wd.alloc (oQ0 (y.e k (d' k)).k (y.e k (d' k)).q (y.e k (d' k)).v)).drew = wz at *
         generalize wd.heap.size = M at *
         rcases Bool.eq_false_or_eq_true ((y.e k (d' k)).k == 3) with t3 | t3
         case inr =>
          have HK3 : Hid (¬ (y.e k (d' k)).k = 3) := by
           show ¬ (y.e k (d' k)).k = 3
           simpa using t3
          go_quiet (fail)
          have OQ : Hid (Od w (wz.drewN nq) w.heap.size D ha hc y d' ∧ D < (wz.drewN nq).heap.size ∧ (t' = true → sumL d y.n < sumL d' y.n) ∧ (t' = false → d' = d ∧ ∀ p, p < k → ¬ y.Can d p)) := ⟨OZ.out.1.below (below_drewN (Below.refl _ _) _) OZ.out.2.1, OZ.out.2.1, OZ.out.2.2⟩
          clear z0 z1 OZ
          generalize wz.drewN nq = wq at *
          have HCn : Hid (y.Can d' k) := ⟨hkl, fun h => absurd h HK3.out⟩
          have HPu : Hid (y.Put (up d' k)) := .next OQ.out.1.pu hlt HCn.out
          have hsu := sumL_up (d := d') hlt
          have hsl := sumL_le HPu.out.le y.n
          have HLE : Hid (((sumL y.l y.n - sumL d' y.n : Nat) : Int) - 1 = ((sumL y.l y.n - sumL (up d' k) y.n : Nat) : Int)) := by
           show ((sumL y.l y.n - sumL d' y.n : Nat) : Int) - 1 = ((sumL y.l y.n - sumL (up d' k) y.n : Nat) : Int)
           omega
          have hA1 : ((sumL y.l y.n - sumL d' y.n : Nat) : Int) ≤ 1000 := by have := HSM.out; omega
          have hA0 : (1 : Int) ≤ ((sumL y.l y.n - sumL d' y.n : Nat) : Int) := by omega
          have HNx : Hid (Od w (wq.setCell ⟨D, k, none⟩ (.int .i64 ((d' k : Int) + 1))) w.heap.size D ha hc y (up d' k) ∧ D < (wq.setCell ⟨D, k, none⟩ (.int .i64 ((d' k : Int) + 1))).heap.size ∧ (true = true → sumL d y.n < sumL (up d' k) y.n) ∧ (true = false → up d' k = d ∧ ∀ p, p < k + 1 → ¬ y.Can d p)) := ⟨OQ.out.1.set hlt HCn.out (by have := HDW.out; omega) (by have := HDW.out; omega), by simpa [World.setCell] using OQ.out.2.1, (fun _ => by
           rcases Bool.eq_false_or_eq_true t' with h5 | h5
           ·have := OQ.out.2.2.1 h5
            omega
           ·have := (OQ.out.2.2.2 h5).1
            rw [this] at hsu ⊢
            omega), (fun h => by cases h)⟩
          have dkq := OQ.out.1.od.c k hlt
          have frq := OQ.out.1.od.fr
          clear hsu hsl OQ
          generalize hAA : ((sumL y.l y.n - sumL d' y.n : Nat) : Int) = AA at *
          clear hAA
          go_wp2
          go_roundw
          case rel => exact ⟨k + 1, true, up d' k, by omega, by go_num, rfl, by rw [HLE.out], HNx.out⟩
          case measure => simp [intOf]; omega
         case inl =>
          have hk3 : (y.e k (d' k)).k = 3 := by simpa using t3
          have HK3 : Hid ((y.e k (d' k)).k = 3) := hk3
          have hq := HH.out.1 k hlt (d' k) hkl
          obtain ⟨q, hqe⟩ : ∃ q : Nat, (y.e k (d' k)).q = (q : Int) := ⟨(y.e k (d' k)).q.toNat, by omega⟩
          have HQE : Hid ((y.e k (d' k)).q = (q : Int)) := hqe
          have hqn : q < y.n := by omega
          have hqn' : (q : Int) < (y.n : Int) := by omega
          rw [hk3] at z0
          rw [hqe] at z1
          have dk := OZ.out.1.od.c k hlt
          have dq := OZ.out.1.od.c q hqn
          have b3 := OZ.out.1.bx
          obtain ⟨bz, oz, ez, ch⟩ := (HE.out.below OZ.out.1.be).row.at hlt
          obtain ⟨bz', oz', ez', cq⟩ := (HE.out.below OZ.out.1.be).row.at hqn
          rw [ez] at b3 ez'
          simp only [Option.some.injEq, Addr.mk.injEq] at ez'
          obtain ⟨rfl, rfl, -⟩ := ez'
          have ks := slice_to (hA k) (y.l k) (hC k) (d' k) (by have := HH.out.2.2 k hlt; omega)
          have qs := slice_to (hA q) (y.l q) (hC q) (d' q) (by have := HH.out.2.2 q hqn; have := OZ.out.1.pu.le q; omega)
          have HCk : Hid (∀ dd os, Calls Tryz.prog 177 #[.slice (hA k) (d' k) (hC k), .int .i64 3, .int .i64 q] (grow (redrawn wz dd) os) fun e w' => e = .returned (.int .i64 (cnt (y.e k) 3 q (d' k) : Nat)) ∧ Below (grow (redrawn wz dd) os).heap.size (grow (redrawn wz dd) os) w') := fun dd os => specCount_l (hA k) (d' k) (hC k) (y.e k) 3 q _ (by have := HH.out.2.1 k hlt; omega) (((HE.out.below OZ.out.1.be).below (below_regrown wz dd os)).ev k hlt |>.take (by omega))
          have HCq : Hid (∀ dd os, Calls Tryz.prog 177 #[.slice (hA q) (d' q) (hC q), .int .i64 2, .int .i64 k] (grow (redrawn wz dd) os) fun e w' => e = .returned (.int .i64 (cnt (y.e q) 2 k (d' q) : Nat)) ∧ Below (grow (redrawn wz dd) os).heap.size (grow (redrawn wz dd) os) w') := fun dd os => specCount_l (hA q) (d' q) (hC q) (y.e q) 2 k _ (by have := HH.out.2.1 q hqn; have := OZ.out.1.pu.le q; omega) (((HE.out.below OZ.out.1.be).below (below_regrown wz dd os)).ev q hqn |>.take (OZ.out.1.pu.le q))
          have z0' := cell_regrown z0
          have z1' := cell_regrown z1
          have dk' := cell_regrown dk
          have dq' := cell_regrown dq
          have b3' := cell_regrown b3
          have ch' := cell_regrown ch
          have cq' := cell_regrown cq
          clear ez hq hqe hk3 t3
          refine wp_region_quiet_below (by kernel_rfl) (by kernel_rfl) ?_
          repeat (quiet_step (first | (go_at_call_of 177 (hA k); exact Calls.regrown_of (HCk.out _ _)) | (go_at_call_of 177 (hA q); exact Calls.regrown_of (HCq.out _ _))))
          refine wpQuiet_nil ?_
          intro _ hw'
          obtain ⟨⟨dd, os⟩, hw''⟩ := hw'
          subst hw''
          have OQ : Hid (Od w (grow (redrawn wz dd) os) w.heap.size D ha hc y d' ∧ D < (grow (redrawn wz dd) os).heap.size ∧ (t' = true → sumL d y.n < sumL d' y.n) ∧ (t' = false → d' = d ∧ ∀ p, p < k → ¬ y.Can d p)) := ⟨OZ.out.1.below (below_regrown wz dd os) OZ.out.2.1, Nat.lt_of_lt_of_le OZ.out.2.1 (below_regrown wz dd os).size, OZ.out.2.2⟩
          clear z0' z1' dk' dq' b3' ch' cq' z0 z1 dk dq b3 ch cq ks qs HCk HCq OZ
          generalize grow (redrawn wz dd) os = wq at *
          have HCan : Hid (y.Can d' k ↔ cnt (y.e k) 3 q (d' k) < cnt (y.e q) 2 k (d' q)) := by
           show y.Can d' k ↔ _
           unfold Hs.Can
           rw [HQE.out]
           rw [show ((q : Int)).toNat = q by omega]
           exact ⟨fun h => h.2 HK3.out, fun h => ⟨hkl, fun _ => h⟩⟩
          generalize cnt (y.e k) 3 q (d' k) = c1 at *
          generalize cnt (y.e q) 2 k (d' q) = c2 at *
          by_cases hcc : (c2 : Int) ≤ (c1 : Int)
          ·have HNo : Hid (¬ y.Can d' k) := fun h => by have := HCan.out.1 h; omega
           have HJ2 : Hid (Od w wq w.heap.size D ha hc y d' ∧ D < wq.heap.size ∧ (t' = true → sumL d y.n < sumL d' y.n) ∧ (t' = false → d' = d ∧ ∀ p, p < k + 1 → ¬ y.Can d p)) := ⟨OQ.out.1, OQ.out.2.1, OQ.out.2.2.1, fun h => ⟨(OQ.out.2.2.2 h).1, fun p hp => by
            have h5 := OQ.out.2.2.2 h
            by_cases e : p = k
            ·subst e
             rw [← h5.1]
             exact HNo.out
            ·exact h5.2 p (by omega)⟩⟩
           clear OQ HCan
           go_wp2
           go_roundw
           case rel => exact ⟨k + 1, t', d', by omega, by go_num, rfl, rfl, HJ2.out⟩
           case measure => simp [intOf]; omega
          ·have HCx : Hid (y.Can d' k) := HCan.out.2 (by omega)
           clear HCan
           have HCn : Hid (y.Can d' k) := HCx.out
           have HPu : Hid (y.Put (up d' k)) := .next OQ.out.1.pu hlt HCn.out
           have hsu := sumL_up (d := d') hlt
           have hsl := sumL_le HPu.out.le y.n
           have HLE : Hid (((sumL y.l y.n - sumL d' y.n : Nat) : Int) - 1 = ((sumL y.l y.n - sumL (up d' k) y.n : Nat) : Int)) := by
            show ((sumL y.l y.n - sumL d' y.n : Nat) : Int) - 1 = ((sumL y.l y.n - sumL (up d' k) y.n : Nat) : Int)
            omega
           have hA1 : ((sumL y.l y.n - sumL d' y.n : Nat) : Int) ≤ 1000 := by have := HSM.out; omega
           have hA0 : (1 : Int) ≤ ((sumL y.l y.n - sumL d' y.n : Nat) : Int) := by omega
           have HNx : Hid (Od w (wq.setCell ⟨D, k, none⟩ (.int .i64 ((d' k : Int) + 1))) w.heap.size D ha hc y (up d' k) ∧ D < (wq.setCell ⟨D, k, none⟩ (.int .i64 ((d' k : Int) + 1))).heap.size ∧ (true = true → sumL d y.n < sumL (up d' k) y.n) ∧ (true = false → up d' k = d ∧ ∀ p, p < k + 1 → ¬ y.Can d p)) := ⟨OQ.out.1.set hlt HCn.out (by have := HDW.out; omega) (by have := HDW.out; omega), by simpa [World.setCell] using OQ.out.2.1, (fun _ => by
            rcases Bool.eq_false_or_eq_true t' with h5 | h5
            ·have := OQ.out.2.2.1 h5
             omega
            ·have := (OQ.out.2.2.2 h5).1
             rw [this] at hsu ⊢
             omega), (fun h => by cases h)⟩
           have dkq := OQ.out.1.od.c k hlt
           have frq := OQ.out.1.od.fr
           clear hsu hsl OQ
           generalize hAA : ((sumL y.l y.n - sumL d' y.n : Nat) : Int) = AA at *
           clear hAA
           go_wp2
           go_roundw
           case rel => exact ⟨k + 1, true, up d' k, by omega, by go_num, rfl, by rw [HLE.out], HNx.out⟩
           case measure => simp [intOf]; omega
      ·have hkn : k = y.n := by omega
       subst hkn
       have HF : Hid (2 * (sumL y.l y.n - sumL d' y.n) + (if t' = true then 1 else 0) < gk) := by
        have h2 := HGN.out
        have h3 := sumL_le HJ.out.1.pu.le y.n
        show _ < gk
        cases t' with
        | true =>
         have h4 := HJ.out.2.2.1 rfl
         simp only [if_true]
         omega
        | false =>
         have h4 := (HJ.out.2.2.2 rfl).1
         rw [h4]
         simp only [Bool.false_eq_true, if_false]
         omega
       have HG2 : Hid (Od w wr w.heap.size D ha hc y d' ∧ D < wr.heap.size ∧ (t' = false → ∀ p, p < y.n → ¬ y.Can d' p)) := ⟨HJ.out.1, HJ.out.2.1, fun h p hp => by
        have := HJ.out.2.2.2 h
        rw [this.1]
        exact this.2 p hp⟩
       clear HJ
       go_wp2
       go_roundg (2 * (sumL y.l y.n - sumL d' y.n) + (if t' = true then 1 else 0))
       case measure => exact HF.out
       case rel => exact ⟨t', d', rfl, rfl, rfl, HG2.out⟩
    ·have HR : Hid ((((sumL y.l y.n - sumL d y.n : Nat) : Int) == 0) = qB y.Row) := by
      show (((sumL y.l y.n - sumL d y.n : Nat) : Int) == 0) = qB y.Row
      have hi := Hs.row_iff HI.out.1.pu HH.out.1 (HI.out.2.2 rfl)
      have hle := HI.out.1.pu.le
      by_cases hr : y.Row
      ·have : sumL d y.n = sumL y.l y.n := sumL_same fun i hi' => hi.1 hr i hi'
       rw [qB_true hr, this]
       simp
      ·rw [qB_false hr]
       have : sumL y.l y.n - sumL d y.n ≠ 0 := fun e => hr (hi.2 (sumL_all hle _ (by have := sumL_le hle y.n; omega)))
       have h2 : ((sumL y.l y.n - sumL d y.n : Nat) : Int) ≠ 0 := by omega
       simpa using h2
     have HB : Hid (Below w.heap.size w wr) := HI.out.1.be
     clear HI hgn
     go_wp2
     go_ret
     rw [HR.out]
     exact ⟨rfl, HB.out⟩
theorem eqSys_same (x : SysIn) (l1 u1 l2 u2 : Nat) (v1 v2 : Value) (w : World) (hs : x.size ≤ 1048576) (o1 : IsSys w l1 u1 x v1) (o2 : IsSys w l2 u2 x v2) :
  Calls Tryz.prog 25 #[v1, v2] w fun e w' => e = .returned (.bool true) ∧ Below w.heap.size w w' := by
 obtain ⟨D1, D2, D3, D4, b1, vs, b3, b4, h1, h2, h3, o1⟩ := o1
 obtain ⟨E1, E2, E3, E4, c1, us, c3, c4, g1, g2, g3, o2⟩ := o2
 have HS : Hid (x.size ≤ 1048576) := hs
 obtain ⟨rfl, p1, s1, w1, i1, -, -, -, -⟩ := o1
 obtain ⟨rfl, p2, s2, w2, i2, -, -, -, -⟩ := o2
 have P1 : Hid (OutIns w D1 h1 x.pn x.pL b1 x.pH) := p1
 have P2 : Hid (OutIns w E1 g1 x.pn x.pL c1 x.pH) := p2
 have S1 : Hid (OutState w D2 h2 x.sn x.sS vs) := s1
 have S2 : Hid (OutState w E2 g2 x.sn x.sS us) := s2
 have W1 : Hid (OutItem w D3 h3 x.wn x.wL b3 x.wH) := w1
 have W2 : Hid (OutItem w E3 g3 x.wn x.wL c3 x.wH) := w2
 have I1 : Hid (OutEvent w D4 u1 x.hn x.hL b4 x.hH) := i1
 have I2 : Hid (OutEvent w E4 u2 x.hn x.hL c4 x.hH) := i2
 clear p1 p2 s1 s2 w1 w2 i1 i2 hs
 go_enter Tryz.func25, Tryz.ntmps25
 have X0 : Hid (BoxC ((w.alloc (oQ4 (some ⟨D1, 0, none⟩) x.pn x.pn (some ⟨D2, 0, none⟩) x.sn x.sn (some ⟨D3, 0, none⟩) x.wn x.wn (some ⟨D4, 0, none⟩) x.hn x.hn)).alloc (oQ4 (some ⟨E1, 0, none⟩) x.pn x.pn (some ⟨E2, 0, none⟩) x.sn x.sn (some ⟨E3, 0, none⟩) x.wn x.wn (some ⟨E4, 0, none⟩) x.hn x.hn)) w.heap.size (.slice (some ⟨D1, 0, none⟩) x.pn x.pn) (.slice (some ⟨D2, 0, none⟩) x.sn x.sn) (.slice (some ⟨D3, 0, none⟩) x.wn x.wn) (.slice (some ⟨D4, 0, none⟩) x.hn x.hn) ∧ BoxC ((w.alloc (oQ4 (some ⟨D1, 0, none⟩) x.pn x.pn (some ⟨D2, 0, none⟩) x.sn x.sn (some ⟨D3, 0, none⟩) x.wn x.wn (some ⟨D4, 0, none⟩) x.hn x.hn)).alloc (oQ4 (some ⟨E1, 0, none⟩) x.pn x.pn (some ⟨E2, 0, none⟩) x.sn x.sn (some ⟨E3, 0, none⟩) x.wn x.wn (some ⟨E4, 0, none⟩) x.hn x.hn)) (w.heap.size + 1) (.slice (some ⟨E1, 0, none⟩) x.pn x.pn) (.slice (some ⟨E2, 0, none⟩) x.sn x.sn) (.slice (some ⟨E3, 0, none⟩) x.wn x.wn) (.slice (some ⟨E4, 0, none⟩) x.hn x.hn) ∧ Below w.heap.size w ((w.alloc (oQ4 (some ⟨D1, 0, none⟩) x.pn x.pn (some ⟨D2, 0, none⟩) x.sn x.sn (some ⟨D3, 0, none⟩) x.wn x.wn (some ⟨D4, 0, none⟩) x.hn x.hn)).alloc (oQ4 (some ⟨E1, 0, none⟩) x.pn x.pn (some ⟨E2, 0, none⟩) x.sn x.sn (some ⟨E3, 0, none⟩) x.wn x.wn (some ⟨E4, 0, none⟩) x.hn x.hn)) ∧ w.heap.size + 2 ≤ ((w.alloc (oQ4 (some ⟨D1, 0, none⟩) x.pn x.pn (some ⟨D2, 0, none⟩) x.sn x.sn (some ⟨D3, 0, none⟩) x.wn x.wn (some ⟨D4, 0, none⟩) x.hn x.hn)).alloc (oQ4 (some ⟨E1, 0, none⟩) x.pn x.pn (some ⟨E2, 0, none⟩) x.sn x.sn (some ⟨E3, 0, none⟩) x.wn x.wn (some ⟨E4, 0, none⟩) x.hn x.hn)).heap.size) := by
  have n1 := BoxC.new w (.slice (some ⟨D1, 0, none⟩) x.pn x.pn) (.slice (some ⟨D2, 0, none⟩) x.sn x.sn) (.slice (some ⟨D3, 0, none⟩) x.wn x.wn) (.slice (some ⟨D4, 0, none⟩) x.hn x.hn) 29
  have n2 := BoxC.new (w.alloc (oQ4 (some ⟨D1, 0, none⟩) x.pn x.pn (some ⟨D2, 0, none⟩) x.sn x.sn (some ⟨D3, 0, none⟩) x.wn x.wn (some ⟨D4, 0, none⟩) x.hn x.hn)) (.slice (some ⟨E1, 0, none⟩) x.pn x.pn) (.slice (some ⟨E2, 0, none⟩) x.sn x.sn) (.slice (some ⟨E3, 0, none⟩) x.wn x.wn) (.slice (some ⟨E4, 0, none⟩) x.hn x.hn) 29
  simp only [World.size_alloc] at n2
  exact ⟨n1.below (below_allocS _ _), n2, ((Below.refl _ _).alloc (Nat.le_refl _) _).alloc (by simp) _, by simp⟩
 go_wp2_with fail
 generalize (w.alloc (oQ4 (some ⟨D1, 0, none⟩) x.pn x.pn (some ⟨D2, 0, none⟩) x.sn x.sn (some ⟨D3, 0, none⟩) x.wn x.wn (some ⟨D4, 0, none⟩) x.hn x.hn)).alloc (oQ4 (some ⟨E1, 0, none⟩) x.pn x.pn (some ⟨E2, 0, none⟩) x.sn x.sn (some ⟨E3, 0, none⟩) x.wn x.wn (some ⟨E4, 0, none⟩) x.hn x.hn) = wA at *
 refine (eqInsSS_same D1 h1 E1 g1 x.pn _ _ x.pL b1 c1 x.pH _ (SysIn.lens HS.out).1.1 (sum_le (SysIn.lens HS.out).1.2) (P1.out.below X0.out.2.2.1 P1.out.le) (P2.out.below X0.out.2.2.1 P2.out.le)).mono ?_
 rintro e w1 ⟨rfl, b1'⟩
 have X1 : Hid (BoxC w1 w.heap.size (.slice (some ⟨D1, 0, none⟩) x.pn x.pn) (.slice (some ⟨D2, 0, none⟩) x.sn x.sn) (.slice (some ⟨D3, 0, none⟩) x.wn x.wn) (.slice (some ⟨D4, 0, none⟩) x.hn x.hn) ∧ BoxC w1 (w.heap.size + 1) (.slice (some ⟨E1, 0, none⟩) x.pn x.pn) (.slice (some ⟨E2, 0, none⟩) x.sn x.sn) (.slice (some ⟨E3, 0, none⟩) x.wn x.wn) (.slice (some ⟨E4, 0, none⟩) x.hn x.hn) ∧ Below w.heap.size w w1 ∧ w.heap.size + 2 ≤ w1.heap.size) := ⟨X0.out.1.below b1', X0.out.2.1.below b1', X0.out.2.2.1.trans (b1'.mono X0.out.2.2.1.size), Nat.le_trans X0.out.2.2.2 b1'.size⟩
 have BE1 : Hid (Below w.heap.size w w1) := X1.out.2.2.1
 clear X0 b1'
 obtain ⟨⟨p0, p1, p2, p3⟩, ⟨q0, q1, q2, q3⟩, -, le⟩ := X1.out
 go_wp2_with fail
 clear p0 p1 p2 p3 q0 q1 q2 q3 le
 refine (eqStateS_same D2 h2 E2 g2 x.sn _ _ x.sS vs us _ (SysIn.lens HS.out).2.1.1 (SysIn.lensS HS.out) (S1.out.below BE1.out S1.out.le) (S2.out.below BE1.out S2.out.le)).mono ?_
 rintro e w2 ⟨rfl, b2'⟩
 have X2 : Hid (BoxC w2 w.heap.size (.slice (some ⟨D1, 0, none⟩) x.pn x.pn) (.slice (some ⟨D2, 0, none⟩) x.sn x.sn) (.slice (some ⟨D3, 0, none⟩) x.wn x.wn) (.slice (some ⟨D4, 0, none⟩) x.hn x.hn) ∧ BoxC w2 (w.heap.size + 1) (.slice (some ⟨E1, 0, none⟩) x.pn x.pn) (.slice (some ⟨E2, 0, none⟩) x.sn x.sn) (.slice (some ⟨E3, 0, none⟩) x.wn x.wn) (.slice (some ⟨E4, 0, none⟩) x.hn x.hn) ∧ Below w.heap.size w w2 ∧ w.heap.size + 2 ≤ w2.heap.size) := ⟨X1.out.1.below b2', X1.out.2.1.below b2', X1.out.2.2.1.trans (b2'.mono X1.out.2.2.1.size), Nat.le_trans X1.out.2.2.2 b2'.size⟩
 have BE2 : Hid (Below w.heap.size w w2) := X2.out.2.2.1
 clear X1 b2' BE1
 obtain ⟨⟨p0, p1, p2, p3⟩, ⟨q0, q1, q2, q3⟩, -, le⟩ := X2.out
 go_wp2_with fail
 clear p0 p1 p2 p3 q0 q1 q2 q3 le
 refine (eqItemSS_same D3 h3 E3 g3 x.wn _ _ x.wL b3 c3 x.wH _ (SysIn.lens HS.out).2.2.1.1 (sum_le (SysIn.lens HS.out).2.2.1.2) (W1.out.below BE2.out W1.out.le) (W2.out.below BE2.out W2.out.le)).mono ?_
 rintro e w3 ⟨rfl, b3'⟩
 have X3 : Hid (BoxC w3 w.heap.size (.slice (some ⟨D1, 0, none⟩) x.pn x.pn) (.slice (some ⟨D2, 0, none⟩) x.sn x.sn) (.slice (some ⟨D3, 0, none⟩) x.wn x.wn) (.slice (some ⟨D4, 0, none⟩) x.hn x.hn) ∧ BoxC w3 (w.heap.size + 1) (.slice (some ⟨E1, 0, none⟩) x.pn x.pn) (.slice (some ⟨E2, 0, none⟩) x.sn x.sn) (.slice (some ⟨E3, 0, none⟩) x.wn x.wn) (.slice (some ⟨E4, 0, none⟩) x.hn x.hn) ∧ Below w.heap.size w w3 ∧ w.heap.size + 2 ≤ w3.heap.size) := ⟨X2.out.1.below b3', X2.out.2.1.below b3', X2.out.2.2.1.trans (b3'.mono X2.out.2.2.1.size), Nat.le_trans X2.out.2.2.2 b3'.size⟩
 have BE3 : Hid (Below w.heap.size w w3) := X3.out.2.2.1
 clear X2 b3' BE2
 obtain ⟨⟨p0, p1, p2, p3⟩, ⟨q0, q1, q2, q3⟩, -, le⟩ := X3.out
 go_wp2_with fail
 clear p0 p1 p2 p3 q0 q1 q2 q3 le
 refine (eqEventSS_same D4 u1 E4 u2 x.hn _ _ x.hL b4 c4 x.hH _ (SysIn.lens HS.out).2.2.2.1 (sum_le (SysIn.lens HS.out).2.2.2.2) (I1.out.below BE3.out I1.out.le) (I2.out.below BE3.out I2.out.le)).mono ?_
 rintro e w4 ⟨rfl, b4'⟩
 have X4 : Hid (BoxC w4 w.heap.size (.slice (some ⟨D1, 0, none⟩) x.pn x.pn) (.slice (some ⟨D2, 0, none⟩) x.sn x.sn) (.slice (some ⟨D3, 0, none⟩) x.wn x.wn) (.slice (some ⟨D4, 0, none⟩) x.hn x.hn) ∧ BoxC w4 (w.heap.size + 1) (.slice (some ⟨E1, 0, none⟩) x.pn x.pn) (.slice (some ⟨E2, 0, none⟩) x.sn x.sn) (.slice (some ⟨E3, 0, none⟩) x.wn x.wn) (.slice (some ⟨E4, 0, none⟩) x.hn x.hn) ∧ Below w.heap.size w w4 ∧ w.heap.size + 2 ≤ w4.heap.size) := ⟨X3.out.1.below b4', X3.out.2.1.below b4', X3.out.2.2.1.trans (b4'.mono X3.out.2.2.1.size), Nat.le_trans X3.out.2.2.2 b4'.size⟩
 have BE4 : Hid (Below w.heap.size w w4) := X4.out.2.2.1
 clear X3 b4' BE3
 go_wp2
 go_ret
 exact ⟨rfl, BE4.out⟩
structure MkY (w wx : World) (lo hi D1 D2 D3 D4 : Nat) (x : SysIn) : Prop where
 tch : Touch (fun b => lo ≤ b ∧ b < hi) w wx
 bx : BoxC wx w.heap.size (.slice (some ⟨D1, 0, none⟩) x.pn x.pn) (.slice (some ⟨D2, 0, none⟩) x.sn x.sn) (.slice (some ⟨D3, 0, none⟩) x.wn x.wn) (.slice (some ⟨D4, 0, none⟩) x.hn x.hn)
 lt : w.heap.size < wx.heap.size
theorem MkY.step {w wx w' : World} {lo hi D1 D2 D3 D4 : Nat} {x : SysIn} (h : MkY w wx lo hi D1 D2 D3 D4 x) (hh : hi ≤ w.heap.size) {P : Nat → Prop} (ht : Touch P wx w') (hp : ∀ b, P b → lo ≤ b ∧ b < hi) : MkY w w' lo hi D1 D2 D3 D4 x := by
 refine ⟨h.tch.trans (ht.mono hp), ?_, Nat.lt_of_lt_of_le h.lt ht.size⟩
 obtain ⟨h0, h1, h2, h3⟩ := h.bx
 have hc : ∀ i, w'.cell? ⟨w.heap.size, i, none⟩ = wx.cell? ⟨w.heap.size, i, none⟩ := fun i => ht.cell h.lt (fun e => by have := hp _ e; omega) i
 exact ⟨(hc _).trans h0, (hc _).trans h1, (hc _).trans h2, (hc _).trans h3⟩
theorem markSys_any (x : SysIn) (lo hi : Nat) (v : Value) (w : World) (hs : x.size ≤ 1048576) (o : IsSys w lo hi x v) :
  Calls Tryz.prog 27 #[v, .int .i64 1] w fun e w' => (∃ z : Int, e = .returned (.int .i64 z) ∧ ¬ z < 0) ∧ Touch (fun b => lo ≤ b ∧ b < hi) w w' := by
 obtain ⟨D1, D2, D3, D4, b1, vs, b3, b4, h1, h2, h3, o⟩ := o
 have HS : Hid (x.size ≤ 1048576) := hs
 obtain ⟨q1, q2, q3, q4, -⟩ := o.hi
 have OO : Hid (OutSys w lo hi x v D1 D2 D3 D4 b1 vs b3 b4 h1 h2 h3) := o
 have QQ : Hid (h1 ≤ hi ∧ h2 ≤ hi ∧ h3 ≤ hi ∧ hi ≤ w.heap.size) := ⟨q1, q2, q3, q4⟩
 obtain ⟨rfl, p1, s1, w1, i1, y1, y2, y3, y4⟩ := o
 have Y : Hid (lo ≤ D1 ∧ h1 ≤ D2 ∧ h2 ≤ D3 ∧ h3 ≤ D4 ∧ D1 < h1 ∧ D2 < h2 ∧ D3 < h3 ∧ D4 < hi) := ⟨y1, y2, y3, y4, p1.lt, s1.lt, w1.lt, i1.lt⟩
 have P1 : Hid (OutIns w D1 h1 x.pn x.pL b1 x.pH) := p1
 have S1 : Hid (OutState w D2 h2 x.sn x.sS vs) := s1
 have W1 : Hid (OutItem w D3 h3 x.wn x.wL b3 x.wH) := w1
 have I1 : Hid (OutEvent w D4 hi x.hn x.hL b4 x.hH) := i1
 clear p1 s1 w1 i1 y1 y2 y3 y4 q1 q2 q3 q4 hs OO
 have X0 : Hid (MkY w (w.alloc (oQ4 (some ⟨D1, 0, none⟩) x.pn x.pn (some ⟨D2, 0, none⟩) x.sn x.sn (some ⟨D3, 0, none⟩) x.wn x.wn (some ⟨D4, 0, none⟩) x.hn x.hn)) lo hi D1 D2 D3 D4 x) := ⟨Touch.of_below (below_allocS _ _), BoxC.new w (.slice (some ⟨D1, 0, none⟩) x.pn x.pn) (.slice (some ⟨D2, 0, none⟩) x.sn x.sn) (.slice (some ⟨D3, 0, none⟩) x.wn x.wn) (.slice (some ⟨D4, 0, none⟩) x.hn x.hn) 29, by simp⟩
 have BA : Hid (Below w.heap.size w (w.alloc (oQ4 (some ⟨D1, 0, none⟩) x.pn x.pn (some ⟨D2, 0, none⟩) x.sn x.sn (some ⟨D3, 0, none⟩) x.wn x.wn (some ⟨D4, 0, none⟩) x.hn x.hn))) := below_allocS _ _
 go_enter Tryz.func27, Tryz.ntmps27
 go_wp2_with fail
 generalize w.alloc (oQ4 (some ⟨D1, 0, none⟩) x.pn x.pn (some ⟨D2, 0, none⟩) x.sn x.sn (some ⟨D3, 0, none⟩) x.wn x.wn (some ⟨D4, 0, none⟩) x.hn x.hn) = wA at *
 refine (markInsSS_any D1 h1 x.pn x.pn x.pL b1 x.pH 1 wA (SysIn.lens HS.out).1.1 (SysIn.lens HS.out).1.2 (by omega) (by omega) (P1.out.below BA.out (by have := QQ.out; omega))).mono ?_
 rintro e w1 ⟨rfl, t1⟩
 have X1 : Hid (MkY w w1 lo hi D1 D2 D3 D4 x) := X0.out.step (by have := QQ.out; omega) t1 fun b hb => by have := QQ.out; have := Y.out; omega
 have KS : Hid (OutState w1 D2 h2 x.sn x.sS vs) := (S1.out.below BA.out (by have := QQ.out; omega)).keep t1.size fun k hk1 hk2 => t1.block k (by have := BA.out.size; have := QQ.out; omega) (fun e => by have := Y.out; omega)
 have KW : Hid (OutItem w1 D3 h3 x.wn x.wL b3 x.wH) := (W1.out.below BA.out (by have := QQ.out; omega)).keep t1.size fun k hk1 hk2 => t1.block k (by have := BA.out.size; have := QQ.out; omega) (fun e => by have := Y.out; omega)
 have KI : Hid (OutEvent w1 D4 hi x.hn x.hL b4 x.hH) := (I1.out.below BA.out (by have := QQ.out; omega)).keep t1.size fun k hk1 hk2 => t1.block k (by have := BA.out.size; have := QQ.out; omega) (fun e => by have := Y.out; omega)
 have z1 : 0 ≤ (1 : Int) + 5 * (sumL x.pL x.pn : Nat) ∧ (1 : Int) + 5 * (sumL x.pL x.pn : Nat) ≤ 6000000 := by have := (SysIn.lens HS.out).1.2; omega
 generalize (1 : Int) + 5 * (sumL x.pL x.pn : Nat) = Z1 at *
 have HZ1 : Hid (0 ≤ Z1 ∧ Z1 ≤ 6000000) := z1
 clear t1 X0 P1 S1 W1 I1 BA z1
 obtain ⟨-, ⟨p0, p1, p2, p3⟩, lt⟩ := X1.out
 go_wp2_with fail
 clear p0 p1 p2 p3 lt
 refine (markStateS_any D2 h2 x.sn x.sn x.sS vs Z1 w1 (SysIn.lens HS.out).2.1.1 (SysIn.lens HS.out).2.1.2 HZ1.out.1 (by have := HZ1.out; omega) KS.out).mono ?_
 rintro e w2 ⟨rfl, t2⟩
 have X2 : Hid (MkY w w2 lo hi D1 D2 D3 D4 x) := X1.out.step (by have := QQ.out; omega) t2 fun b hb => by have := QQ.out; have := Y.out; omega
 have KW2 : Hid (OutItem w2 D3 h3 x.wn x.wL b3 x.wH) := KW.out.keep t2.size fun k hk1 hk2 => t2.block k (Nat.lt_of_lt_of_le hk2 KW.out.le) (fun e => by have := Y.out; omega)
 have KI2 : Hid (OutEvent w2 D4 hi x.hn x.hL b4 x.hH) := KI.out.keep t2.size fun k hk1 hk2 => t2.block k (Nat.lt_of_lt_of_le hk2 KI.out.le) (fun e => by have := Y.out; omega)
 have z2 : 0 ≤ Z1 + (2 * x.sn + sumL (lenS x.sS) x.sn : Nat) ∧ Z1 + (2 * x.sn + sumL (lenS x.sS) x.sn : Nat) ≤ 12000000 := by have := (SysIn.lens HS.out).2.1; have := HZ1.out; omega
 generalize Z1 + (2 * x.sn + sumL (lenS x.sS) x.sn : Nat) = Z2 at *
 have HZ2 : Hid (0 ≤ Z2 ∧ Z2 ≤ 12000000) := z2
 clear t2 X1 KS KW KI z2 HZ1
 obtain ⟨-, ⟨p0, p1, p2, p3⟩, lt⟩ := X2.out
 go_wp2_with fail
 clear p0 p1 p2 p3 lt
 refine (markItemSS_any D3 h3 x.wn x.wn x.wL b3 x.wH Z2 w2 (SysIn.lens HS.out).2.2.1.1 (SysIn.lens HS.out).2.2.1.2 HZ2.out.1 (by have := HZ2.out; omega) KW2.out).mono ?_
 rintro e w3 ⟨rfl, t3⟩
 have X3 : Hid (MkY w w3 lo hi D1 D2 D3 D4 x) := X2.out.step (by have := QQ.out; omega) t3 fun b hb => by have := QQ.out; have := Y.out; omega
 have KI3 : Hid (OutEvent w3 D4 hi x.hn x.hL b4 x.hH) := KI2.out.keep t3.size fun k hk1 hk2 => t3.block k (Nat.lt_of_lt_of_le hk2 KI2.out.le) (fun e => by have := Y.out; omega)
 have z3 : 0 ≤ Z2 + 2 * (sumL x.wL x.wn : Nat) ∧ Z2 + 2 * (sumL x.wL x.wn : Nat) ≤ 18000000 := by have := (SysIn.lens HS.out).2.2.1; have := HZ2.out; omega
 generalize Z2 + 2 * (sumL x.wL x.wn : Nat) = Z3 at *
 have HZ3 : Hid (0 ≤ Z3 ∧ Z3 ≤ 18000000) := z3
 clear t3 X2 KW2 KI2 z3 HZ2
 obtain ⟨-, ⟨p0, p1, p2, p3⟩, lt⟩ := X3.out
 go_wp2_with fail
 clear p0 p1 p2 p3 lt
 refine (markEventSS_any D4 hi x.hn x.hn x.hL b4 x.hH Z3 w3 (SysIn.lens HS.out).2.2.2.1 (SysIn.lens HS.out).2.2.2.2 HZ3.out.1 (by have := HZ3.out; omega) KI3.out).mono ?_
 rintro e w4 ⟨rfl, t4⟩
 have X4 : Hid (MkY w w4 lo hi D1 D2 D3 D4 x) := X3.out.step (by have := QQ.out; omega) t4 fun b hb => by have := QQ.out; have := Y.out; omega
 have HZ4 : Hid (¬ Z3 + 3 * (sumL x.hL x.hn : Nat) < 0) := by
  show ¬ Z3 + 3 * (sumL x.hL x.hn : Nat) < 0
  have := HZ3.out
  omega
 generalize Z3 + 3 * (sumL x.hL x.hn : Nat) = Z4 at *
 clear t4 X3 KI3 HZ3
 go_wp2
 go_ret
 exact ⟨⟨_, rfl, HZ4.out⟩, X4.out.tch⟩
theorem open_sysE {H : Type} {enc : TypeId × Value → H} {w : World} {base b0 : Nat} {held : Bool} {rc : Reach} {v : Value} {d : DataW H} {p : List MemPlace}
  (hv : Value.okWide Tryz.prog w rc b0 53 v) (h : DataW.Trod enc Tryz.prog w base (fun _ => true) held 53 v d p) :
  ∃ x : SysIn, v = sysV x.pa x.pn x.pc x.sa x.sn x.sc x.wa x.wn x.wc x.ha x.hn x.hc ∧ x.Row w ∧ x.Max ∧ (x.size ≤ 1048576 → ∃ y : SysIn, v = sysV y.pa y.pn y.pc y.sa y.sn y.sc y.wa y.wn y.wc y.ha y.hn y.hc ∧ y.Ok w ∧ y.size = x.size) := by
 obtain ⟨cs, rfl, hsz⟩ := okWide_struct Tryz.underlying53 hv
 have h4 : Tryz.prog.cellsOf 53 = 4 := by kernel_rfl
 obtain ⟨c0, c1, c2, c3, rfl⟩ := array4 (hsz.trans h4)
 obtain ⟨fuel, hf⟩ := h
 have hf' : DataW.trod enc Tryz.prog w base (fun _ => true) held fuel 53 [c0, c1, c2, c3] = some (d, p) := by simpa [Value.cells] using hf
 obtain ⟨xs, m, -, -, -, hl, hx⟩ := DataW.trod_struct Tryz.underlying53 hf'
 have hl : xs.length = 4 := hl
 have k0 : Tryz.prog.cellsOf 48 = 1 := by kernel_rfl
 have k1 : Tryz.prog.cellsOf 49 = 1 := by kernel_rfl
 have k2 : Tryz.prog.cellsOf 50 = 1 := by kernel_rfl
 have k3 : Tryz.prog.cellsOf 51 = 1 := by kernel_rfl
 have q0 : DataW.trod enc Tryz.prog w base (fun _ => true) held m 48 [c0] = xs[0]? := by simpa [k0] using hx 0 _ rfl
 have q1 : DataW.trod enc Tryz.prog w base (fun _ => true) held m 49 [c1] = xs[1]? := by simpa [k1] using hx 1 _ rfl
 have q2 : DataW.trod enc Tryz.prog w base (fun _ => true) held m 50 [c2] = xs[2]? := by simpa [k2] using hx 2 _ rfl
 have q3 : DataW.trod enc Tryz.prog w base (fun _ => true) held m 51 [c3] = xs[3]? := by simpa [k3] using hx 3 _ rfl
 rw [List.getElem?_eq_getElem (by omega)] at q0 q1 q2 q3
 have sl : ∀ {t el : TypeId} {c : Value} {y : DataW H × List MemPlace}, Tryz.prog.underlying t = some (.slice el) → DataW.trod enc Tryz.prog w base (fun _ => true) held m t [c] = some y → ∃ a l k, c = .slice a l k := by
  intro t el c y hu hy
  rcases Go.Deep.open_slice hu hy with ⟨hcs, _⟩ | ⟨a, len', cap', m, n, D, Pl, hcs, _⟩
  ·simp at hcs
   exact ⟨_, _, _, hcs⟩
  ·simp at hcs
   exact ⟨_, _, _, hcs⟩
 obtain ⟨pa, pn, pc, rfl⟩ := sl Tryz.underlying48 q0
 obtain ⟨sa, sn, sc, rfl⟩ := sl Tryz.underlying49 q1
 obtain ⟨wa, wn, wc, rfl⟩ := sl Tryz.underlying50 q2
 obtain ⟨ha, hn, hc, rfl⟩ := sl Tryz.underlying51 q3
 obtain ⟨m0, pA, pL, pC, r0, x0, g0⟩ := open_InsSS (d := (xs[0]'(by omega)).1) (p := (xs[0]'(by omega)).2) ⟨m, by simpa [Value.cells] using q0⟩
 obtain ⟨m1, sQ, r1, x1⟩ := open_StateS (d := (xs[1]'(by omega)).1) (p := (xs[1]'(by omega)).2) ⟨m, by simpa [Value.cells] using q1⟩
 obtain ⟨m2, wA, wL, wC, r2, x2, g2⟩ := open_ItemSS (d := (xs[2]'(by omega)).1) (p := (xs[2]'(by omega)).2) ⟨m, by simpa [Value.cells] using q2⟩
 obtain ⟨m3, hA, hL, hC, r3, x3, g3⟩ := open_EventSS (d := (xs[3]'(by omega)).1) (p := (xs[3]'(by omega)).2) ⟨m, by simpa [Value.cells] using q3⟩
 refine ⟨⟨pa, pn, pc, pA, pL, pC, fun _ _ => ⟨0, 0, 0, 0, 0⟩, sa, sn, sc, sQ, wa, wn, wc, wA, wL, wC, fun _ _ => ⟨false, 0⟩, ha, hn, hc, hA, hL, hC, fun _ _ => ⟨0, 0, 0⟩⟩, rfl, ⟨r0, r1, r2, r3⟩, ⟨⟨m0, x0⟩, ⟨m1, x1⟩, ⟨m2, x2⟩, ⟨m3, x3⟩⟩, fun hs => ?_⟩
 have hl := SysIn.lens hs
 obtain ⟨pH, a0⟩ := g0 (sum_le hl.1.2)
 obtain ⟨wH, a2⟩ := g2 (sum_le hl.2.2.1.2)
 obtain ⟨hH, a3⟩ := g3 (sum_le hl.2.2.2.2)
 exact ⟨⟨pa, pn, pc, pA, pL, pC, pH, sa, sn, sc, sQ, wa, wn, wc, wA, wL, wC, wH, ha, hn, hc, hA, hL, hC, hH⟩, rfl, ⟨a0, r1, a2, a3⟩, rfl⟩
theorem open_sys {H : Type} {enc : TypeId × Value → H} {w : World} {base b0 : Nat} {held : Bool} {rc : Reach} {v : Value} {d : DataW H} {p : List MemPlace}
  (hv : Value.okWide Tryz.prog w rc b0 53 v) (h : DataW.Trod enc Tryz.prog w base (fun _ => true) held 53 v d p) :
  ∃ x : SysIn, v = sysV x.pa x.pn x.pc x.sa x.sn x.sc x.wa x.wn x.wc x.ha x.hn x.hc ∧ x.Row w ∧ x.Max ∧ (x.size ≤ 1048576 → ∃ y : SysIn, v = sysV y.pa y.pn y.pc y.sa y.sn y.sc y.wa y.wn y.wc y.ha y.hn y.hc ∧ y.Ok w ∧ y.size ≤ 1048576) := by
 obtain ⟨x, e, hr, hm, hy⟩ := open_sysE hv h
 refine ⟨x, e, hr, hm, fun hs => ?_⟩
 obtain ⟨y, ey, ho, hz⟩ := hy hs
 exact ⟨y, ey, ho, hz ▸ hs⟩
theorem Sy.Ok.bds {y : Sy} (h : y.Ok) : (∀ i, i < y.pn → y.pL i ≤ 30) ∧ (∀ i, i < y.sn → OkS (y.pL i) (y.sS i)) ∧ (∀ i, i < y.wn → y.wL i ≤ 12) ∧ (∀ i, i < y.hn → y.hL i ≤ 200) := by
 obtain ⟨⟨h1, h4⟩, hs, hh, hw⟩ := h.cn
 refine ⟨fun i hi => ?_, fun i hi => h.st (by omega), fun i hi => ?_, fun i hi => h.le200 (by omega)⟩
 ·have h1 := h.four hi
  simp only [progOkB, Bool.and_eq_true, inB, decide_eq_true_eq] at h1
  have := h1.2.1
  omega
 ·rw [hw] at hi
  have ha : i / y.pn < y.pn := Nat.div_lt_of_lt_mul hi
  have hb : i % y.pn < y.pn := Nat.mod_lt _ (by omega)
  have e : i / y.pn * y.pn + i % y.pn = i := by rw [Nat.mul_comm]; exact Nat.div_add_mod i y.pn
  have := h.way ha hb
  rw [e] at this
  exact this
end Go.Proofs.YtnfdnnmddadmkaaGreatDoor
