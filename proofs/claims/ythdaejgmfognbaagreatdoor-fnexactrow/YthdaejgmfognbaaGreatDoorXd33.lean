/- Systems: held against each other, marked, opened. -/
import Derived.Test.YthdaejgmfognbaaGreatDoorXd0
import Derived.Test.YthdaejgmfognbaaGreatDoorXd32
import Derived.Test.YthdaejgmfognbaaGreatDoorXd18
import Derived.Lib.QuietBelow
import Derived.BigRegion
import Derived.BigQuiet
import Derived.Test.YthdaejgmfognbaaGreatDoorXd31
namespace Go.Proofs.YthdaejgmfognbaaGreatDoor
set_option maxRecDepth 100000
set_option maxHeartbeats 2000000
open Go.ChangeShapes Go.WideShapes Go.ChangeAt Go.RowKit Go.Deep Go.Sort
structure LWay (h : Nat -> I2) (len : Nat) (sent : List Int) (t : Nat) : Prop where
 it : ∀ i, i < len -> itemB (h i) = true
 le : len <= 12
 ln : sent.length = t + (numL h len).length
 eq : ∀ j, j < (numL h len).length -> zi (numL h len) j = zi sent (t + j)
theorem zi_append_left {xs ys : List Int} {j : Nat} (h : j < xs.length) : zi (xs ++ ys) j = zi xs j := by
 simp [zi, List.getD_eq_getElem?_getD, List.getElem?_append_left h]
theorem zi_append_right {xs ys : List Int} {j : Nat} : zi (xs ++ ys) (xs.length + j) = zi ys j := by
 simp [zi, List.getD_eq_getElem?_getD, List.getElem?_append_right]
theorem LWay.iff {h : Nat -> I2} {len : Nat} {took sent : List Int} : (LWay h len sent took.length /\ ∀ i, i < took.length -> zi took i = zi sent i) ↔ WayP h len took sent := by
 refine ⟨fun ⟨a, b⟩ => ⟨a.it, a.le, ?_⟩, fun a => ⟨⟨a.it, a.le, by rw [<- a.eq, List.length_append], fun j _ => by rw [<- a.eq, zi_append_right]⟩, fun i hi => by rw [<- a.eq, zi_append_left hi]⟩⟩
 refine list_of_zi (by rw [List.length_append, a.ln]) fun j hj => ?_
 by_cases hl : j < took.length
 ·rw [zi_append_left hl, b j hl]
 ·rw [List.length_append] at hj
  have e : j = took.length + (j - took.length) := by omega
  rw [e, zi_append_right]
  exact a.eq _ (by omega)
theorem l4Way_any (a : Option Addr) (len cap : Nat) (h : Nat -> I2) (sa : Option Addr) (sc : Nat) (sent : List Int) (t : Nat) (w : World) (hlen : len <= 1048576) (hc : ItL w a len h) (hs : sent.length <= 1048576) (hS : Sl w sa sent) (ht : t <= 1048576) :
  Calls Tryz.prog 62 #[.slice a len cap, .slice sa sent.length sc, .int .i64 t] w fun e w' => e = .returned (.bool (pB (LWay h len sent t))) /\ Below w.heap.size w w' := by
 have hl' : (len : Int) <= 1048576 := by omega
 have hs' : (sent.length : Int) <= 1048576 := by omega
 have ht' : (t : Int) <= 1048576 := by omega
 have HC : Hid (ItL w a len h) := hc
 have HS : Hid (Sl w sa sent) := hS
 clear hc hS
 go_enter Tryz.func62, Tryz.ntmps62
 go_wp2_with fail
 go_loopw [7] (fun i wr => ∃ k : Nat, k <= len /\ i = .int .i64 k /\ Below w.heap.size w wr /\ Hid (∀ j, j < k -> itemB (h j) = true)) (fun i _ => len - (intOf i).toNat)
 case atStart => exact ⟨0, Nat.zero_le _, rfl, Below.refl _ _, fun j hj => by omega⟩
 case round =>
  obtain ⟨k, hk, rfl, hbw, HZ⟩ := hrel
  by_cases hlt : k < len
  ·have hlt' : (k : Int) < (len : Int) := by omega
   obtain ⟨b, off, rfl, -, c0, c1⟩ := (HC.out.below hbw).at hlt
   have hN : ∀ {x : Bool}, inB (h k).v (-1000000000) 1000000000 = x -> numB (h k).v = x := fun e => e
   rcases zK (inB (h k).v (-1000000000) 1000000000) with t1 | t1
   ·have go_on : itemB (h k) = true -> Hid (∀ j, j < k + 1 -> itemB (h j) = true) := fun t j hj => by
     by_cases e : j = k
     ·subst e
      exact t
     ·exact HZ.out j (by omega)
    have stop : itemB (h k) = false -> Hid (pB (LWay h len sent t) = false) := fun t => pB_false fun x => by
     have := x.it k hlt
     rw [t] at this
     cases this
    rcases zK (h k).m with t2 | t2
    ·rcases zK ((h k).v != 0) with t3 | t3
     ·have HN := stop (by
       have : ((h k).v == 0) = false := by simpa using t3
       simp [itemB, t2, this])
      rw [t2] at c0
      clear go_on stop HZ hN
      go_wp2_with fail
      refine (l1Num_any _ _).mono ?_
      rintro e w1 ⟨rfl, rfl⟩
      rw [t1]
      go_wp2
      go_ret
      rw [HN.out]
      exact ⟨rfl, hbw⟩
     ·have HZ' := go_on (by
       have : ((h k).v == 0) = true := by simpa using t3
       simp [itemB, hN t1, this])
      rw [t2] at c0
      clear go_on stop HZ hN
      go_wp2_with fail
      refine (l1Num_any _ _).mono ?_
      rintro e w1 ⟨rfl, rfl⟩
      rw [t1]
      go_wp2
      go_roundw
      case rel => exact ⟨k + 1, by omega, by go_num, hbw, HZ'.out⟩
      case measure => simp [intOf]; omega
    ·have HZ' := go_on (by simp [itemB, hN t1, t2])
     rw [t2] at c0
     clear go_on stop HZ hN
     go_wp2_with fail
     refine (l1Num_any _ _).mono ?_
     rintro e w1 ⟨rfl, rfl⟩
     rw [t1]
     go_wp2
     go_roundw
     case rel => exact ⟨k + 1, by omega, by go_num, hbw, HZ'.out⟩
     case measure => simp [intOf]; omega
   ·have HN : Hid (pB (LWay h len sent t) = false) := pB_false fun x => by
     have := x.it k hlt
     simp [itemB, hN t1] at this
    clear HZ hN
    go_wp2_with fail
    refine (l1Num_any _ _).mono ?_
    rintro e w1 ⟨rfl, rfl⟩
    rw [t1]
    go_wp2
    go_ret
    rw [HN.out]
    exact ⟨rfl, hbw⟩
  ·have HZ' : Hid (∀ j, j < len -> itemB (h j) = true) := fun j hj => HZ.out j (by omega)
   have hkl : k = len := by omega
   subst hkl
   clear HZ hlt hk
   go_wp2_with fail
   refine (specNumbers_l a k cap h wr hlen (HC.out.below hbw)).mono ?_
   rintro e w1 ⟨v, rfl, o1, b1⟩
   obtain ⟨na, nc, rfl, s1⟩ := o1.form
   have B1 : Hid (Below w.heap.size w w1) := hbw.trans (b1.mono hbw.size)
   have S1 : Hid (Sl w1 na (numL h k)) := s1
   have hnl := numL_le h k
   have hnl' : ((numL h k).length : Int) <= 1048576 := by omega
   clear o1 b1 s1 hbw
   generalize hNU : numL h k = nu at *
   have HNU : Hid (numL h k = nu) := hNU
   clear hNU hnl
   by_cases h12 : k <= 12
   case neg =>
    have h12' : (12 : Int) < (k : Int) := by omega
    have HN : Hid (pB (LWay h k sent t) = false) := pB_false fun x => h12 x.le
    go_wp2
    go_ret
    rw [HN.out]
    exact ⟨rfl, B1.out⟩
   have h12' : ¬ (12 : Int) < (k : Int) := by omega
   rcases zK (((sent.length : Int) - (t : Int)) != (nu.length : Int)) with t5 | t5
   ·have HN : Hid (pB (LWay h k sent t) = false) := pB_false fun x => by
     have := x.ln
     rw [HNU.out] at this
     rw [this] at t5
     simp at t5
     omega
    go_wp2
    go_ret
    rw [HN.out]
    exact ⟨rfl, B1.out⟩
   have HLN : Hid (sent.length = t + nu.length) := by
    show sent.length = t + nu.length
    simp at t5
    omega
   go_wp2_with fail
   go_loopw [9] (fun i wr => ∃ j : Nat, j <= nu.length /\ i = .int .i64 j /\ Below w1.heap.size w1 wr /\ Hid (∀ i, i < j -> zi nu i = zi sent (t + i))) (fun i _ => nu.length - (intOf i).toNat)
   case atStart => exact ⟨0, Nat.zero_le _, rfl, Below.refl _ _, fun j hj => by omega⟩
   case round =>
    obtain ⟨j, hj, rfl, hbw, HZ⟩ := hrel
    have hw : Below w.heap.size w wr := B1.out.trans (hbw.mono B1.out.size)
    by_cases hlt : j < nu.length
    ·have hlt2 : t + j < sent.length := by have := HLN.out; omega
     obtain ⟨b, off, rfl, hbl, ck⟩ := (S1.out.below hbw).at hlt
     obtain ⟨b', off', rfl, hbl', ck'⟩ := (HS.out.below hw).at hlt2
     have hlt' : (j : Int) < (nu.length : Int) := by omega
     have hlt2' : (t : Int) + (j : Int) < (sent.length : Int) := by omega
     have hq : ((t : Int) + (j : Int)).toNat = t + j := by omega
     clear hlt2
     rcases zK (zi nu j != zi sent (t + j)) with t6 | t6
     ·have HN : Hid (pB (LWay h k sent t) = false) := pB_false fun x => by
       have := x.eq j (by rw [HNU.out]; exact hlt)
       rw [HNU.out] at this
       rw [this] at t6
       simp at t6
      go_wp2_with fail
      go_quiet (fail)
      go_wp2
      go_ret
      rw [HN.out]
      exact ⟨rfl, yB hw _⟩
     ·have HZ2 : Hid (∀ i, i < j + 1 -> zi nu i = zi sent (t + i)) := fun i hi => by
       by_cases e : i = j
       ·subst e
        simpa using t6
       ·exact HZ.out i (by omega)
      clear HZ
      go_wp2_with fail
      go_quiet (fail)
      go_wp2
      go_roundw
      case rel => exact ⟨j + 1, by omega, by go_num, yB hbw _, HZ2.out⟩
      case measure => simp [intOf]; omega
    ·have HN : Hid (pB (LWay h k sent t) = true) := pB_true ⟨HZ'.out, h12, by rw [HNU.out]; exact HLN.out, fun i hi => by
      rw [HNU.out] at hi ⊢
      exact HZ.out i (by omega)⟩
     clear HZ
     go_wp2
     go_ret
     rw [HN.out]
     exact ⟨rfl, hw⟩
noncomputable def qB (p : Prop) : Bool := @decide p (Classical.propDecidable _)
theorem qB_true {p : Prop} (h : p) : qB p = true := by simp [qB, h]
theorem qB_false {p : Prop} (h : ¬ p) : qB p = false := by simp [qB, h]
structure HisE (w : World) (ha : Option Addr) (hA : Nat -> Option Addr) (hC : Nat -> Nat) (y : Hs) : Prop where
 row : RowS w ha y.n fun i => .slice (hA i) (y.l i) (hC i)
 ev : ∀ i, i < y.n -> EvL w (hA i) (y.l i) (y.e i)
theorem HisE.below {w w' : World} {ha : Option Addr} {hA : Nat -> Option Addr} {hC : Nat -> Nat} {y : Hs} (h : HisE w ha hA hC y) (hb : Below w.heap.size w w') : HisE w' ha hA hC y := ⟨h.row.below hb, fun i hi => (h.ev i hi).below hb⟩
structure HisP (w : World) (X : Nat) (ha : Option Addr) (hc : Nat) (y : Hs) (d : Nat -> Nat) : Prop where
 c4 : w.cell? ⟨X, 4, none⟩ = some (.slice ha y.n hc)
 pt : ∀ i, i < 4 -> w.cell? ⟨X, 5 + i, none⟩ = some (.int .i64 (d i))
 op : ∀ a b, a < 4 -> b < 4 -> w.cell? ⟨X, 9 + a * 4 + b, none⟩ = some (.int .i64 (y.opn d a b))
 fr : ∀ j, w.frozen? ⟨X, j, none⟩ = false
theorem HisP.lt {w : World} {X : Nat} {ha : Option Addr} {hc : Nat} {y : Hs} {d : Nat -> Nat} (h : HisP w X ha hc y d) : X < w.heap.size := zJ w _ h.c4
theorem HisP.blk {w w' : World} {X : Nat} {ha : Option Addr} {hc : Nat} {y : Hs} {d : Nat -> Nat} (h : HisP w X ha hc y d) (hb : w'.heap[X]? = w.heap[X]?) : HisP w' X ha hc y d :=
 ⟨(zH hb).trans h.c4, fun i hi => (zH hb).trans (h.pt i hi), fun a b h1 h2 => (zH hb).trans (h.op a b h1 h2), fun j => (zI hb).trans (h.fr j)⟩
theorem HisP.below {w w' : World} {X : Nat} {ha : Option Addr} {hc : Nat} {y : Hs} {d : Nat -> Nat} (h : HisP w X ha hc y d) (hb : Below w.heap.size w w') : HisP w' X ha hc y d := h.blk (hb.block X h.lt)
theorem cell_allocs {w : World} {a : Addr} {v : Value} (h : w.cell? a = some v) (o : Obj) : (w.alloc o).cell? a = some v := (World.cell?_alloc_lt w o a (zJ w _ h)).trans h
theorem canPut_any (X : Nat) (ha : Option Addr) (hc : Nat) (hA : Nat -> Option Addr) (hC : Nat -> Nat) (y : Hs) (d : Nat -> Nat) (k : Nat) (w : World) (hE : HisE w ha hA hC y) (hP : HisP w X ha hc y d) (h4 : y.n <= 4) (hk : k < y.n) (hp : y.Peers) (hl : ∀ i, i < y.n -> y.l i <= 200) (hd : ∀ i, d i <= y.l i) :
  Calls Tryz.prog 110 #[.pointer (some ⟨X, 4, none⟩), .int .i64 k] w fun e w' => e = .returned (.bool (qB (y.Can d k))) /\ Below w.heap.size w w' := by
 have HE : Hid (HisE w ha hA hC y) := hE
 have HP : Hid (HisP w X ha hc y d) := hP
 have HCan : Hid (y.Can d k ↔ d k < y.l k /\ ((y.e k (d k)).k = 3 -> 0 < y.opn d (y.e k (d k)).q.toNat k)) := Hs.can_iff hp hk
 have hk4 : (k : Int) < 4 := by omega
 have hk' : (k : Int) < (y.n : Int) := by omega
 have hl200 : (y.l k : Int) <= 200 := by have := hl k hk; omega
 have hdk : (d k : Int) <= (y.l k : Int) := by have := hd k; omega
 obtain ⟨bh, oh, eh, ch⟩ := hE.row.at hk
 obtain ⟨c4, pt, op, -⟩ := hP
 have pk := pt k (by omega)
 rw [eh] at c4
 clear hE
 by_cases he : d k = y.l k
 ·have HN : Hid (qB (y.Can d k) = false) := qB_false fun h => by have := h.1; omega
  rw [he] at pk
  clear op pt
  go_enter Tryz.func110, Tryz.ntmps110
  go_wp2_with fail
  go_quiet (fail)
  go_wp2
  go_ret
  rw [HN.out]
  exact ⟨rfl, yB (Below.refl _ _) _⟩
 ·have hlt : d k < y.l k := by have := hd k; omega
  have hlt' : (d k : Int) < (y.l k : Int) := by omega
  have hne : ((d k : Int) == (y.l k : Int)) = false := by
   have : ¬ (d k : Int) = (y.l k : Int) := by omega
   simpa using this
  obtain ⟨b, off, ea, zb, e0, e1, e2⟩ := (HE.out.ev k hk).at hlt
  rw [ea] at ch
  have n1 : w.heap.size ≠ X := by have := HP.out.lt; omega
  have n2 : w.heap.size ≠ b := by omega
  have n3 : w.heap.size ≠ bh := by have := zJ w _ ch; simp at this; omega
  clear zb
  have hq := hp k hk (d k) hlt
  obtain ⟨q, hqe⟩ : ∃ q : Nat, (y.e k (d k)).q = (q : Int) := ⟨(y.e k (d k)).q.toNat, by omega⟩
  have hq4 : (q : Int) < 4 := by omega
  have oq := op q k (by omega) (by omega)
  rw [hqe] at e1
  rcases zK ((y.e k (d k)).k != 3) with t | t
  ·have HN : Hid (qB (y.Can d k) = true) := qB_true (HCan.out.2 ⟨hlt, fun h => by rw [h] at t; cases t⟩)
   clear op pt hq hqe oq HCan
   generalize (y.e k (d k)).k = kd at *
   generalize (y.e k (d k)).v = vd at *
   go_enter Tryz.func110, Tryz.ntmps110
   go_wp2_with fail
   go_quiet (fail)
   go_wp2_with fail
   have BD : Hid (Below w.heap.size w (w.drewN nq)) := yB (Below.refl _ _) _
   replace n1 : (w.drewN nq).heap.size ≠ X := n1
   replace n2 : (w.drewN nq).heap.size ≠ b := n2
   replace n3 : (w.drewN nq).heap.size ≠ bh := n3
   replace c4 : (w.drewN nq).cell? ⟨X, 4, none⟩ = _ := c4
   replace pk : (w.drewN nq).cell? ⟨X, 5 + k, none⟩ = _ := pk
   replace ch : (w.drewN nq).cell? ⟨bh, oh + k, none⟩ = _ := ch
   replace e0 : (w.drewN nq).cell? ⟨b, off + d k * 3, none⟩ = _ := e0
   replace e1 : (w.drewN nq).cell? ⟨b, off + d k * 3 + 1, none⟩ = _ := e1
   replace e2 : (w.drewN nq).cell? ⟨b, off + d k * 3 + 2, none⟩ = _ := e2
   generalize w.drewN nq = wd at *
   have c4' := cell_allocs c4
   have pk' := cell_allocs pk
   have ch' := cell_allocs ch
   have e0' := cell_allocs e0
   have e1' := cell_allocs e1
   have e2' := cell_allocs e2
   go_region
   all_goals
    go_wp2_with fail
    go_quiet (fail)
    go_wp2
    go_ret
    rw [HN.out]
    exact ⟨rfl, yB (BD.out.trans ((zS _ _).mono BD.out.size)).drew _⟩
  ·have hk3 : (y.e k (d k)).k = 3 := by simpa using t
   have HN : Hid (qB (y.Can d k) = decide (0 < y.opn d q k)) := by
    show qB (y.Can d k) = decide (0 < y.opn d q k)
    have e : (y.e k (d k)).q.toNat = q := by omega
    by_cases h0 : 0 < y.opn d q k
    ·rw [decide_eq_true h0]
     exact qB_true (HCan.out.2 ⟨hlt, fun _ => by rw [e]; exact h0⟩)
    ·rw [decide_eq_false h0]
     refine qB_false fun h => h0 ?_
     have := (HCan.out.1 h).2 hk3
     rwa [e] at this
   rw [hk3] at e0
   clear op pt hq hqe HCan t hk3
   generalize (y.e k (d k)).v = vd at *
   generalize y.opn d q k = on at *
   go_enter Tryz.func110, Tryz.ntmps110
   go_wp2_with fail
   go_quiet (fail)
   go_wp2_with fail
   have BD : Hid (Below w.heap.size w (w.drewN nq)) := yB (Below.refl _ _) _
   replace n1 : (w.drewN nq).heap.size ≠ X := n1
   replace n2 : (w.drewN nq).heap.size ≠ b := n2
   replace n3 : (w.drewN nq).heap.size ≠ bh := n3
   replace c4 : (w.drewN nq).cell? ⟨X, 4, none⟩ = _ := c4
   replace pk : (w.drewN nq).cell? ⟨X, 5 + k, none⟩ = _ := pk
   replace ch : (w.drewN nq).cell? ⟨bh, oh + k, none⟩ = _ := ch
   replace e0 : (w.drewN nq).cell? ⟨b, off + d k * 3, none⟩ = _ := e0
   replace e1 : (w.drewN nq).cell? ⟨b, off + d k * 3 + 1, none⟩ = _ := e1
   replace e2 : (w.drewN nq).cell? ⟨b, off + d k * 3 + 2, none⟩ = _ := e2
   replace oq : (w.drewN nq).cell? ⟨X, 9 + q * 4 + k, none⟩ = _ := oq
   generalize w.drewN nq = wd at *
   have c4' := cell_allocs c4
   have pk' := cell_allocs pk
   have ch' := cell_allocs ch
   have e0' := cell_allocs e0
   have e1' := cell_allocs e1
   have e2' := cell_allocs e2
   have oq' := cell_allocs oq
   go_region
   all_goals
    go_wp2_with fail
    go_quiet (fail)
    go_wp2
    go_ret
    rw [HN.out]
    exact ⟨rfl, yB (BD.out.trans ((zS _ _).mono BD.out.size)).drew _⟩
theorem HisP.put {w w' : World} {X : Nat} {ha : Option Addr} {hc : Nat} {y : Hs} {d : Nat -> Nat} {k : Nat} (h : HisP w X ha hc y d) (c4 : w'.cell? ⟨X, 4, none⟩ = w.cell? ⟨X, 4, none⟩) (pt : ∀ i, i < 4 -> w'.cell? ⟨X, 5 + i, none⟩ = if i = k then some (.int .i64 (d k + 1 : Nat)) else w.cell? ⟨X, 5 + i, none⟩)
  (op : ∀ a b, a < 4 -> b < 4 -> w'.cell? ⟨X, 9 + a * 4 + b, none⟩ = some (.int .i64 (y.opn (up d k) a b))) (fr : ∀ j, w'.frozen? ⟨X, j, none⟩ = false) : HisP w' X ha hc y (up d k) := by
 refine ⟨c4.trans h.c4, fun i hi => ?_, op, fr⟩
 rw [pt i hi]
 by_cases e : i = k
 ·subst e
  rw [if_pos rfl, up_same]
 ·rw [if_neg e, up_other e]
  exact h.pt i hi
theorem Hs.opn_le {y : Hs} {d : Nat -> Nat} (hd : ∀ i, d i <= y.l i) (hl : ∀ i, i < y.n -> y.l i <= 200) {a b : Nat} (ha : a < y.n) (hb : b < y.n) : -200 <= y.opn d a b /\ y.opn d a b <= 200 := by
 have h1 := cnt_le (y.e a) 2 b (d a)
 have h2 := cnt_le (y.e b) 3 a (d b)
 have h3 := hd a
 have h4 := hd b
 have h5 := hl a ha
 have h6 := hl b hb
 unfold Hs.opn
 omega
theorem cell_set2 {w : World} {X i j m : Nat} {u v : Value} {o : Obj} (h1 : m ≠ i) (h2 : m ≠ j) (hX : X < w.heap.size) : (((w.setCell ⟨X, i, none⟩ u).setCell ⟨X, j, none⟩ v).alloc o).cell? ⟨X, m, none⟩ = w.cell? ⟨X, m, none⟩ := by
 rw [World.cell?_alloc_lt _ _ _ (by simpa [World.setCell] using hX), World.cell?_setCell_other _ _ _ _ (by intro e; injection e with _ e; exact h2 e.symm), World.cell?_setCell_other _ _ _ _ (by intro e; injection e with _ e; exact h1 e.symm)]
theorem cell_set2a {w : World} {X i j : Nat} {u v : Value} {o : Obj} (h1 : i ≠ j) (hc : (w.cell? ⟨X, i, none⟩).isSome = true) (hX : X < w.heap.size) : (((w.setCell ⟨X, i, none⟩ u).setCell ⟨X, j, none⟩ v).alloc o).cell? ⟨X, i, none⟩ = some u := by
 rw [World.cell?_alloc_lt _ _ _ (by simpa [World.setCell] using hX), World.cell?_setCell_other _ _ _ _ (by intro e; injection e with _ e; exact h1 e.symm), World.cell?_setCell_same' _ _ _ hc]
theorem cell_set2b {w : World} {X i j : Nat} {u v : Value} {o : Obj} (h1 : i ≠ j) (hc : (w.cell? ⟨X, j, none⟩).isSome = true) (hX : X < w.heap.size) : (((w.setCell ⟨X, i, none⟩ u).setCell ⟨X, j, none⟩ v).alloc o).cell? ⟨X, j, none⟩ = some v := by
 rw [World.cell?_alloc_lt _ _ _ (by simpa [World.setCell] using hX), World.cell?_setCell_same']
 rw [World.cell?_setCell_other _ _ _ _ (by intro e; injection e with _ e; exact h1 e)]
 exact hc
theorem frozen_alloc_lt {w : World} {o : Obj} {X j : Nat} (hX : X < w.heap.size) : (w.alloc o).frozen? ⟨X, j, none⟩ = w.frozen? ⟨X, j, none⟩ := (zS w o).frozen (p := ⟨X, j, none⟩) hX
theorem HisP.put2 {w : World} {X : Nat} {ha : Option Addr} {hc : Nat} {y : Hs} {d : Nat -> Nat} {k i0 j0 : Nat} {on : Int} {o : Obj} (h : HisP w X ha hc y d) (hk : k < 4) (hi : i0 < 4) (hj : j0 < 4) (HO : ∀ a b, y.opn (up d k) a b = if a = i0 /\ b = j0 then on else y.opn d a b) :
  HisP (((w.setCell ⟨X, 9 + i0 * 4 + j0, none⟩ (.int .i64 on)).setCell ⟨X, 5 + k, none⟩ (.int .i64 ((d k : Int) + 1))).alloc o) X ha hc y (up d k) /\ Touch (fun b => b = X) w (((w.setCell ⟨X, 9 + i0 * 4 + j0, none⟩ (.int .i64 on)).setCell ⟨X, 5 + k, none⟩ (.int .i64 ((d k : Int) + 1))).alloc o) := by
 have hX := h.lt
 refine ⟨h.put (k := k) (cell_set2 (by omega) (by omega) hX) (fun i hi' => ?_) (fun a b ha' hb' => ?_) (fun j => ?_), ?_⟩
 ·by_cases e : i = k
  ·subst e
   rw [if_pos rfl, cell_set2b (by omega) (by rw [h.pt i hi']; rfl) hX]
   rfl
  ·rw [if_neg e]
   exact cell_set2 (by omega) (by omega) hX
 ·rw [HO]
  by_cases e : a = i0 /\ b = j0
  ·obtain ⟨rfl, rfl⟩ := e
   rw [if_pos ⟨rfl, rfl⟩]
   exact cell_set2a (by omega) (by rw [h.op a b ha' hb']; rfl) hX
  ·rw [if_neg e, <- h.op a b ha' hb']
   exact cell_set2 (by omega) (by omega) hX
 ·rw [frozen_alloc_lt (by simpa [World.setCell] using hX), World.frozen?_setCell, World.frozen?_setCell]
  exact h.fr j
 ·exact ((Touch.of_set (P := fun b => b = X) w (a := ⟨X, _, none⟩) rfl _).trans (Touch.of_set (P := fun b => b = X) _ (a := ⟨X, _, none⟩) rfl _)).trans (Touch.of_below (zS _ _))
theorem HisP.put1 {w : World} {X : Nat} {ha : Option Addr} {hc : Nat} {y : Hs} {d : Nat -> Nat} {k : Nat} {o : Obj} (h : HisP w X ha hc y d) (hk : k < 4) (HO : ∀ a b, y.opn (up d k) a b = y.opn d a b) :
  HisP ((w.setCell ⟨X, 5 + k, none⟩ (.int .i64 ((d k : Int) + 1))).alloc o) X ha hc y (up d k) /\ Touch (fun b => b = X) w ((w.setCell ⟨X, 5 + k, none⟩ (.int .i64 ((d k : Int) + 1))).alloc o) := by
 have hX := h.lt
 have ho : ∀ m, m ≠ 5 + k -> ((w.setCell ⟨X, 5 + k, none⟩ (.int .i64 ((d k : Int) + 1))).alloc o).cell? ⟨X, m, none⟩ = w.cell? ⟨X, m, none⟩ := fun m hm => by
  rw [World.cell?_alloc_lt _ _ _ (by simpa [World.setCell] using hX), World.cell?_setCell_other _ _ _ _ (by intro e; injection e with _ e; exact hm e.symm)]
 refine ⟨h.put (k := k) (ho 4 (by omega)) (fun i hi' => ?_) (fun a b ha' hb' => ?_) (fun j => ?_), ?_⟩
 ·by_cases e : i = k
  ·subst e
   rw [if_pos rfl, World.cell?_alloc_lt _ _ _ (by simpa [World.setCell] using hX), World.cell?_setCell_same' _ _ _ (by rw [h.pt i hi']; rfl)]
   rfl
  ·rw [if_neg e]
   exact ho _ (by omega)
 ·rw [HO, <- h.op a b ha' hb']
  exact ho _ (by omega)
 ·rw [frozen_alloc_lt (by simpa [World.setCell] using hX), World.frozen?_setCell]
  exact h.fr j
 ·exact (Touch.of_set (P := fun b => b = X) w (a := ⟨X, _, none⟩) rfl _).trans (Touch.of_below (zS _ _))
theorem HisP.dr {w : World} {X : Nat} {ha : Option Addr} {hc : Nat} {y : Hs} {d : Nat -> Nat} (h : HisP w X ha hc y d) : HisP w.drew X ha hc y d := ⟨h.c4, h.pt, h.op, h.fr⟩
theorem Touch.dr {P : Nat -> Prop} {w w' : World} (h : Touch P w w') : Touch P w w'.drew := ⟨h.os, h.tape, h.output, h.size, h.block⟩
theorem putOne_any (X : Nat) (ha : Option Addr) (hc : Nat) (hA : Nat -> Option Addr) (hC : Nat -> Nat) (y : Hs) (d : Nat -> Nat) (k : Nat) (w : World) (hE : HisE w ha hA hC y) (hP : HisP w X ha hc y d) (h4 : y.n <= 4) (hk : k < y.n) (hp : y.Peers) (hl : ∀ i, i < y.n -> y.l i <= 200) (hd : ∀ i, d i <= y.l i) (hlt : d k < y.l k) :
  Calls Tryz.prog 55 #[.pointer (some ⟨X, 4, none⟩), .int .i64 k] w fun e w' => e = .returned (.tuple #[]) /\ HisP w' X ha hc y (up d k) /\ Touch (fun b => b = X) w w' := by
 have HP : Hid (HisP w X ha hc y d) := hP
 have hk4 : (k : Int) < 4 := by omega
 have hk' : (k : Int) < (y.n : Int) := by omega
 have hl200 : (y.l k : Int) <= 200 := by have := hl k hk; omega
 have hlt' : (d k : Int) < (y.l k : Int) := by omega
 obtain ⟨bh, oh, eh, ch⟩ := hE.row.at hk
 obtain ⟨c4, pt, op, fr⟩ := hP
 have pk := pt k (by omega)
 rw [eh] at c4
 obtain ⟨b, off, ea, zb, e0, e1, e2⟩ := (hE.ev k hk).at hlt
 rw [ea] at ch
 have n1 : w.heap.size ≠ X := by have := HP.out.lt; omega
 have n2 : w.heap.size ≠ b := by omega
 have n3 : w.heap.size ≠ bh := by have := zJ w _ ch; simp at this; omega
 have zX : X < w.heap.size := HP.out.lt
 have hq := hp k hk (d k) hlt
 obtain ⟨q, hqe⟩ : ∃ q : Nat, (y.e k (d k)).q = (q : Int) := ⟨(y.e k (d k)).q.toNat, by omega⟩
 have hq4 : (q : Int) < 4 := by omega
 have hqn : q < y.n := by omega
 rw [hqe] at e1
 have c4' := cell_allocs c4
 have pk' := cell_allocs pk
 have ch' := cell_allocs ch
 have e0' := cell_allocs e0
 have e1' := cell_allocs e1
 have e2' := cell_allocs e2
 have fr' : ∀ j, w.frozen? ⟨X, j, none⟩ = false := fr
 rcases zK ((y.e k (d k)).k == 2) with t | t
 ·have hk2 : (y.e k (d k)).k = 2 := by simpa using t
  have oq := op k q (by omega) (by omega)
  obtain ⟨o1, o2⟩ := Hs.opn_le hd hl hk hqn
  have oq' := cell_allocs oq
  rw [hk2] at e0 e0'
  have HO : Hid (∀ a b, y.opn (up d k) a b = if a = k /\ b = q then y.opn d k q + 1 else y.opn d a b) := fun a b => by
   rw [Hs.opn_up, hk2, hqe]
   by_cases e : a = k /\ b = q
   ·obtain ⟨rfl, rfl⟩ := e
    simp
   ·rw [if_neg e, if_neg (fun h => e ⟨h.1, by omega⟩), if_neg (fun h => absurd h.2.1 (by decide))]
    omega
  clear op pt t hk2 hq hqe hp hE eh ea
  generalize (y.e k (d k)).v = vd at *
  generalize y.opn d k q = on at *
  go_enter Tryz.func55, Tryz.ntmps55
  go_wp2_with fail
  go_region
  all_goals
   go_wp2_with fail
   go_region
   all_goals
    go_wp2_with fail
    go_region
    all_goals
     go_wp2_with fail
     go_end0
     have hz := HP.out.put2 (o := oQ0 2 q vd) (show k < 4 by omega) (show k < 4 by omega) (show q < 4 by omega) HO.out
     exact ⟨rfl, hz.1.dr.dr.dr, hz.2.dr.dr.dr⟩
 rcases zK ((y.e k (d k)).k == 3) with t3 | t3
 ·have hk3 : (y.e k (d k)).k = 3 := by simpa using t3
  have oq := op q k (by omega) (by omega)
  obtain ⟨o1, o2⟩ := Hs.opn_le hd hl hqn hk
  have oq' := cell_allocs oq
  rw [hk3] at e0 e0'
  have HO : Hid (∀ a b, y.opn (up d k) a b = if a = q /\ b = k then y.opn d q k - 1 else y.opn d a b) := fun a b => by
   rw [Hs.opn_up, hk3, hqe]
   by_cases e : a = q /\ b = k
   ·obtain ⟨rfl, rfl⟩ := e
    simp
   ·rw [if_neg e, if_neg (fun h => absurd h.2.1 (by decide)), if_neg (fun h => e ⟨by omega, h.1⟩)]
    omega
  clear op pt t t3 hk3 hq hqe hp hE eh ea
  generalize (y.e k (d k)).v = vd at *
  generalize y.opn d q k = on at *
  go_enter Tryz.func55, Tryz.ntmps55
  go_wp2_with fail
  go_region
  all_goals
   go_wp2_with fail
   go_region
   all_goals
    go_wp2_with fail
    go_region
    all_goals
     go_wp2_with fail
     go_end0
     have hz := HP.out.put2 (o := oQ0 3 q vd) (show k < 4 by omega) (show q < 4 by omega) (show k < 4 by omega) HO.out
     exact ⟨rfl, hz.1.dr.dr.dr, hz.2.dr.dr.dr⟩
 ·have HO : Hid (∀ a b, y.opn (up d k) a b = y.opn d a b) := fun a b => by
   have t2 : (y.e k (d k)).k ≠ 2 := by simpa using t
   have t3' : (y.e k (d k)).k ≠ 3 := by simpa using t3
   rw [Hs.opn_up, if_neg (fun h => t2 h.2.1), if_neg (fun h => t3' h.2.1)]
   omega
  clear op pt hq hqe hp hE eh ea
  generalize (y.e k (d k)).v = vd at *
  generalize (y.e k (d k)).k = kd at *
  go_enter Tryz.func55, Tryz.ntmps55
  go_wp2_with fail
  go_region
  all_goals
   go_wp2_with fail
   go_region
   all_goals
    go_wp2_with fail
    go_end0
    have hz := HP.out.put1 (o := oQ0 kd q vd) (show k < 4 by omega) HO.out
    exact ⟨rfl, hz.1.dr.dr, hz.2.dr.dr⟩
def NxtR (w : World) (y : Hs) (d : Nat -> Nat) (e : Ending) (w' : World) : Prop :=
 Below w.heap.size w w' /\ ((∃ k, k < y.n /\ y.Can d k /\ e = .returned (.int .i64 (k : Nat))) \/ (e = .returned (.int .i64 (-1)) /\ ∀ p, p < y.n -> ¬ y.Can d p))
theorem next_any (X : Nat) (ha : Option Addr) (hc : Nat) (hA : Nat -> Option Addr) (hC : Nat -> Nat) (y : Hs) (d : Nat -> Nat) (w : World) (hE : HisE w ha hA hC y) (hP : HisP w X ha hc y d) (h4 : y.n <= 4) (hp : y.Peers) (hl : ∀ i, i < y.n -> y.l i <= 200) (hd : ∀ i, d i <= y.l i) :
  Calls Tryz.prog 54 #[.pointer (some ⟨X, 4, none⟩)] w (NxtR w y d) := by
 have HE : Hid (HisE w ha hA hC y) := hE
 have HP : Hid (HisP w X ha hc y d) := hP
 have HH : Hid (y.Peers /\ (∀ i, i < y.n -> y.l i <= 200) /\ ∀ i, d i <= y.l i) := ⟨hp, hl, hd⟩
 have hn : (y.n : Int) <= 4 := by omega
 obtain ⟨c4, -, -, -⟩ := hP
 clear hE hp hl hd
 go_enter Tryz.func54, Tryz.ntmps54
 go_wp2_with fail
 clear c4
 go_loopw [9] (fun i wr => ∃ k : Nat, k <= y.n /\ i = .int .i64 k /\ Below w.heap.size w wr /\ Hid (∀ j, j < k -> ¬ y.Can d j)) (fun i _ => y.n - (intOf i).toNat)
 case atStart => exact ⟨0, Nat.zero_le _, rfl, Below.refl _ _, fun j hj => by omega⟩
 case round =>
  obtain ⟨k, hk, rfl, hbw, HZ⟩ := hrel
  by_cases hlt : k < y.n
  ·have hlt' : (k : Int) < (y.n : Int) := by omega
   go_wp2_with fail
   refine (canPut_any X ha hc hA hC y d k wr (HE.out.below hbw) (HP.out.below hbw) h4 hlt HH.out.1 HH.out.2.1 HH.out.2.2).mono ?_
   rintro e w1 ⟨rfl, b1⟩
   have B1 : Hid (Below w.heap.size w w1) := hbw.trans (b1.mono hbw.size)
   clear b1 hbw
   by_cases hc' : y.Can d k
   ·have HF : Hid (NxtR w y d (.returned (.int .i64 k)) w1) := ⟨B1.out, .inl ⟨k, hlt, hc', rfl⟩⟩
    rw [qB_true hc']
    clear hc' B1
    go_wp2
    go_ret
    exact HF.out
   ·have HZ' : Hid (∀ j, j < k + 1 -> ¬ y.Can d j) := fun j hj => by
     by_cases e : j = k
     ·subst e
      exact hc'
     ·exact HZ.out j (by omega)
    rw [qB_false hc']
    clear hc' HZ
    go_wp2
    go_roundw
    case rel => exact ⟨k + 1, by omega, by go_num, B1.out, HZ'.out⟩
    case measure => simp [intOf]; omega
  ·have HF : Hid (NxtR w y d (.returned (.int .i64 (-1))) wr) := ⟨hbw, .inr ⟨rfl, fun p hp => HZ.out p (by omega)⟩⟩
   clear HZ hbw
   go_wp2
   go_ret
   exact HF.out
theorem allPut_any (X : Nat) (ha : Option Addr) (hc : Nat) (hA : Nat -> Option Addr) (hC : Nat -> Nat) (y : Hs) (d : Nat -> Nat) (w : World) (hE : HisE w ha hA hC y) (hP : HisP w X ha hc y d) (h4 : y.n <= 4) (hl : ∀ i, i < y.n -> y.l i <= 200) (hd : ∀ i, d i <= y.l i) :
  Calls Tryz.prog 116 #[.pointer (some ⟨X, 4, none⟩)] w fun e w' => e = .returned (.bool (qB (y.All d))) /\ Below w.heap.size w w' := by
 have HE : Hid (HisE w ha hA hC y) := hE
 have HP : Hid (HisP w X ha hc y d) := hP
 have HH : Hid ((∀ i, i < y.n -> y.l i <= 200) /\ ∀ i, d i <= y.l i) := ⟨hl, hd⟩
 have hn : (y.n : Int) <= 4 := by omega
 obtain ⟨c4, -, -, -⟩ := hP
 clear hE hl hd
 go_enter Tryz.func116, Tryz.ntmps116
 go_wp2_with fail
 clear c4
 go_loopw [10] (fun i wr => ∃ k : Nat, k <= y.n /\ i = .int .i64 k /\ Below w.heap.size w wr /\ Hid (∀ j, j < k -> d j = y.l j)) (fun i _ => y.n - (intOf i).toNat)
 case atStart => exact ⟨0, Nat.zero_le _, rfl, Below.refl _ _, fun j hj => by omega⟩
 case round =>
  obtain ⟨k, hk, rfl, hbw, HZ⟩ := hrel
  by_cases hlt : k < y.n
  ·have hlt' : (k : Int) < (y.n : Int) := by omega
   have hk4 : (k : Int) < 4 := by omega
   obtain ⟨bh, oh, eh, ch⟩ := (HE.out.below hbw).row.at hlt
   have pk := (HP.out.below hbw).pt k (by omega)
   have hd' : (d k : Int) <= (y.l k : Int) := by have := HH.out.2 k; omega
   rw [eh]
   by_cases hs : d k < y.l k
   ·have hs' : (d k : Int) < (y.l k : Int) := by omega
    have HN : Hid (qB (y.All d) = false) := qB_false fun h => by have := h k hlt; omega
    clear HZ
    go_wp2
    go_ret
    rw [HN.out]
    exact ⟨rfl, hbw⟩
   ·have hs' : ¬ (d k : Int) < (y.l k : Int) := by omega
    have HZ' : Hid (∀ j, j < k + 1 -> d j = y.l j) := fun j hj => by
     by_cases e : j = k
     ·subst e
      omega
     ·exact HZ.out j (by omega)
    clear HZ
    go_wp2
    go_roundw
    case rel => exact ⟨k + 1, by omega, by go_num, hbw, HZ'.out⟩
    case measure => simp [intOf]; omega
  ·have HN : Hid (qB (y.All d) = true) := qB_true fun p hp => HZ.out p (by omega)
   clear HZ
   go_wp2
   go_ret
   rw [HN.out]
   exact ⟨rfl, hbw⟩
theorem eqSys_same (x : SysIn) (l1 u1 l2 u2 : Nat) (v1 v2 : Value) (w : World) (hs : x.size <= 1048576) (o1 : IsSys w l1 u1 x v1) (o2 : IsSys w l2 u2 x v2) :
  Calls Tryz.prog 32 #[v1, v2] w fun e w' => e = .returned (.bool true) /\ Below w.heap.size w w' := by
 obtain ⟨D1, D2, D3, D4, b1, vs, b3, b4, h1, h2, h3, o1⟩ := o1
 obtain ⟨E1, E2, E3, E4, c1, us, c3, c4, g1, g2, g3, o2⟩ := o2
 have HS : Hid (x.size <= 1048576) := hs
 obtain ⟨rfl, p1, s1, w1, i1, -, -, -, -⟩ := o1
 obtain ⟨rfl, p2, s2, w2, i2, -, -, -, -⟩ := o2
 have P1 : Hid (OutIns w D1 h1 x.pn x.pL b1 x.pH) := p1
 have P2 : Hid (OutIns w E1 g1 x.pn x.pL c1 x.pH) := p2
 have S1 : Hid (OutState w D2 h2 x.sn x.sS vs) := s1
 have S2 : Hid (OutState w E2 g2 x.sn x.sS us) := s2
 have W1 : Hid (OutItem w D3 h3 x.wn x.wL b3 x.wH) := w1
 have W2 : Hid (OutItem w E3 g3 x.wn x.wL c3 x.wH) := w2
 have I1 : Hid (OutEvent w D4 u1 x.hn x.hL b4 x.hH) := i1
 have I2 : Hid (OutEvent w E4 u2 x.hn x.hL c4 x.hH) := i2
 clear p1 p2 s1 s2 w1 w2 i1 i2 hs
 go_enter Tryz.func32, Tryz.ntmps32
 have X0 : Hid (BoxC ((w.alloc (oQ4 (some ⟨D1, 0, none⟩) x.pn x.pn (some ⟨D2, 0, none⟩) x.sn x.sn (some ⟨D3, 0, none⟩) x.wn x.wn (some ⟨D4, 0, none⟩) x.hn x.hn)).alloc (oQ4 (some ⟨E1, 0, none⟩) x.pn x.pn (some ⟨E2, 0, none⟩) x.sn x.sn (some ⟨E3, 0, none⟩) x.wn x.wn (some ⟨E4, 0, none⟩) x.hn x.hn)) w.heap.size (.slice (some ⟨D1, 0, none⟩) x.pn x.pn) (.slice (some ⟨D2, 0, none⟩) x.sn x.sn) (.slice (some ⟨D3, 0, none⟩) x.wn x.wn) (.slice (some ⟨D4, 0, none⟩) x.hn x.hn) /\ BoxC ((w.alloc (oQ4 (some ⟨D1, 0, none⟩) x.pn x.pn (some ⟨D2, 0, none⟩) x.sn x.sn (some ⟨D3, 0, none⟩) x.wn x.wn (some ⟨D4, 0, none⟩) x.hn x.hn)).alloc (oQ4 (some ⟨E1, 0, none⟩) x.pn x.pn (some ⟨E2, 0, none⟩) x.sn x.sn (some ⟨E3, 0, none⟩) x.wn x.wn (some ⟨E4, 0, none⟩) x.hn x.hn)) (w.heap.size + 1) (.slice (some ⟨E1, 0, none⟩) x.pn x.pn) (.slice (some ⟨E2, 0, none⟩) x.sn x.sn) (.slice (some ⟨E3, 0, none⟩) x.wn x.wn) (.slice (some ⟨E4, 0, none⟩) x.hn x.hn) /\ Below w.heap.size w ((w.alloc (oQ4 (some ⟨D1, 0, none⟩) x.pn x.pn (some ⟨D2, 0, none⟩) x.sn x.sn (some ⟨D3, 0, none⟩) x.wn x.wn (some ⟨D4, 0, none⟩) x.hn x.hn)).alloc (oQ4 (some ⟨E1, 0, none⟩) x.pn x.pn (some ⟨E2, 0, none⟩) x.sn x.sn (some ⟨E3, 0, none⟩) x.wn x.wn (some ⟨E4, 0, none⟩) x.hn x.hn)) /\ w.heap.size + 2 <= ((w.alloc (oQ4 (some ⟨D1, 0, none⟩) x.pn x.pn (some ⟨D2, 0, none⟩) x.sn x.sn (some ⟨D3, 0, none⟩) x.wn x.wn (some ⟨D4, 0, none⟩) x.hn x.hn)).alloc (oQ4 (some ⟨E1, 0, none⟩) x.pn x.pn (some ⟨E2, 0, none⟩) x.sn x.sn (some ⟨E3, 0, none⟩) x.wn x.wn (some ⟨E4, 0, none⟩) x.hn x.hn)).heap.size) := by
  have n1 := BoxC.new w (.slice (some ⟨D1, 0, none⟩) x.pn x.pn) (.slice (some ⟨D2, 0, none⟩) x.sn x.sn) (.slice (some ⟨D3, 0, none⟩) x.wn x.wn) (.slice (some ⟨D4, 0, none⟩) x.hn x.hn) 29
  have n2 := BoxC.new (w.alloc (oQ4 (some ⟨D1, 0, none⟩) x.pn x.pn (some ⟨D2, 0, none⟩) x.sn x.sn (some ⟨D3, 0, none⟩) x.wn x.wn (some ⟨D4, 0, none⟩) x.hn x.hn)) (.slice (some ⟨E1, 0, none⟩) x.pn x.pn) (.slice (some ⟨E2, 0, none⟩) x.sn x.sn) (.slice (some ⟨E3, 0, none⟩) x.wn x.wn) (.slice (some ⟨E4, 0, none⟩) x.hn x.hn) 29
  simp only [World.size_alloc] at n2
  exact ⟨n1.below (below_allocS _ _), n2, ((Below.refl _ _).alloc (Nat.le_refl _) _).alloc (by simp) _, by simp⟩
 go_wp2_with fail
 generalize (w.alloc (oQ4 (some ⟨D1, 0, none⟩) x.pn x.pn (some ⟨D2, 0, none⟩) x.sn x.sn (some ⟨D3, 0, none⟩) x.wn x.wn (some ⟨D4, 0, none⟩) x.hn x.hn)).alloc (oQ4 (some ⟨E1, 0, none⟩) x.pn x.pn (some ⟨E2, 0, none⟩) x.sn x.sn (some ⟨E3, 0, none⟩) x.wn x.wn (some ⟨E4, 0, none⟩) x.hn x.hn) = wA at *
 refine (eqInsSS_same D1 h1 E1 g1 x.pn _ _ x.pL b1 c1 x.pH _ (SysIn.lens HS.out).1.1 (sum_le (SysIn.lens HS.out).1.2) (P1.out.below X0.out.2.2.1 P1.out.le) (P2.out.below X0.out.2.2.1 P2.out.le)).mono ?_
 rintro e w1 ⟨rfl, b1'⟩
 have X1 : Hid (BoxC w1 w.heap.size (.slice (some ⟨D1, 0, none⟩) x.pn x.pn) (.slice (some ⟨D2, 0, none⟩) x.sn x.sn) (.slice (some ⟨D3, 0, none⟩) x.wn x.wn) (.slice (some ⟨D4, 0, none⟩) x.hn x.hn) /\ BoxC w1 (w.heap.size + 1) (.slice (some ⟨E1, 0, none⟩) x.pn x.pn) (.slice (some ⟨E2, 0, none⟩) x.sn x.sn) (.slice (some ⟨E3, 0, none⟩) x.wn x.wn) (.slice (some ⟨E4, 0, none⟩) x.hn x.hn) /\ Below w.heap.size w w1 /\ w.heap.size + 2 <= w1.heap.size) := ⟨X0.out.1.below b1', X0.out.2.1.below b1', X0.out.2.2.1.trans (b1'.mono X0.out.2.2.1.size), zO X0.out.2.2.2 b1'.size⟩
 have BE1 : Hid (Below w.heap.size w w1) := X1.out.2.2.1
 clear X0 b1'
 obtain ⟨⟨p0, p1, p2, p3⟩, ⟨q0, q1, q2, q3⟩, -, le⟩ := X1.out
 go_wp2_with fail
 clear p0 p1 p2 p3 q0 q1 q2 q3 le
 refine (eqStateS_same D2 h2 E2 g2 x.sn _ _ x.sS vs us _ (SysIn.lens HS.out).2.1.1 (SysIn.lensS HS.out) (S1.out.below BE1.out S1.out.le) (S2.out.below BE1.out S2.out.le)).mono ?_
 rintro e w2 ⟨rfl, b2'⟩
 have X2 : Hid (BoxC w2 w.heap.size (.slice (some ⟨D1, 0, none⟩) x.pn x.pn) (.slice (some ⟨D2, 0, none⟩) x.sn x.sn) (.slice (some ⟨D3, 0, none⟩) x.wn x.wn) (.slice (some ⟨D4, 0, none⟩) x.hn x.hn) /\ BoxC w2 (w.heap.size + 1) (.slice (some ⟨E1, 0, none⟩) x.pn x.pn) (.slice (some ⟨E2, 0, none⟩) x.sn x.sn) (.slice (some ⟨E3, 0, none⟩) x.wn x.wn) (.slice (some ⟨E4, 0, none⟩) x.hn x.hn) /\ Below w.heap.size w w2 /\ w.heap.size + 2 <= w2.heap.size) := ⟨X1.out.1.below b2', X1.out.2.1.below b2', X1.out.2.2.1.trans (b2'.mono X1.out.2.2.1.size), zO X1.out.2.2.2 b2'.size⟩
 have BE2 : Hid (Below w.heap.size w w2) := X2.out.2.2.1
 clear X1 b2' BE1
 obtain ⟨⟨p0, p1, p2, p3⟩, ⟨q0, q1, q2, q3⟩, -, le⟩ := X2.out
 go_wp2_with fail
 clear p0 p1 p2 p3 q0 q1 q2 q3 le
 refine (eqItemSS_same D3 h3 E3 g3 x.wn _ _ x.wL b3 c3 x.wH _ (SysIn.lens HS.out).2.2.1.1 (sum_le (SysIn.lens HS.out).2.2.1.2) (W1.out.below BE2.out W1.out.le) (W2.out.below BE2.out W2.out.le)).mono ?_
 rintro e w3 ⟨rfl, b3'⟩
 have X3 : Hid (BoxC w3 w.heap.size (.slice (some ⟨D1, 0, none⟩) x.pn x.pn) (.slice (some ⟨D2, 0, none⟩) x.sn x.sn) (.slice (some ⟨D3, 0, none⟩) x.wn x.wn) (.slice (some ⟨D4, 0, none⟩) x.hn x.hn) /\ BoxC w3 (w.heap.size + 1) (.slice (some ⟨E1, 0, none⟩) x.pn x.pn) (.slice (some ⟨E2, 0, none⟩) x.sn x.sn) (.slice (some ⟨E3, 0, none⟩) x.wn x.wn) (.slice (some ⟨E4, 0, none⟩) x.hn x.hn) /\ Below w.heap.size w w3 /\ w.heap.size + 2 <= w3.heap.size) := ⟨X2.out.1.below b3', X2.out.2.1.below b3', X2.out.2.2.1.trans (b3'.mono X2.out.2.2.1.size), zO X2.out.2.2.2 b3'.size⟩
 have BE3 : Hid (Below w.heap.size w w3) := X3.out.2.2.1
 clear X2 b3' BE2
 obtain ⟨⟨p0, p1, p2, p3⟩, ⟨q0, q1, q2, q3⟩, -, le⟩ := X3.out
 go_wp2_with fail
 clear p0 p1 p2 p3 q0 q1 q2 q3 le
 refine (eqEventSS_same D4 u1 E4 u2 x.hn _ _ x.hL b4 c4 x.hH _ (SysIn.lens HS.out).2.2.2.1 (sum_le (SysIn.lens HS.out).2.2.2.2) (I1.out.below BE3.out I1.out.le) (I2.out.below BE3.out I2.out.le)).mono ?_
 rintro e w4 ⟨rfl, b4'⟩
 have X4 : Hid (BoxC w4 w.heap.size (.slice (some ⟨D1, 0, none⟩) x.pn x.pn) (.slice (some ⟨D2, 0, none⟩) x.sn x.sn) (.slice (some ⟨D3, 0, none⟩) x.wn x.wn) (.slice (some ⟨D4, 0, none⟩) x.hn x.hn) /\ BoxC w4 (w.heap.size + 1) (.slice (some ⟨E1, 0, none⟩) x.pn x.pn) (.slice (some ⟨E2, 0, none⟩) x.sn x.sn) (.slice (some ⟨E3, 0, none⟩) x.wn x.wn) (.slice (some ⟨E4, 0, none⟩) x.hn x.hn) /\ Below w.heap.size w w4 /\ w.heap.size + 2 <= w4.heap.size) := ⟨X3.out.1.below b4', X3.out.2.1.below b4', X3.out.2.2.1.trans (b4'.mono X3.out.2.2.1.size), zO X3.out.2.2.2 b4'.size⟩
 have BE4 : Hid (Below w.heap.size w w4) := X4.out.2.2.1
 clear X3 b4' BE3
 go_wp2
 go_ret
 exact ⟨rfl, BE4.out⟩
structure MkY (w wx : World) (lo hi D1 D2 D3 D4 : Nat) (x : SysIn) : Prop where
 tch : Touch (fun b => lo <= b /\ b < hi) w wx
 bx : BoxC wx w.heap.size (.slice (some ⟨D1, 0, none⟩) x.pn x.pn) (.slice (some ⟨D2, 0, none⟩) x.sn x.sn) (.slice (some ⟨D3, 0, none⟩) x.wn x.wn) (.slice (some ⟨D4, 0, none⟩) x.hn x.hn)
 lt : w.heap.size < wx.heap.size
theorem MkY.step {w wx w' : World} {lo hi D1 D2 D3 D4 : Nat} {x : SysIn} (h : MkY w wx lo hi D1 D2 D3 D4 x) (hh : hi <= w.heap.size) {P : Nat -> Prop} (ht : Touch P wx w') (hp : ∀ b, P b -> lo <= b /\ b < hi) : MkY w w' lo hi D1 D2 D3 D4 x := by
 refine ⟨h.tch.trans (ht.mono hp), ?_, zL h.lt ht.size⟩
 obtain ⟨h0, h1, h2, h3⟩ := h.bx
 have hc : ∀ i, w'.cell? ⟨w.heap.size, i, none⟩ = wx.cell? ⟨w.heap.size, i, none⟩ := fun i => ht.cell h.lt (fun e => by have := hp _ e; omega) i
 exact ⟨(hc _).trans h0, (hc _).trans h1, (hc _).trans h2, (hc _).trans h3⟩
theorem markSys_any (x : SysIn) (lo hi : Nat) (v : Value) (w : World) (hs : x.size <= 1048576) (o : IsSys w lo hi x v) :
  Calls Tryz.prog 33 #[v, .int .i64 1] w fun e w' => (∃ z : Int, e = .returned (.int .i64 z) /\ ¬ z < 0) /\ Touch (fun b => lo <= b /\ b < hi) w w' := by
 obtain ⟨D1, D2, D3, D4, b1, vs, b3, b4, h1, h2, h3, o⟩ := o
 have HS : Hid (x.size <= 1048576) := hs
 obtain ⟨q1, q2, q3, q4, -⟩ := o.hi
 have OO : Hid (OutSys w lo hi x v D1 D2 D3 D4 b1 vs b3 b4 h1 h2 h3) := o
 have QQ : Hid (h1 <= hi /\ h2 <= hi /\ h3 <= hi /\ hi <= w.heap.size) := ⟨q1, q2, q3, q4⟩
 obtain ⟨rfl, p1, s1, w1, i1, y1, y2, y3, y4⟩ := o
 have Y : Hid (lo <= D1 /\ h1 <= D2 /\ h2 <= D3 /\ h3 <= D4 /\ D1 < h1 /\ D2 < h2 /\ D3 < h3 /\ D4 < hi) := ⟨y1, y2, y3, y4, p1.lt, s1.lt, w1.lt, i1.lt⟩
 have P1 : Hid (OutIns w D1 h1 x.pn x.pL b1 x.pH) := p1
 have S1 : Hid (OutState w D2 h2 x.sn x.sS vs) := s1
 have W1 : Hid (OutItem w D3 h3 x.wn x.wL b3 x.wH) := w1
 have I1 : Hid (OutEvent w D4 hi x.hn x.hL b4 x.hH) := i1
 clear p1 s1 w1 i1 y1 y2 y3 y4 q1 q2 q3 q4 hs OO
 have X0 : Hid (MkY w (w.alloc (oQ4 (some ⟨D1, 0, none⟩) x.pn x.pn (some ⟨D2, 0, none⟩) x.sn x.sn (some ⟨D3, 0, none⟩) x.wn x.wn (some ⟨D4, 0, none⟩) x.hn x.hn)) lo hi D1 D2 D3 D4 x) := ⟨Touch.of_below (below_allocS _ _), BoxC.new w (.slice (some ⟨D1, 0, none⟩) x.pn x.pn) (.slice (some ⟨D2, 0, none⟩) x.sn x.sn) (.slice (some ⟨D3, 0, none⟩) x.wn x.wn) (.slice (some ⟨D4, 0, none⟩) x.hn x.hn) 29, by simp⟩
 have BA : Hid (Below w.heap.size w (w.alloc (oQ4 (some ⟨D1, 0, none⟩) x.pn x.pn (some ⟨D2, 0, none⟩) x.sn x.sn (some ⟨D3, 0, none⟩) x.wn x.wn (some ⟨D4, 0, none⟩) x.hn x.hn))) := below_allocS _ _
 go_enter Tryz.func33, Tryz.ntmps33
 go_wp2_with fail
 generalize w.alloc (oQ4 (some ⟨D1, 0, none⟩) x.pn x.pn (some ⟨D2, 0, none⟩) x.sn x.sn (some ⟨D3, 0, none⟩) x.wn x.wn (some ⟨D4, 0, none⟩) x.hn x.hn) = wA at *
 refine (markInsSS_any D1 h1 x.pn x.pn x.pL b1 x.pH 1 wA (SysIn.lens HS.out).1.1 (SysIn.lens HS.out).1.2 (by omega) (by omega) (P1.out.below BA.out (by have := QQ.out; omega))).mono ?_
 rintro e w1 ⟨rfl, t1⟩
 have X1 : Hid (MkY w w1 lo hi D1 D2 D3 D4 x) := X0.out.step (by have := QQ.out; omega) t1 fun b hb => by have := QQ.out; have := Y.out; omega
 have KS : Hid (OutState w1 D2 h2 x.sn x.sS vs) := (S1.out.below BA.out (by have := QQ.out; omega)).keep t1.size fun k hk1 hk2 => t1.block k (by have := BA.out.size; have := QQ.out; omega) (fun e => by have := Y.out; omega)
 have KW : Hid (OutItem w1 D3 h3 x.wn x.wL b3 x.wH) := (W1.out.below BA.out (by have := QQ.out; omega)).keep t1.size fun k hk1 hk2 => t1.block k (by have := BA.out.size; have := QQ.out; omega) (fun e => by have := Y.out; omega)
 have KI : Hid (OutEvent w1 D4 hi x.hn x.hL b4 x.hH) := (I1.out.below BA.out (by have := QQ.out; omega)).keep t1.size fun k hk1 hk2 => t1.block k (by have := BA.out.size; have := QQ.out; omega) (fun e => by have := Y.out; omega)
 have z1 : 0 <= (1 : Int) + 5 * (sumL x.pL x.pn : Nat) /\ (1 : Int) + 5 * (sumL x.pL x.pn : Nat) <= 6000000 := by have := (SysIn.lens HS.out).1.2; omega
 generalize (1 : Int) + 5 * (sumL x.pL x.pn : Nat) = Z1 at *
 have HZ1 : Hid (0 <= Z1 /\ Z1 <= 6000000) := z1
 clear t1 X0 P1 S1 W1 I1 BA z1
 obtain ⟨-, ⟨p0, p1, p2, p3⟩, lt⟩ := X1.out
 go_wp2_with fail
 clear p0 p1 p2 p3 lt
 refine (markStateS_any D2 h2 x.sn x.sn x.sS vs Z1 w1 (SysIn.lens HS.out).2.1.1 (SysIn.lens HS.out).2.1.2 HZ1.out.1 (by have := HZ1.out; omega) KS.out).mono ?_
 rintro e w2 ⟨rfl, t2⟩
 have X2 : Hid (MkY w w2 lo hi D1 D2 D3 D4 x) := X1.out.step (by have := QQ.out; omega) t2 fun b hb => by have := QQ.out; have := Y.out; omega
 have KW2 : Hid (OutItem w2 D3 h3 x.wn x.wL b3 x.wH) := KW.out.keep t2.size fun k hk1 hk2 => t2.block k (zL hk2 KW.out.le) (fun e => by have := Y.out; omega)
 have KI2 : Hid (OutEvent w2 D4 hi x.hn x.hL b4 x.hH) := KI.out.keep t2.size fun k hk1 hk2 => t2.block k (zL hk2 KI.out.le) (fun e => by have := Y.out; omega)
 have z2 : 0 <= Z1 + (2 * x.sn + sumL (lenS x.sS) x.sn : Nat) /\ Z1 + (2 * x.sn + sumL (lenS x.sS) x.sn : Nat) <= 12000000 := by have := (SysIn.lens HS.out).2.1; have := HZ1.out; omega
 generalize Z1 + (2 * x.sn + sumL (lenS x.sS) x.sn : Nat) = Z2 at *
 have HZ2 : Hid (0 <= Z2 /\ Z2 <= 12000000) := z2
 clear t2 X1 KS KW KI z2 HZ1
 obtain ⟨-, ⟨p0, p1, p2, p3⟩, lt⟩ := X2.out
 go_wp2_with fail
 clear p0 p1 p2 p3 lt
 refine (markItemSS_any D3 h3 x.wn x.wn x.wL b3 x.wH Z2 w2 (SysIn.lens HS.out).2.2.1.1 (SysIn.lens HS.out).2.2.1.2 HZ2.out.1 (by have := HZ2.out; omega) KW2.out).mono ?_
 rintro e w3 ⟨rfl, t3⟩
 have X3 : Hid (MkY w w3 lo hi D1 D2 D3 D4 x) := X2.out.step (by have := QQ.out; omega) t3 fun b hb => by have := QQ.out; have := Y.out; omega
 have KI3 : Hid (OutEvent w3 D4 hi x.hn x.hL b4 x.hH) := KI2.out.keep t3.size fun k hk1 hk2 => t3.block k (zL hk2 KI2.out.le) (fun e => by have := Y.out; omega)
 have z3 : 0 <= Z2 + 2 * (sumL x.wL x.wn : Nat) /\ Z2 + 2 * (sumL x.wL x.wn : Nat) <= 18000000 := by have := (SysIn.lens HS.out).2.2.1; have := HZ2.out; omega
 generalize Z2 + 2 * (sumL x.wL x.wn : Nat) = Z3 at *
 have HZ3 : Hid (0 <= Z3 /\ Z3 <= 18000000) := z3
 clear t3 X2 KW2 KI2 z3 HZ2
 obtain ⟨-, ⟨p0, p1, p2, p3⟩, lt⟩ := X3.out
 go_wp2_with fail
 clear p0 p1 p2 p3 lt
 refine (markEventSS_any D4 hi x.hn x.hn x.hL b4 x.hH Z3 w3 (SysIn.lens HS.out).2.2.2.1 (SysIn.lens HS.out).2.2.2.2 HZ3.out.1 (by have := HZ3.out; omega) KI3.out).mono ?_
 rintro e w4 ⟨rfl, t4⟩
 have X4 : Hid (MkY w w4 lo hi D1 D2 D3 D4 x) := X3.out.step (by have := QQ.out; omega) t4 fun b hb => by have := QQ.out; have := Y.out; omega
 have HZ4 : Hid (¬ Z3 + 3 * (sumL x.hL x.hn : Nat) < 0) := by
  show ¬ Z3 + 3 * (sumL x.hL x.hn : Nat) < 0
  have := HZ3.out
  omega
 generalize Z3 + 3 * (sumL x.hL x.hn : Nat) = Z4 at *
 clear t4 X3 KI3 HZ3
 go_wp2
 go_ret
 exact ⟨⟨_, rfl, HZ4.out⟩, X4.out.tch⟩
theorem open_sysE {H : Type} {enc : TypeId × Value -> H} {w : World} {base b0 : Nat} {held : Bool} {rc : Reach} {v : Value} {d : DataW H} {p : List MemPlace}
  (hv : Value.okWide Tryz.prog w rc b0 58 v) (h : DataW.Trod enc Tryz.prog w base (fun _ => true) held 58 v d p) :
  ∃ x : SysIn, v = sysV x.pa x.pn x.pc x.sa x.sn x.sc x.wa x.wn x.wc x.ha x.hn x.hc /\ x.Row w /\ x.Max /\ (x.size <= 1048576 -> ∃ y : SysIn, v = sysV y.pa y.pn y.pc y.sa y.sn y.sc y.wa y.wn y.wc y.ha y.hn y.hc /\ y.Ok w /\ y.size = x.size) := by
 obtain ⟨cs, rfl, hsz⟩ := okWide_struct Tryz.underlying58 hv
 have h4 : Tryz.prog.cellsOf 58 = 4 := by kernel_rfl
 obtain ⟨c0, c1, c2, c3, rfl⟩ := array4 (hsz.trans h4)
 obtain ⟨fuel, hf⟩ := h
 have hf' : DataW.trod enc Tryz.prog w base (fun _ => true) held fuel 58 [c0, c1, c2, c3] = some (d, p) := by simpa [Value.cells] using hf
 obtain ⟨xs, m, -, -, -, hl, hx⟩ := DataW.trod_struct Tryz.underlying58 hf'
 have hl : xs.length = 4 := hl
 have k0 : Tryz.prog.cellsOf 53 = 1 := by kernel_rfl
 have k1 : Tryz.prog.cellsOf 54 = 1 := by kernel_rfl
 have k2 : Tryz.prog.cellsOf 55 = 1 := by kernel_rfl
 have k3 : Tryz.prog.cellsOf 56 = 1 := by kernel_rfl
 have q0 : DataW.trod enc Tryz.prog w base (fun _ => true) held m 53 [c0] = xs[0]? := by simpa [k0] using hx 0 _ rfl
 have q1 : DataW.trod enc Tryz.prog w base (fun _ => true) held m 54 [c1] = xs[1]? := by simpa [k1] using hx 1 _ rfl
 have q2 : DataW.trod enc Tryz.prog w base (fun _ => true) held m 55 [c2] = xs[2]? := by simpa [k2] using hx 2 _ rfl
 have q3 : DataW.trod enc Tryz.prog w base (fun _ => true) held m 56 [c3] = xs[3]? := by simpa [k3] using hx 3 _ rfl
 rw [List.getElem?_eq_getElem (by omega)] at q0 q1 q2 q3
 have sl : ∀ {t el : TypeId} {c : Value} {y : DataW H × List MemPlace}, Tryz.prog.underlying t = some (.slice el) -> DataW.trod enc Tryz.prog w base (fun _ => true) held m t [c] = some y -> ∃ a l k, c = .slice a l k := by
  intro t el c y hu hy
  rcases Go.Deep.open_slice hu hy with ⟨hcs, _⟩ | ⟨a, len', cap', m, n, D, Pl, hcs, _⟩
  ·simp at hcs
   exact ⟨_, _, _, hcs⟩
  ·simp at hcs
   exact ⟨_, _, _, hcs⟩
 obtain ⟨pa, pn, pc, rfl⟩ := sl Tryz.underlying53 q0
 obtain ⟨sa, sn, sc, rfl⟩ := sl Tryz.underlying54 q1
 obtain ⟨wa, wn, wc, rfl⟩ := sl Tryz.underlying55 q2
 obtain ⟨ha, hn, hc, rfl⟩ := sl Tryz.underlying56 q3
 obtain ⟨m0, pA, pL, pC, r0, x0, g0⟩ := open_InsSS (d := (xs[0]'(by omega)).1) (p := (xs[0]'(by omega)).2) ⟨m, by simpa [Value.cells] using q0⟩
 obtain ⟨m1, sQ, r1, x1⟩ := open_StateS (d := (xs[1]'(by omega)).1) (p := (xs[1]'(by omega)).2) ⟨m, by simpa [Value.cells] using q1⟩
 obtain ⟨m2, wA, wL, wC, r2, x2, g2⟩ := open_ItemSS (d := (xs[2]'(by omega)).1) (p := (xs[2]'(by omega)).2) ⟨m, by simpa [Value.cells] using q2⟩
 obtain ⟨m3, hA, hL, hC, r3, x3, g3⟩ := open_EventSS (d := (xs[3]'(by omega)).1) (p := (xs[3]'(by omega)).2) ⟨m, by simpa [Value.cells] using q3⟩
 refine ⟨⟨pa, pn, pc, pA, pL, pC, fun _ _ => ⟨0, 0, 0, 0, 0⟩, sa, sn, sc, sQ, wa, wn, wc, wA, wL, wC, fun _ _ => ⟨false, 0⟩, ha, hn, hc, hA, hL, hC, fun _ _ => ⟨0, 0, 0⟩⟩, rfl, ⟨r0, r1, r2, r3⟩, ⟨⟨m0, x0⟩, ⟨m1, x1⟩, ⟨m2, x2⟩, ⟨m3, x3⟩⟩, fun hs => ?_⟩
 have hl := SysIn.lens hs
 obtain ⟨pH, a0⟩ := g0 (sum_le hl.1.2)
 obtain ⟨wH, a2⟩ := g2 (sum_le hl.2.2.1.2)
 obtain ⟨hH, a3⟩ := g3 (sum_le hl.2.2.2.2)
 exact ⟨⟨pa, pn, pc, pA, pL, pC, pH, sa, sn, sc, sQ, wa, wn, wc, wA, wL, wC, wH, ha, hn, hc, hA, hL, hC, hH⟩, rfl, ⟨a0, r1, a2, a3⟩, rfl⟩
theorem open_sys {H : Type} {enc : TypeId × Value -> H} {w : World} {base b0 : Nat} {held : Bool} {rc : Reach} {v : Value} {d : DataW H} {p : List MemPlace}
  (hv : Value.okWide Tryz.prog w rc b0 58 v) (h : DataW.Trod enc Tryz.prog w base (fun _ => true) held 58 v d p) :
  ∃ x : SysIn, v = sysV x.pa x.pn x.pc x.sa x.sn x.sc x.wa x.wn x.wc x.ha x.hn x.hc /\ x.Row w /\ x.Max /\ (x.size <= 1048576 -> ∃ y : SysIn, v = sysV y.pa y.pn y.pc y.sa y.sn y.sc y.wa y.wn y.wc y.ha y.hn y.hc /\ y.Ok w /\ y.size <= 1048576) := by
 obtain ⟨x, e, hr, hm, hy⟩ := open_sysE hv h
 refine ⟨x, e, hr, hm, fun hs => ?_⟩
 obtain ⟨y, ey, ho, hz⟩ := hy hs
 exact ⟨y, ey, ho, hz ▸ hs⟩
end Go.Proofs.YthdaejgmfognbaaGreatDoor
