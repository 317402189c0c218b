/- Cuts: which are whole, and the greatest whole one within a cut. -/
import Derived.Test.YthdaejgmfognbabGreatDoorWd0
import Derived.Test.YthdaejgmfognbabGreatDoorWd34
import Derived.Lib.QuietBelow
import Derived.BigRegion
import Derived.BigQuiet
import Derived.Test.YthdaejgmfognbabGreatDoorWd16
import Derived.Maps.AppendAt
import Derived.OneCell
import Derived.Test.YthdaejgmfognbabGreatDoorWd17
import Derived.Test.YthdaejgmfognbabGreatDoorWd31
import Derived.Test.YthdaejgmfognbabGreatDoorWd33
namespace Go.Proofs.YthdaejgmfognbabGreatDoor
set_option maxRecDepth 100000
set_option maxHeartbeats 2000000
open Go.ChangeShapes Go.WideShapes Go.ChangeAt Go.RowKit Go.Deep Go.Sort
structure HisQ (w : World) (X : Nat) (ha : Option Addr) (hc : Nat) (y : Hs) (d : Nat -> Nat) : Prop where
 c4 : w.cell? ⟨X, 0, none⟩ = some (.slice ha y.n hc)
 pt : ∀ i, i < 4 -> w.cell? ⟨X, 1 + i, none⟩ = some (.int .i64 (d i))
 op : ∀ a b, a < 4 -> b < 4 -> w.cell? ⟨X, 5 + a * 4 + b, none⟩ = some (.int .i64 (y.opn d a b))
 fr : ∀ j, w.frozen? ⟨X, j, none⟩ = false
theorem HisQ.lt {w : World} {X : Nat} {ha : Option Addr} {hc : Nat} {y : Hs} {d : Nat -> Nat} (h : HisQ w X ha hc y d) : X < w.heap.size := zJ w _ h.c4
theorem HisQ.blk {w w' : World} {X : Nat} {ha : Option Addr} {hc : Nat} {y : Hs} {d : Nat -> Nat} (h : HisQ w X ha hc y d) (hb : w'.heap[X]? = w.heap[X]?) : HisQ w' X ha hc y d :=
 ⟨(zH hb).trans h.c4, fun i hi => (zH hb).trans (h.pt i hi), fun a b h1 h2 => (zH hb).trans (h.op a b h1 h2), fun j => (zI hb).trans (h.fr j)⟩
theorem HisQ.below {w w' : World} {X : Nat} {ha : Option Addr} {hc : Nat} {y : Hs} {d : Nat -> Nat} (h : HisQ w X ha hc y d) (hb : Below w.heap.size w w') : HisQ w' X ha hc y d := h.blk (hb.block X h.lt)
theorem canPut_q (X : Nat) (ha : Option Addr) (hc : Nat) (hA : Nat -> Option Addr) (hC : Nat -> Nat) (y : Hs) (d : Nat -> Nat) (k : Nat) (w : World) (hE : HisE w ha hA hC y) (hP : HisQ w X ha hc y d) (h4 : y.n <= 4) (hk : k < y.n) (hp : y.Peers) (hl : ∀ i, i < y.n -> y.l i <= 200) (hd : ∀ i, d i <= y.l i) :
  Calls Tryz.prog 112 #[.pointer (some ⟨X, 0, none⟩), .int .i64 k] w fun e w' => e = .returned (.bool (qB (y.Can d k))) /\ Below w.heap.size w w' := by
 have HE : Hid (HisE w ha hA hC y) := hE
 have HP : Hid (HisQ w X ha hc y d) := hP
 have HCan : Hid (y.Can d k ↔ d k < y.l k /\ ((y.e k (d k)).k = 3 -> 0 < y.opn d (y.e k (d k)).q.toNat k)) := Hs.can_iff hp hk
 have hk4 : (k : Int) < 4 := by omega
 have hk' : (k : Int) < (y.n : Int) := by omega
 have hl200 : (y.l k : Int) <= 200 := by have := hl k hk; omega
 have hdk : (d k : Int) <= (y.l k : Int) := by have := hd k; omega
 obtain ⟨bh, oh, eh, ch⟩ := hE.row.at hk
 obtain ⟨c4, pt, op, -⟩ := hP
 have pk := pt k (by omega)
 rw [eh] at c4
 clear hE
 by_cases he : d k = y.l k
 ·have HN : Hid (qB (y.Can d k) = false) := qB_false fun h => by have := h.1; omega
  rw [he] at pk
  clear op pt
  go_enter Tryz.func112, Tryz.ntmps112
  go_wp2_with fail
  go_quiet (fail)
  go_wp2
  go_ret
  rw [HN.out]
  exact ⟨rfl, yB (Below.refl _ _) _⟩
 ·have hlt : d k < y.l k := by have := hd k; omega
  have hlt' : (d k : Int) < (y.l k : Int) := by omega
  have hne : ((d k : Int) == (y.l k : Int)) = false := by
   have : ¬ (d k : Int) = (y.l k : Int) := by omega
   simpa using this
  obtain ⟨b, off, ea, zb, e0, e1, e2⟩ := (HE.out.ev k hk).at hlt
  rw [ea] at ch
  have n1 : w.heap.size ≠ X := by have := HP.out.lt; omega
  have n2 : w.heap.size ≠ b := by omega
  have n3 : w.heap.size ≠ bh := by have := zJ w _ ch; simp at this; omega
  clear zb
  have hq := hp k hk (d k) hlt
  obtain ⟨q, hqe⟩ : ∃ q : Nat, (y.e k (d k)).q = (q : Int) := ⟨(y.e k (d k)).q.toNat, by omega⟩
  have hq4 : (q : Int) < 4 := by omega
  have oq := op q k (by omega) (by omega)
  rw [hqe] at e1
  rcases zK ((y.e k (d k)).k != 3) with t | t
  ·have HN : Hid (qB (y.Can d k) = true) := qB_true (HCan.out.2 ⟨hlt, fun h => by rw [h] at t; cases t⟩)
   clear op pt hq hqe oq HCan
   generalize (y.e k (d k)).k = kd at *
   generalize (y.e k (d k)).v = vd at *
   go_enter Tryz.func112, Tryz.ntmps112
   go_wp2_with fail
   go_quiet (fail)
   go_wp2_with fail
   have BD : Hid (Below w.heap.size w (w.drewN nq)) := yB (Below.refl _ _) _
   replace n1 : (w.drewN nq).heap.size ≠ X := n1
   replace n2 : (w.drewN nq).heap.size ≠ b := n2
   replace n3 : (w.drewN nq).heap.size ≠ bh := n3
   replace c4 : (w.drewN nq).cell? ⟨X, 0, none⟩ = _ := c4
   replace pk : (w.drewN nq).cell? ⟨X, 1 + k, none⟩ = _ := pk
   replace ch : (w.drewN nq).cell? ⟨bh, oh + k, none⟩ = _ := ch
   replace e0 : (w.drewN nq).cell? ⟨b, off + d k * 3, none⟩ = _ := e0
   replace e1 : (w.drewN nq).cell? ⟨b, off + d k * 3 + 1, none⟩ = _ := e1
   replace e2 : (w.drewN nq).cell? ⟨b, off + d k * 3 + 2, none⟩ = _ := e2
   generalize w.drewN nq = wd at *
   have c4' := cell_allocs c4
   have pk' := cell_allocs pk
   have ch' := cell_allocs ch
   have e0' := cell_allocs e0
   have e1' := cell_allocs e1
   have e2' := cell_allocs e2
   go_region
   all_goals
    go_wp2_with fail
    go_quiet (fail)
    go_wp2
    go_ret
    rw [HN.out]
    exact ⟨rfl, yB (BD.out.trans ((zS _ _).mono BD.out.size)).drew _⟩
  ·have hk3 : (y.e k (d k)).k = 3 := by simpa using t
   have HN : Hid (qB (y.Can d k) = decide (0 < y.opn d q k)) := by
    show qB (y.Can d k) = decide (0 < y.opn d q k)
    have e : (y.e k (d k)).q.toNat = q := by omega
    by_cases h0 : 0 < y.opn d q k
    ·rw [decide_eq_true h0]
     exact qB_true (HCan.out.2 ⟨hlt, fun _ => by rw [e]; exact h0⟩)
    ·rw [decide_eq_false h0]
     refine qB_false fun h => h0 ?_
     have := (HCan.out.1 h).2 hk3
     rwa [e] at this
   rw [hk3] at e0
   clear op pt hq hqe HCan t hk3
   generalize (y.e k (d k)).v = vd at *
   generalize y.opn d q k = on at *
   go_enter Tryz.func112, Tryz.ntmps112
   go_wp2_with fail
   go_quiet (fail)
   go_wp2_with fail
   have BD : Hid (Below w.heap.size w (w.drewN nq)) := yB (Below.refl _ _) _
   replace n1 : (w.drewN nq).heap.size ≠ X := n1
   replace n2 : (w.drewN nq).heap.size ≠ b := n2
   replace n3 : (w.drewN nq).heap.size ≠ bh := n3
   replace c4 : (w.drewN nq).cell? ⟨X, 0, none⟩ = _ := c4
   replace pk : (w.drewN nq).cell? ⟨X, 1 + k, none⟩ = _ := pk
   replace ch : (w.drewN nq).cell? ⟨bh, oh + k, none⟩ = _ := ch
   replace e0 : (w.drewN nq).cell? ⟨b, off + d k * 3, none⟩ = _ := e0
   replace e1 : (w.drewN nq).cell? ⟨b, off + d k * 3 + 1, none⟩ = _ := e1
   replace e2 : (w.drewN nq).cell? ⟨b, off + d k * 3 + 2, none⟩ = _ := e2
   replace oq : (w.drewN nq).cell? ⟨X, 5 + q * 4 + k, none⟩ = _ := oq
   generalize w.drewN nq = wd at *
   have c4' := cell_allocs c4
   have pk' := cell_allocs pk
   have ch' := cell_allocs ch
   have e0' := cell_allocs e0
   have e1' := cell_allocs e1
   have e2' := cell_allocs e2
   have oq' := cell_allocs oq
   go_region
   all_goals
    go_wp2_with fail
    go_quiet (fail)
    go_wp2
    go_ret
    rw [HN.out]
    exact ⟨rfl, yB (BD.out.trans ((zS _ _).mono BD.out.size)).drew _⟩
theorem HisQ.put {w w' : World} {X : Nat} {ha : Option Addr} {hc : Nat} {y : Hs} {d : Nat -> Nat} {k : Nat} (h : HisQ w X ha hc y d) (c4 : w'.cell? ⟨X, 0, none⟩ = w.cell? ⟨X, 0, none⟩) (pt : ∀ i, i < 4 -> w'.cell? ⟨X, 1 + i, none⟩ = if i = k then some (.int .i64 (d k + 1 : Nat)) else w.cell? ⟨X, 1 + i, none⟩)
  (op : ∀ a b, a < 4 -> b < 4 -> w'.cell? ⟨X, 5 + a * 4 + b, none⟩ = some (.int .i64 (y.opn (up d k) a b))) (fr : ∀ j, w'.frozen? ⟨X, j, none⟩ = false) : HisQ w' X ha hc y (up d k) := by
 refine ⟨c4.trans h.c4, fun i hi => ?_, op, fr⟩
 rw [pt i hi]
 by_cases e : i = k
 ·subst e
  rw [if_pos rfl, up_same]
 ·rw [if_neg e, up_other e]
  exact h.pt i hi
theorem HisQ.put2 {w : World} {X : Nat} {ha : Option Addr} {hc : Nat} {y : Hs} {d : Nat -> Nat} {k i0 j0 : Nat} {on : Int} {o : Obj} (h : HisQ w X ha hc y d) (hk : k < 4) (hi : i0 < 4) (hj : j0 < 4) (HO : ∀ a b, y.opn (up d k) a b = if a = i0 /\ b = j0 then on else y.opn d a b) :
  HisQ (((w.setCell ⟨X, 5 + i0 * 4 + j0, none⟩ (.int .i64 on)).setCell ⟨X, 1 + k, none⟩ (.int .i64 ((d k : Int) + 1))).alloc o) X ha hc y (up d k) /\ Touch (fun b => b = X) w (((w.setCell ⟨X, 5 + i0 * 4 + j0, none⟩ (.int .i64 on)).setCell ⟨X, 1 + k, none⟩ (.int .i64 ((d k : Int) + 1))).alloc o) := by
 have hX := h.lt
 refine ⟨h.put (k := k) (cell_set2 (by omega) (by omega) hX) (fun i hi' => ?_) (fun a b ha' hb' => ?_) (fun j => ?_), ?_⟩
 ·by_cases e : i = k
  ·subst e
   rw [if_pos rfl, cell_set2b (by omega) (by rw [h.pt i hi']; rfl) hX]
   rfl
  ·rw [if_neg e]
   exact cell_set2 (by omega) (by omega) hX
 ·rw [HO]
  by_cases e : a = i0 /\ b = j0
  ·obtain ⟨rfl, rfl⟩ := e
   rw [if_pos ⟨rfl, rfl⟩]
   exact cell_set2a (by omega) (by rw [h.op a b ha' hb']; rfl) hX
  ·rw [if_neg e, <- h.op a b ha' hb']
   exact cell_set2 (by omega) (by omega) hX
 ·rw [frozen_alloc_lt (by simpa [World.setCell] using hX), World.frozen?_setCell, World.frozen?_setCell]
  exact h.fr j
 ·exact ((Touch.of_set (P := fun b => b = X) w (a := ⟨X, _, none⟩) rfl _).trans (Touch.of_set (P := fun b => b = X) _ (a := ⟨X, _, none⟩) rfl _)).trans (Touch.of_below (zS _ _))
theorem HisQ.put1 {w : World} {X : Nat} {ha : Option Addr} {hc : Nat} {y : Hs} {d : Nat -> Nat} {k : Nat} {o : Obj} (h : HisQ w X ha hc y d) (hk : k < 4) (HO : ∀ a b, y.opn (up d k) a b = y.opn d a b) :
  HisQ ((w.setCell ⟨X, 1 + k, none⟩ (.int .i64 ((d k : Int) + 1))).alloc o) X ha hc y (up d k) /\ Touch (fun b => b = X) w ((w.setCell ⟨X, 1 + k, none⟩ (.int .i64 ((d k : Int) + 1))).alloc o) := by
 have hX := h.lt
 have ho : ∀ m, m ≠ 1 + k -> ((w.setCell ⟨X, 1 + k, none⟩ (.int .i64 ((d k : Int) + 1))).alloc o).cell? ⟨X, m, none⟩ = w.cell? ⟨X, m, none⟩ := fun m hm => by
  rw [World.cell?_alloc_lt _ _ _ (by simpa [World.setCell] using hX), World.cell?_setCell_other _ _ _ _ (by intro e; injection e with _ e; exact hm e.symm)]
 refine ⟨h.put (k := k) (ho 0 (by omega)) (fun i hi' => ?_) (fun a b ha' hb' => ?_) (fun j => ?_), ?_⟩
 ·by_cases e : i = k
  ·subst e
   rw [if_pos rfl, World.cell?_alloc_lt _ _ _ (by simpa [World.setCell] using hX), World.cell?_setCell_same' _ _ _ (by rw [h.pt i hi']; rfl)]
   rfl
  ·rw [if_neg e]
   exact ho _ (by omega)
 ·rw [HO, <- h.op a b ha' hb']
  exact ho _ (by omega)
 ·rw [frozen_alloc_lt (by simpa [World.setCell] using hX), World.frozen?_setCell]
  exact h.fr j
 ·exact (Touch.of_set (P := fun b => b = X) w (a := ⟨X, _, none⟩) rfl _).trans (Touch.of_below (zS _ _))
theorem HisQ.dr {w : World} {X : Nat} {ha : Option Addr} {hc : Nat} {y : Hs} {d : Nat -> Nat} (h : HisQ w X ha hc y d) : HisQ w.drew X ha hc y d := ⟨h.c4, h.pt, h.op, h.fr⟩
theorem putOne_q (X : Nat) (ha : Option Addr) (hc : Nat) (hA : Nat -> Option Addr) (hC : Nat -> Nat) (y : Hs) (d : Nat -> Nat) (k : Nat) (w : World) (hE : HisE w ha hA hC y) (hP : HisQ w X ha hc y d) (h4 : y.n <= 4) (hk : k < y.n) (hp : y.Peers) (hl : ∀ i, i < y.n -> y.l i <= 200) (hd : ∀ i, d i <= y.l i) (hlt : d k < y.l k) :
  Calls Tryz.prog 113 #[.pointer (some ⟨X, 0, none⟩), .int .i64 k] w fun e w' => e = .returned (.tuple #[]) /\ HisQ w' X ha hc y (up d k) /\ Touch (fun b => b = X) w w' := by
 have HP : Hid (HisQ w X ha hc y d) := hP
 have hk4 : (k : Int) < 4 := by omega
 have hk' : (k : Int) < (y.n : Int) := by omega
 have hl200 : (y.l k : Int) <= 200 := by have := hl k hk; omega
 have hlt' : (d k : Int) < (y.l k : Int) := by omega
 obtain ⟨bh, oh, eh, ch⟩ := hE.row.at hk
 obtain ⟨c4, pt, op, fr⟩ := hP
 have pk := pt k (by omega)
 rw [eh] at c4
 obtain ⟨b, off, ea, zb, e0, e1, e2⟩ := (hE.ev k hk).at hlt
 rw [ea] at ch
 have n1 : w.heap.size ≠ X := by have := HP.out.lt; omega
 have n2 : w.heap.size ≠ b := by omega
 have n3 : w.heap.size ≠ bh := by have := zJ w _ ch; simp at this; omega
 have zX : X < w.heap.size := HP.out.lt
 have hq := hp k hk (d k) hlt
 obtain ⟨q, hqe⟩ : ∃ q : Nat, (y.e k (d k)).q = (q : Int) := ⟨(y.e k (d k)).q.toNat, by omega⟩
 have hq4 : (q : Int) < 4 := by omega
 have hqn : q < y.n := by omega
 rw [hqe] at e1
 have c4' := cell_allocs c4
 have pk' := cell_allocs pk
 have ch' := cell_allocs ch
 have e0' := cell_allocs e0
 have e1' := cell_allocs e1
 have e2' := cell_allocs e2
 have fr' : ∀ j, w.frozen? ⟨X, j, none⟩ = false := fr
 rcases zK ((y.e k (d k)).k == 2) with t | t
 ·have hk2 : (y.e k (d k)).k = 2 := by simpa using t
  have oq := op k q (by omega) (by omega)
  obtain ⟨o1, o2⟩ := Hs.opn_le hd hl hk hqn
  have oq' := cell_allocs oq
  rw [hk2] at e0 e0'
  have HO : Hid (∀ a b, y.opn (up d k) a b = if a = k /\ b = q then y.opn d k q + 1 else y.opn d a b) := fun a b => by
   rw [Hs.opn_up, hk2, hqe]
   by_cases e : a = k /\ b = q
   ·obtain ⟨rfl, rfl⟩ := e
    simp
   ·rw [if_neg e, if_neg (fun h => e ⟨h.1, by omega⟩), if_neg (fun h => absurd h.2.1 (by decide))]
    omega
  clear op pt t hk2 hq hqe hp hE eh ea
  generalize (y.e k (d k)).v = vd at *
  generalize y.opn d k q = on at *
  go_enter Tryz.func113, Tryz.ntmps113
  go_wp2_with fail
  go_region
  all_goals
   go_wp2_with fail
   go_region
   all_goals
    go_wp2_with fail
    go_region
    all_goals
     go_wp2_with fail
     go_end0
     have hz := HP.out.put2 (o := oQ0 2 q vd) (show k < 4 by omega) (show k < 4 by omega) (show q < 4 by omega) HO.out
     exact ⟨rfl, hz.1.dr.dr.dr, hz.2.dr.dr.dr⟩
 rcases zK ((y.e k (d k)).k == 3) with t3 | t3
 ·have hk3 : (y.e k (d k)).k = 3 := by simpa using t3
  have oq := op q k (by omega) (by omega)
  obtain ⟨o1, o2⟩ := Hs.opn_le hd hl hqn hk
  have oq' := cell_allocs oq
  rw [hk3] at e0 e0'
  have HO : Hid (∀ a b, y.opn (up d k) a b = if a = q /\ b = k then y.opn d q k - 1 else y.opn d a b) := fun a b => by
   rw [Hs.opn_up, hk3, hqe]
   by_cases e : a = q /\ b = k
   ·obtain ⟨rfl, rfl⟩ := e
    simp
   ·rw [if_neg e, if_neg (fun h => absurd h.2.1 (by decide)), if_neg (fun h => e ⟨by omega, h.1⟩)]
    omega
  clear op pt t t3 hk3 hq hqe hp hE eh ea
  generalize (y.e k (d k)).v = vd at *
  generalize y.opn d q k = on at *
  go_enter Tryz.func113, Tryz.ntmps113
  go_wp2_with fail
  go_region
  all_goals
   go_wp2_with fail
   go_region
   all_goals
    go_wp2_with fail
    go_region
    all_goals
     go_wp2_with fail
     go_end0
     have hz := HP.out.put2 (o := oQ0 3 q vd) (show k < 4 by omega) (show q < 4 by omega) (show k < 4 by omega) HO.out
     exact ⟨rfl, hz.1.dr.dr.dr, hz.2.dr.dr.dr⟩
 ·have HO : Hid (∀ a b, y.opn (up d k) a b = y.opn d a b) := fun a b => by
   have t2 : (y.e k (d k)).k ≠ 2 := by simpa using t
   have t3' : (y.e k (d k)).k ≠ 3 := by simpa using t3
   rw [Hs.opn_up, if_neg (fun h => t2 h.2.1), if_neg (fun h => t3' h.2.1)]
   omega
  clear op pt hq hqe hp hE eh ea
  generalize (y.e k (d k)).v = vd at *
  generalize (y.e k (d k)).k = kd at *
  go_enter Tryz.func113, Tryz.ntmps113
  go_wp2_with fail
  go_region
  all_goals
   go_wp2_with fail
   go_region
   all_goals
    go_wp2_with fail
    go_end0
    have hz := HP.out.put1 (o := oQ0 kd q vd) (show k < 4 by omega) HO.out
    exact ⟨rfl, hz.1.dr.dr, hz.2.dr.dr⟩
theorem next_q (X : Nat) (ha : Option Addr) (hc : Nat) (hA : Nat -> Option Addr) (hC : Nat -> Nat) (y : Hs) (d : Nat -> Nat) (w : World) (hE : HisE w ha hA hC y) (hP : HisQ w X ha hc y d) (h4 : y.n <= 4) (hp : y.Peers) (hl : ∀ i, i < y.n -> y.l i <= 200) (hd : ∀ i, d i <= y.l i) :
  Calls Tryz.prog 132 #[.pointer (some ⟨X, 0, none⟩)] w (NxtR w y d) := by
 have HE : Hid (HisE w ha hA hC y) := hE
 have HP : Hid (HisQ w X ha hc y d) := hP
 have HH : Hid (y.Peers /\ (∀ i, i < y.n -> y.l i <= 200) /\ ∀ i, d i <= y.l i) := ⟨hp, hl, hd⟩
 have hn : (y.n : Int) <= 4 := by omega
 obtain ⟨c4, -, -, -⟩ := hP
 clear hE hp hl hd
 go_enter Tryz.func132, Tryz.ntmps132
 go_wp2_with fail
 clear c4
 go_loopw [9] (fun i wr => ∃ k : Nat, k <= y.n /\ i = .int .i64 k /\ Below w.heap.size w wr /\ Hid (∀ j, j < k -> ¬ y.Can d j)) (fun i _ => y.n - (intOf i).toNat)
 case atStart => exact ⟨0, Nat.zero_le _, rfl, Below.refl _ _, fun j hj => by omega⟩
 case round =>
  obtain ⟨k, hk, rfl, hbw, HZ⟩ := hrel
  by_cases hlt : k < y.n
  ·have hlt' : (k : Int) < (y.n : Int) := by omega
   go_wp2_with fail
   refine (canPut_q X ha hc hA hC y d k wr (HE.out.below hbw) (HP.out.below hbw) h4 hlt HH.out.1 HH.out.2.1 HH.out.2.2).mono ?_
   rintro e w1 ⟨rfl, b1⟩
   have B1 : Hid (Below w.heap.size w w1) := hbw.trans (b1.mono hbw.size)
   clear b1 hbw
   by_cases hc' : y.Can d k
   ·have HF : Hid (NxtR w y d (.returned (.int .i64 k)) w1) := ⟨B1.out, .inl ⟨k, hlt, hc', rfl⟩⟩
    rw [qB_true hc']
    clear hc' B1
    go_wp2
    go_ret
    exact HF.out
   ·have HZ' : Hid (∀ j, j < k + 1 -> ¬ y.Can d j) := fun j hj => by
     by_cases e : j = k
     ·subst e
      exact hc'
     ·exact HZ.out j (by omega)
    rw [qB_false hc']
    clear hc' HZ
    go_wp2
    go_roundw
    case rel => exact ⟨k + 1, by omega, by go_num, B1.out, HZ'.out⟩
    case measure => simp [intOf]; omega
  ·have HF : Hid (NxtR w y d (.returned (.int .i64 (-1))) wr) := ⟨hbw, .inr ⟨rfl, fun p hp => HZ.out p (by omega)⟩⟩
   clear HZ hbw
   go_wp2
   go_ret
   exact HF.out
theorem zP (w : World) (o : Obj) : Below w.heap.size w (w.alloc o) := (Below.refl _ _).alloc (Nat.le_refl _) _
def Src (w : World) (a0 : Option Addr) (cs : List Value) : Prop := cs = [] \/ ∃ b off, a0 = some ⟨b, off, none⟩ /\ b < w.heap.size /\ ∀ j u, cs[j]? = some u -> w.cell? ⟨b, off + j, none⟩ = some u
theorem Src.below {w w' : World} {a0 : Option Addr} {cs : List Value} (h : Src w a0 cs) (hb : Below w.heap.size w w') : Src w' a0 cs := by
 rcases h with h | ⟨b, off, e, hlt, hc⟩
 ·exact .inl h
 ·exact .inr ⟨b, off, e, zL hlt hb.size, fun j u hj => (hb.cell (p := ⟨b, off + j, none⟩) hlt).trans (hc j u hj)⟩
structure Kind (t e : TypeId) (size bytes : Nat) : Prop where
 und : Tryz.prog.underlying t = some (.slice e)
 inf : ∃ i z, Tryz.prog.info? e = some i /\ i.zero = some z /\ i.size = size /\ i.bytes = bytes /\ z.cells.size = size
 pos : 0 < size
 sml : bytes <= 128
theorem run_append_src {t e : TypeId} {size bytes : Nat} (K : Kind t e size bytes) (w : World) (ty : TypeId) (B : Nat) (v : Value) (n : Nat) (xs : List Value) (hown : w.ownsRow B e size v n xs) (a0 : Option Addr) (m c : Nat) (news : List Value) (hl : news.length = m * size) (hsrc : Src w a0 news) (h1 : ∀ u ∈ news, u.oneCell' = true) (hnm : n + m <= 4000000) (hB : B <= w.heap.size) :
  ∃ v' w', (Builtin.append_ #[t, t] ty #[v, .slice a0 m c]).run Tryz.prog w = .ok v' w' /\ w'.ownsRow B e size v' (n + m) (xs ++ news) /\ w.grownBy w' v.ownBlock /\ (v'.ownBlock = v.ownBlock \/ v'.ownBlock = some w.heap.size) /\ (v ≠ .slice none 0 0 \/ 0 < m -> v' ≠ .slice none 0 0) := by
 obtain ⟨i, z, hi, hz, hs, hb, hzs⟩ := K.inf
 have hby : (n + m) * bytes <= 140737488355328 := zO (Nat.mul_le_mul hnm K.sml) (by omega)
 cases a0 with
 | none =>
  have hn0 : news = [] := by
   rcases hsrc with h | ⟨b, off, e, _⟩
   ·exact h
   ·cases e
  subst hn0
  have hm : m = 0 := by
   have := K.pos
   simp only [List.length_nil] at hl
   rcases Nat.eq_zero_or_pos m with h | h
   ·exact h
   ·have := Nat.mul_pos h K.pos
    omega
  subst hm
  refine ⟨v, w, ?_, by simpa using hown, World.grownBy.refl _ _, .inl rfl, fun h => h.elim id fun h => by omega⟩
  rcases hown.2 with ⟨rfl, _⟩ | ⟨g, cap, cur, rfl, _, _, hnc, _⟩
  ·simp [Builtin.append_, run_underlying K.und, sizeOf, typeInfo, hi, Builtin.lenOf, Builtin.firstCells]
  ·simp [Builtin.append_, run_underlying K.und, sizeOf, typeInfo, hi, Builtin.lenOf, Builtin.firstCells, hnc, storeCells]
 | some a =>
  have hnews : ∀ j u, news[j]? = some u -> w.cell? (a.add j) = some u := by
   rcases hsrc with h0 | ⟨b, off, e, hlt, hc⟩
   ·subst h0
    intro j u hj
    simp at hj
   ·cases e
    intro j u hj
    have ha : Addr.add ⟨b, off, none⟩ j = ⟨b, off + j, none⟩ := by unfold Addr.add; split <;> simp_all
    rw [ha]
    exact hc j u hj
  obtain ⟨v', w', r1, r2, r3, r4, r5⟩ := run_append_own_at (P := Tryz.prog) w B t ty e i z size bytes K.und hi hz hs hb hzs K.pos v n xs hown a m c news hl hnews h1 (by unfold maxLen; omega) hby hB
  exact ⟨v', w', r1, r2, r3, r5, fun h e => h.elim (fun h => h (r4.1 e).1) fun h => by have := (r4.1 e).2; omega⟩
theorem step_append_src {ops : Array Oper} {rest : List Oper} {op : Oper} {act : Act} {Q : Exit -> Act -> World -> Prop} {t e : TypeId} {size bytes : Nat} (K : Kind t e size bytes) (w : World) (hgd : op.guard = none) (s x : Operand)
  (ho : op.op = .call { callee := .builtin .append, args := #[s, x], argTypes := #[t, t] })
  (B : Nat) (v : Value) (n : Nat) (xs : List Value) (hs : act.eval s = v) (hown : w.ownsRow B e size v n xs) (a0 : Option Addr) (m c : Nat) (news : List Value) (hx : act.eval x = .slice a0 m c) (hl : news.length = m * size) (hsrc : Src w a0 news) (h1 : ∀ u ∈ news, u.oneCell' = true) (hnm : n + m <= 4000000) (hB : B <= w.heap.size)
  (h : ∀ v' w', w'.ownsRow B e size v' (n + m) (xs ++ news) -> w.grownBy w' v.ownBlock -> (v'.ownBlock = v.ownBlock \/ v'.ownBlock = some w.heap.size) -> (v ≠ .slice none 0 0 \/ 0 < m -> v' ≠ .slice none 0 0) -> wpList Tryz.prog ops Q rest (act.put op.dst v') w') :
  wpList Tryz.prog ops Q (op :: rest) act w := by
 obtain ⟨v', w', r1, r2, r3, r4, r5⟩ := run_append_src K w op.type B v n xs hown a0 m c news hl hsrc h1 hnm hB
 refine wpList_plain hgd fun K hK => ?_
 unfold Oper.wp execOp
 simp only [ho, resolve, invoke, builtin, Sem.run_bind, Sem.run_pure, Result.andThen_ok, List.map_toArray, List.map_cons, List.map_nil, hs, hx, r1]
 exact hK _ _ (h v' w' r2 r3 r4 r5)
theorem step_append_srcN {ops : Array Oper} {rest : List Oper} {op : Oper} {act : Act} {Q : Exit -> Act -> World -> Prop} {t e : TypeId} {size bytes : Nat} (K : Kind t e size bytes) (w : World) {N : Nat} (hN : N = w.heap.size) (hgd : op.guard = none) (s x : Operand)
  (ho : op.op = .call { callee := .builtin .append, args := #[s, x], argTypes := #[t, t] })
  (a0 : Option Addr) (m c : Nat) (news : List Value) (hs : act.eval s = .slice (some ⟨N, 0, none⟩) 0 0) (hx : act.eval x = .slice a0 m c) (hl : news.length = m * size) (hsrc : Src w a0 news) (h1 : ∀ u ∈ news, u.oneCell' = true) (hnm : m <= 4000000)
  (h : ∀ v' w', w'.ownsRow w.heap.size e size v' m news -> Below w.heap.size w w' -> v' ≠ .slice none 0 0 -> wpList Tryz.prog ops Q rest (act.put op.dst v') w') :
  wpList Tryz.prog ops Q (op :: rest) act (w.alloc (.cells #[] e)) := by
 subst hN
 have hb : Below w.heap.size w (w.alloc (.cells #[] e)) := zP _ _
 refine step_append_src K _ hgd s x ho w.heap.size (.slice (some ⟨w.heap.size, 0, none⟩) 0 0) 0 [] hs (World.ownsRow_made (base := w.heap.size) (e := e) (size := size) w #[] 0 (Nat.le_refl _) (by unfold maxLen; omega) (by simp)) a0 m c news hx hl (hsrc.below hb) h1 (by omega) (by simp) ?_
 intro v' w' o g _ hne
 rw [Nat.zero_add, List.nil_append] at o
 exact h v' w' o (hb.grown g (by simp) (fun k hk => by cases hk; exact Nat.le_refl _)) (hne (.inl (by simp)))
theorem step_append_val {ops : Array Oper} {rest : List Oper} {op : Oper} {act : Act} {Q : Exit -> Act -> World -> Prop} {t e : TypeId} {size bytes : Nat} (K : Kind t e size bytes) (w : World) {N : Nat} (hN : N = w.heap.size) (hgd : op.guard = none) (s x : Operand)
  (ho : op.op = .call { callee := .builtin .append, args := #[s, x], argTypes := #[t, t] })
  (B : Nat) (v : Value) (n : Nat) (xs : List Value) (hs : act.eval s = v) (hown : w.ownsRow B e size v n xs) (cs : Array Value) (hx : act.eval x = .slice (some ⟨N, 0, none⟩) 1 1) (hl : cs.size = size) (h1 : ∀ u ∈ cs.toList, u.oneCell' = true) (hn : n <= 2000000) (hB : B <= w.heap.size)
  (h : ∀ v' w', w'.ownsRow B e size v' (n + 1) (xs ++ cs.toList) -> w.grownBy w' v.ownBlock -> (∀ j, v'.ownBlock = some j -> v.ownBlock = some j \/ w.heap.size <= j) -> v' ≠ .slice none 0 0 -> wpList Tryz.prog ops Q rest (act.put op.dst v') w') :
  wpList Tryz.prog ops Q (op :: rest) act (w.alloc (.cells cs e)) := by
 subst hN
 have hb : Below w.heap.size w (w.alloc (.cells cs e)) := zP _ _
 refine step_append_src K _ hgd s x ho B v n xs hs (hown.alloc _) (some ⟨w.heap.size, 0, none⟩) 1 1 cs.toList hx (by simp [hl]) (.inr ⟨w.heap.size, 0, rfl, by simp, fun j u hj => ?_⟩) h1 (by omega) (by simp; omega) ?_
 ·rw [Nat.zero_add, zV _ _ _ j rfl]
  simpa using hj
 ·intro v' w' o g hbk hne
  refine h v' w' o ⟨g.os, g.tape, g.output, zO hb.size g.size, fun j hj hne => (g.block j (zL hj hb.size) hne).trans (hb.block j hj)⟩ (fun j hj => ?_) (hne (.inr (by omega)))
  rcases hbk with a | a
  ·exact .inl (a.symm.trans hj)
  ·rw [hj] at a
   simp only [Option.some.injEq] at a
   right
   rw [a]
   simp
def Nz (z : Bool) (e : TypeId) : Prop := z = true \/ e = 117
structure LL (z : Bool) (e : TypeId) (sz : Nat) (E : TypeId) (w : World) (P : Nat -> Prop) (v : Value) (n : Nat) (u : Nat -> Value) (L : Nat -> Nat) (c : Nat -> List Value) : Prop where
 row : w.ownsRow 0 E 1 v n ((List.range n).map u)
 own : ∀ i, i < n -> w.ownsRow 0 e sz (u i) (L i) (c i)
 rb : ∀ k, v.ownBlock = some k -> P k
 ob : ∀ i, i < n -> ∀ k, (u i).ownBlock = some k -> P k
 ra : ∀ i, i < n -> ∀ k, (u i).ownBlock = some k -> v.ownBlock ≠ some k
 oa : ∀ i j, i < n -> j < n -> i ≠ j -> ∀ k, (u i).ownBlock = some k -> (u j).ownBlock ≠ some k
 nn : Nz z e -> ∀ i, i < n -> u i ≠ .slice none 0 0
theorem ownsRow_blkL {w w' : World} {B size n : Nat} {e : TypeId} {v : Value} {xs : List Value} (h : w.ownsRow B e size v n xs) (hb : ∀ k, v.ownBlock = some k -> w'.heap[k]? = w.heap[k]?) : w'.ownsRow B e size v n xs := by
 refine ⟨h.1, ?_⟩
 rcases h.2 with hn | ⟨g, cap, cur, rfl, hB, hg, hr⟩
 ·exact .inl hn
 ·exact .inr ⟨g, cap, cur, rfl, hB, (hb g rfl).trans hg, hr⟩
theorem ownsRow_base0 {w : World} {B size n : Nat} {e : TypeId} {v : Value} {xs : List Value} (h : w.ownsRow B e size v n xs) : w.ownsRow 0 e size v n xs := h.mono (Nat.zero_le _)
section
variable {z : Bool} {e : TypeId} {sz : Nat} {E : TypeId} {w : World} {P : Nat -> Prop} {v : Value} {n : Nat} {u : Nat -> Value} {L : Nat -> Nat} {c : Nat -> List Value}
theorem LL.keep (o : LL z e sz E w P v n u L c) {w' : World} (hb : ∀ k, P k -> k < w.heap.size -> w'.heap[k]? = w.heap[k]?) : LL z e sz E w' P v n u L c :=
 ⟨ownsRow_blkL o.row fun k hk => hb k (o.rb k hk) (o.row.lt k hk).2, fun i hi => ownsRow_blkL (o.own i hi) fun k hk => hb k (o.ob i hi k hk) ((o.own i hi).lt k hk).2, o.rb, o.ob, o.ra, o.oa, o.nn⟩
theorem LL.below (o : LL z e sz E w P v n u L c) {w' : World} (hb : Below w.heap.size w w') : LL z e sz E w' P v n u L c := o.keep fun k _ hk => hb.block k hk
theorem LL.mono (o : LL z e sz E w P v n u L c) {P' : Nat -> Prop} (h : ∀ k, P k -> k < w.heap.size -> P' k) : LL z e sz E w P' v n u L c :=
 ⟨o.row, o.own, fun k hk => h k (o.rb k hk) (o.row.lt k hk).2, fun i hi k hk => h k (o.ob i hi k hk) ((o.own i hi).lt k hk).2, o.ra, o.oa, o.nn⟩
theorem LL.pushG (o : LL z e sz E w P v n u L c) {w1 w2 : World} {u' v' : Value} (hsz : w.heap.size <= w1.heap.size) (hb : ∀ k, P k -> k < w.heap.size -> w1.heap[k]? = w.heap[k]?) (hu : w1.ownsRow w.heap.size e sz u' (L n) (c n)) (hne : Nz z e -> u' ≠ .slice none 0 0) (hv : w2.ownsRow 0 E 1 v' (n + 1) ((List.range n).map u ++ [u'])) (g : w1.grownBy w2 v.ownBlock)
  (hv' : ∀ j, v'.ownBlock = some j -> v.ownBlock = some j \/ w1.heap.size <= j) {P' : Nat -> Prop} (hP : ∀ k, P k -> k < w.heap.size -> P' k) (hP' : ∀ k, w.heap.size <= k -> k < w2.heap.size -> P' k) : LL z e sz E w2 P' v' (n + 1) (fun j => if j = n then u' else u j) L c := by
 have hvlt : ∀ k, v.ownBlock = some k -> k < w.heap.size := fun k hk => (o.row.lt k hk).2
 have hu2 : w2.ownsRow w.heap.size e sz u' (L n) (c n) := hu.kept g (by
  cases hk : u'.ownBlock with
  | none => exact .inl rfl
  | some k =>
   refine .inr fun e => ?_
   have q1 := (hu.lt k hk).1
   have q2 := hvlt k e.symm
   omega)
 have ho2 : ∀ i, i < n -> w2.ownsRow 0 e sz (u i) (L i) (c i) := fun i hi => ownsRow_blkL (o.own i hi) fun k hk => (g.block k (zL ((o.own i hi).lt k hk).2 hsz) fun e => o.ra i hi k hk e.symm).trans (hb k (o.ob i hi k hk) ((o.own i hi).lt k hk).2)
 have lts : ∀ i, i < n -> ∀ k, (u i).ownBlock = some k -> k < w.heap.size := fun i hi k hk => ((o.own i hi).lt k hk).2
 refine ⟨?_, fun i hi => ?_, fun k hk => ?_, fun i hi k hk => ?_, fun i hi k hk => ?_, fun i j hi hj hij k hk => ?_, fun hz i hi => ?_⟩
 ·have e : (List.range (n + 1)).map (fun j => if j = n then u' else u j) = (List.range n).map u ++ [u'] := by
   rw [List.range_succ, List.map_append]
   simp only [List.map_cons, List.map_nil, if_true]
   congr 1
   exact List.map_congr_left fun j hj => by
    rw [if_neg]
    have := List.mem_range.1 hj
    omega
  rw [e]
  exact hv
 ·by_cases ei : i = n
  ·subst ei
   rw [if_pos rfl]
   exact ownsRow_base0 hu2
  ·rw [if_neg ei]
   exact ho2 i (by omega)
 ·rcases hv' k hk with h | h
  ·exact hP k (o.rb k h) (hvlt k h)
  ·exact hP' k (zO hsz h) (hv.lt k hk).2
 ·by_cases ei : i = n
  ·simp only [if_pos ei] at hk
   exact hP' k (hu.lt k hk).1 (hu2.lt k hk).2
  ·simp only [if_neg ei] at hk
   exact hP k (o.ob i (by omega) k hk) (lts i (by omega) k hk)
 ·intro hvk
  by_cases ei : i = n
  ·simp only [if_pos ei] at hk
   rcases hv' k hvk with h | h
   ·have := hvlt k h
    have := (hu.lt k hk).1
    omega
   ·have := (hu.lt k hk).2
    omega
  ·simp only [if_neg ei] at hk
   rcases hv' k hvk with h | h
   ·exact o.ra i (by omega) k hk h
   ·have := lts i (by omega) k hk
    omega
 ·intro hjk
  by_cases ei : i = n
  ·have ej : j ≠ n := fun e => hij (by omega)
   simp only [if_pos ei] at hk
   simp only [if_neg ej] at hjk
   have := lts j (by omega) k hjk
   have := (hu.lt k hk).1
   omega
  ·simp only [if_neg ei] at hk
   by_cases ej : j = n
   ·simp only [if_pos ej] at hjk
    have := lts i (by omega) k hk
    have := (hu.lt k hjk).1
    omega
   ·simp only [if_neg ej] at hjk
    exact o.oa i j (by omega) (by omega) hij k hk hjk
 ·by_cases ei : i = n
  ·rw [if_pos ei]
   exact hne hz
  ·rw [if_neg ei]
   exact o.nn hz i (by omega)
theorem LL.push (o : LL z e sz E w P v n u L c) {w1 w2 : World} {u' v' : Value} (b1 : Below w.heap.size w w1) (hu : w1.ownsRow w.heap.size e sz u' (L n) (c n)) (hne : Nz z e -> u' ≠ .slice none 0 0) (hv : w2.ownsRow 0 E 1 v' (n + 1) ((List.range n).map u ++ [u'])) (g : w1.grownBy w2 v.ownBlock)
  (hv' : ∀ j, v'.ownBlock = some j -> v.ownBlock = some j \/ w1.heap.size <= j) {P' : Nat -> Prop} (hP : ∀ k, P k -> k < w.heap.size -> P' k) (hP' : ∀ k, w.heap.size <= k -> k < w2.heap.size -> P' k) : LL z e sz E w2 P' v' (n + 1) (fun j => if j = n then u' else u j) L c :=
 o.pushG b1.size (fun k _ hk => b1.block k hk) hu hne hv g hv' hP hP'
theorem LL.nil (e : TypeId) (sz : Nat) (E : TypeId) (w : World) (P : Nat -> Prop) (u : Nat -> Value) (L : Nat -> Nat) (c : Nat -> List Value) : LL z e sz E w P (.slice none 0 0) 0 u L c :=
 ⟨World.ownsRow_nil _ _ _ _, fun i hi => (by omega), fun k hk => (by cases hk), fun i hi => (by omega), fun i hi => (by omega), fun i j hi => (by omega), fun _ i hi => by omega⟩
theorem LL.new (e : TypeId) (sz : Nat) (E : TypeId) (w : World) (P : Nat -> Prop) (hP : P w.heap.size) (u : Nat -> Value) (L : Nat -> Nat) (c : Nat -> List Value) : LL z e sz E (w.alloc (.cells #[] E)) P (.slice (some ⟨w.heap.size, 0, none⟩) 0 0) 0 u L c :=
 ⟨World.ownsRow_made (base := 0) (e := E) (size := 1) w #[] 0 (Nat.zero_le _) (by unfold maxLen; omega) rfl, fun i hi => (by omega), fun k hk => (by cases hk; exact hP), fun i hi => (by omega), fun i hi => (by omega), fun i j hi => (by omega), fun _ i hi => by omega⟩
theorem LL.cell (o : LL z e sz E w P v n u L c) {i : Nat} (hi : i < n) : ∃ g cap, v = .slice (some ⟨g, 0, none⟩) n cap /\ P g /\ g < w.heap.size /\ w.cell? ⟨g, i, none⟩ = some (u i) /\ ∀ j, w.frozen? ⟨g, j, none⟩ = false := by
 rcases o.row.2 with ⟨_, h0⟩ | ⟨g, cap, cur, rfl, hb, hg, hr⟩
 ·omega
 ·refine ⟨g, cap, rfl, o.rb g rfl, (o.row.lt g rfl).2, ?_, fun j => o.row.frozenAt j⟩
  rw [o.row.cellAt i (by omega)]
  simp [hi]
theorem LL.put {g cap : Nat} (o : LL z e sz E w P (.slice (some ⟨g, 0, none⟩) n cap) n u L c) {i : Nat} (hi : i < n) {w1 : World} {u' : Value} {m : Nat} {c' : List Value} (_hs : w.heap.size <= w1.heap.size) (g1 : ∀ k, k < w.heap.size -> (u i).ownBlock ≠ some k -> w1.heap[k]? = w.heap[k]?)
  (hu : w1.ownsRow 0 e sz u' m c') (hne : Nz z e -> u' ≠ .slice none 0 0) (hb : ∀ k, u'.ownBlock = some k -> (u i).ownBlock = some k \/ w.heap.size <= k) {P' : Nat -> Prop} (hP : ∀ k, P k -> k < w.heap.size -> P' k) (hP' : ∀ k, w.heap.size <= k -> k < w1.heap.size -> P' k) :
  LL z e sz E (w1.setCell ⟨g, i, none⟩ u') P' (.slice (some ⟨g, 0, none⟩) n cap) n (fun j => if j = i then u' else u j) (fun j => if j = i then m else L j) (fun j => if j = i then c' else c j) := by
 have hg : g < w.heap.size := (o.row.lt g rfl).2
 have hgi : (u i).ownBlock ≠ some g := fun e => o.ra i hi g e rfl
 have row1 : w1.ownsRow 0 E 1 (.slice (some ⟨g, 0, none⟩) n cap) n ((List.range n).map u) := ownsRow_blkL o.row fun k hk => by
  cases hk
  exact g1 g hg hgi
 have hu'g : u'.ownBlock ≠ some g := fun e => by
  rcases hb g e with h | h
  ·exact hgi h
  ·omega
 have lts : ∀ j, j < n -> ∀ k, (u j).ownBlock = some k -> k < w.heap.size := fun j hj k hk => ((o.own j hj).lt k hk).2
 refine ⟨?_, fun j hj => ?_, fun k hk => ?_, fun j hj k hk => ?_, fun j hj k hk => ?_, fun a b ha hb' hab k hk => ?_, fun hz j hj => ?_⟩
 ·have h := (World.ownsRow.stored row1 i u').1
  have e : (List.range n).map (fun j => if j = i then u' else u j) = ((List.range n).map u).set i u' := by
   apply List.ext_getElem (by simp)
   intro j h1 h2
   simp only [List.getElem_map, List.getElem_range, List.getElem_set]
   by_cases q : j = i
   ·rw [if_pos q, if_pos q.symm]
   ·rw [if_neg q, if_neg fun e => q e.symm]
  rw [e]
  exact h
 ·by_cases ej : j = i
  ·subst ej
   simp only [if_true]
   exact ownsRow_setCell_other hu hu'g _
  ·simp only [if_neg ej]
   refine ownsRow_setCell_other (ownsRow_blkL (o.own j hj) fun k hk => g1 k (lts j hj k hk) fun e => o.oa j i hj hi ej k hk e) (fun e => o.ra j hj g e rfl) _
 ·cases hk
  exact hP g (o.rb g rfl) hg
 ·by_cases ej : j = i
  ·simp only [if_pos ej] at hk
   rcases hb k hk with h | h
   ·exact hP k (o.ob i hi k h) (lts i hi k h)
   ·exact hP' k h (hu.lt k hk).2
  ·simp only [if_neg ej] at hk
   exact hP k (o.ob j hj k hk) (lts j hj k hk)
 ·intro hvk
  cases hvk
  by_cases ej : j = i
  ·simp only [if_pos ej] at hk
   exact hu'g hk
  ·simp only [if_neg ej] at hk
   exact o.ra j hj g hk rfl
 ·intro hbk
  by_cases ea : a = i
  ·have eb : b ≠ i := fun e => hab (by omega)
   simp only [if_pos ea] at hk
   simp only [if_neg eb] at hbk
   rcases hb k hk with h | h
   ·exact o.oa b i hb' hi eb k hbk h
   ·have := lts b hb' k hbk
    omega
  ·simp only [if_neg ea] at hk
   by_cases eb : b = i
   ·simp only [if_pos eb] at hbk
    rcases hb k hbk with h | h
    ·exact o.oa a i ha hi ea k hk h
    ·have := lts a ha k hk
     omega
   ·simp only [if_neg eb] at hbk
    exact o.oa a b ha hb' hab k hk hbk
 ·by_cases ej : j = i
  ·simp only [if_pos ej]
   exact hne hz
  ·simp only [if_neg ej]
   exact o.nn hz j hj
end
section
variable {w : World} {P : Nat -> Prop} {v : Value} {n : Nat} {vs : Nat -> Value} {S : Nat -> S4}
end
theorem plN_get (eh : Nat -> E3) (kd pr : Int) : ∀ (n j q : Nat), (plN eh kd pr n)[j]? = some q -> q < n /\ hitB eh kd pr q = true /\ cnt eh kd pr q = j
 | 0, j, q, h => by simp [plN] at h
 | n + 1, j, q, h => by
  rcases zK (hitB eh kd pr n) with t | t
  ·rw [plN, if_pos t] at h
   by_cases hj : j < (plN eh kd pr n).length
   ·rw [List.getElem?_append_left hj] at h
    obtain ⟨h1, h2, h3⟩ := plN_get eh kd pr n j q h
    exact ⟨by omega, h2, h3⟩
   ·rw [List.getElem?_append_right (by omega)] at h
    have hj2 : j - (plN eh kd pr n).length = 0 := by
     by_cases e : j - (plN eh kd pr n).length = 0
     ·exact e
     ·rw [List.getElem?_eq_none (by simp; omega)] at h
      cases h
    rw [hj2] at h
    simp at h
    subst h
    refine ⟨by omega, t, ?_⟩
    unfold cnt
    omega
  ·rw [plN, if_neg (by rw [t]; decide)] at h
   obtain ⟨h1, h2, h3⟩ := plN_get eh kd pr n j q h
   exact ⟨by omega, h2, h3⟩
theorem nthV_some {eh : Nat -> E3} {kd pr : Int} {len n : Nat} (h : n < cnt eh kd pr len) : ∃ q : Nat, nthV eh kd pr len n = q /\ q < len /\ hitB eh kd pr q = true /\ cnt eh kd pr q = n := by
 have hl : n < (plI eh kd pr len).length := by rw [plI_length]; exact h
 obtain ⟨q, h1, h2, h3⟩ := plI_place eh kd pr len n hl
 obtain ⟨-, h4, h5⟩ := plN_get eh kd pr len n q h3
 refine ⟨q, ?_, h2, h4, h5⟩
 unfold nthV
 rw [if_pos (by simp [belB]; omega), Int.toNat_natCast]
 exact h1
theorem nthV_none {eh : Nat -> E3} {kd pr : Int} {len n : Nat} (h : cnt eh kd pr len <= n) : nthV eh kd pr len n = -1 := by
 unfold nthV
 rw [if_neg]
 have hl : (plI eh kd pr len).length <= n := by rw [plI_length]; exact h
 simp [belB]
 omega
structure Sy.Cut (y : Sy) (c : List Int) : Prop where
 len : c.length = y.pn
 le : ∀ p, p < y.pn -> 0 <= zi c p /\ zi c p <= (y.hL p : Int)
def cN (c : List Int) (p : Nat) : Nat := (zi c p).toNat
def sN (y : Sy) (c : Nat -> Nat) (a b : Nat) : Nat := cnt (y.hH a) 2 b (c a)
def tN (y : Sy) (c : Nat -> Nat) (a b : Nat) : Nat := cnt (y.hH b) 3 a (c b)
def Sy.Wh (y : Sy) (c : Nat -> Nat) : Prop := ∀ a, a < y.pn -> ∀ b, b < y.pn -> tN y c a b <= sN y c a b
def ovN (y : Sy) (c : Nat -> Nat) (a b : Nat) : Int := nthV (y.hH b) 3 a (c b) (sN y c a b : Nat)
theorem ovN_no {y : Sy} {c : Nat -> Nat} {a b : Nat} (h : tN y c a b <= sN y c a b) : ovN y c a b = -1 := nthV_none h
theorem ovN_yes {y : Sy} {c : Nat -> Nat} {a b : Nat} (h : ¬ tN y c a b <= sN y c a b) : ∃ k : Nat, ovN y c a b = k /\ k < c b /\ hitB (y.hH b) 3 a k = true /\ cnt (y.hH b) 3 a k = sN y c a b := nthV_some (by unfold tN at h; omega)
theorem ovN_neg {y : Sy} {c : Nat -> Nat} {a b : Nat} : ovN y c a b < 0 ↔ tN y c a b <= sN y c a b := by
 refine ⟨fun h => ?_, fun h => by rw [ovN_no h]; decide⟩
 by_cases hc : tN y c a b <= sN y c a b
 ·exact hc
 ·obtain ⟨k, e, -⟩ := ovN_yes hc
  omega
structure Sy.Cl (y : Sy) (c e : List Int) : Prop where
 len : e.length = y.pn
 le : ∀ p, p < y.pn -> 0 <= zi e p /\ zi e p <= zi c p
 gr : ∀ d : Nat -> Nat, (∀ p, p < y.pn -> (d p : Int) <= zi c p) -> y.Wh d -> ∀ p, p < y.pn -> (d p : Int) <= zi e p
theorem Sy.Cl.start {y : Sy} {c : List Int} (h : y.Cut c) : y.Cl c c := ⟨h.len, fun p hp => ⟨(h.le p hp).1, Int.le_refl _⟩, fun _ h _ => h⟩
theorem zi_set {e : List Int} {b p : Nat} {k : Int} (hb : b < e.length) : zi (e.set b k) p = if p = b then k else zi e p := by
 by_cases h : p = b
 ·subst h
  rw [if_pos rfl, getD_set_self e p k hb]
 ·rw [if_neg h, getD_set_ne e p b k h]
theorem Sy.Cl.next {y : Sy} {c e : List Int} {a b : Nat} (h : y.Cl c e) (ha : a < y.pn) (hb : b < y.pn) (ho : 0 <= ovN y (cN e) a b) : y.Cl c (e.set b (ovN y (cN e) a b)) /\ 0 <= ovN y (cN e) a b /\ ovN y (cN e) a b < zi e b := by
 have hn : ¬ tN y (cN e) a b <= sN y (cN e) a b := fun hc => by
  have := ovN_neg.2 hc
  omega
 obtain ⟨k, e1, e2, e3, e4⟩ := ovN_yes hn
 have eb := (h.le b hb)
 have hkb : (k : Int) < zi e b := by unfold cN at e2; omega
 refine ⟨⟨by rw [List.length_set]; exact h.len, fun p hp => ?_, fun d hd hw p hp => ?_⟩, ho, by omega⟩
 ·rw [zi_set (by rw [h.len]; exact hb)]
  by_cases ep : p = b
  ·subst ep
   rw [if_pos rfl]
   omega
  ·rw [if_neg ep]
   exact h.le p hp
 ·rw [zi_set (by rw [h.len]; exact hb)]
  have h0 := h.gr d hd hw p hp
  by_cases ep : p = b
  ·subst ep
   rw [if_pos rfl, e1]
   by_cases hc : (d p : Int) <= k
   ·exact hc
   ·exfalso
    have h1 : sN y d a p ≤ sN y (cN e) a p := cnt_mono _ _ _ (by
     have := h.gr d hd hw a ha
     unfold cN
     omega)
    have h2 : cnt (y.hH p) 3 a (k + 1) <= tN y d a p := cnt_mono _ _ _ (by omega)
    rw [cnt_hit e3, e4] at h2
    have := hw a ha p hb
    omega
  ·rw [if_neg ep]
   exact h0
end Go.Proofs.YthdaejgmfognbabGreatDoor
