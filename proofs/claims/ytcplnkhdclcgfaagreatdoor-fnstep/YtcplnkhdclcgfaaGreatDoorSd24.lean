/- The walks of the program's rows of events: putOne, next, allPut. -/
import Derived.Test.YtcplnkhdclcgfaaGreatDoorSd0
import Derived.Test.YtcplnkhdclcgfaaGreatDoorSd23
import Derived.Lib.QuietBelow
import Derived.BigRegion
import Derived.BigQuiet
namespace Go.Proofs.YtcplnkhdclcgfaaGreatDoor
set_option maxRecDepth 100000
set_option maxHeartbeats 2000000
open Go.ChangeShapes Go.WideShapes Go.ChangeAt Go.RowKit Go.Deep
structure OutEvent (w : World) (D hi n : Nat) (ls : Nat -> Nat) (bs : Nat -> Nat) (h : Nat -> Nat -> E3) : Prop where
 cel : ∀ i, i < n -> w.cell? ⟨D, i, none⟩ = some (.slice (some ⟨bs i, 0, none⟩) (ls i) (ls i))
 bd : ∀ i, i < n -> D < bs i /\ bs i < hi
 row : ∀ i, i < n -> EvAt w (bs i) 0 (ls i) (h i)
 fr : ∀ i, i < n -> ∀ j, w.frozen? ⟨bs i, j, none⟩ = false
 up : ∀ i j, i < j -> j < n -> bs i < bs j
 le : hi <= w.heap.size
 lt : D < hi
structure FillEvent (w : World) (D k : Nat) (f : Nat -> Value) (ls : Nat -> Nat) (bs : Nat -> Nat) (h : Nat -> Nat -> E3) : Prop where
 cel : ∀ i, i < k -> f i = .slice (some ⟨bs i, 0, none⟩) (ls i) (ls i)
 bd : ∀ i, i < k -> D < bs i /\ bs i < w.heap.size
 row : ∀ i, i < k -> EvAt w (bs i) 0 (ls i) (h i)
 fr : ∀ i, i < k -> ∀ j, w.frozen? ⟨bs i, j, none⟩ = false
 up : ∀ i j, i < j -> j < k -> bs i < bs j
structure AllEvent (W : World) (a0 : Option Addr) (n : Nat) (aa : Nat -> Option Addr) (ls cs : Nat -> Nat) (h : Nat -> Nat -> E3) : Prop where
 row : RowS W a0 n fun i => .slice (aa i) (ls i) (cs i)
 cop : ∀ i, i < n -> CopiesE W (aa i) (ls i) (cs i) (h i)
open Go.Sort
noncomputable def qB (p : Prop) : Bool := @decide p (Classical.propDecidable _)
theorem qB_true {p : Prop} (h : p) : qB p = true := by simp [qB, h]
theorem qB_false {p : Prop} (h : ¬ p) : qB p = false := by simp [qB, h]
structure HisE (w : World) (ha : Option Addr) (hA : Nat -> Option Addr) (hC : Nat -> Nat) (y : Hs) : Prop where
 row : RowS w ha y.n fun i => .slice (hA i) (y.l i) (hC i)
 ev : ∀ i, i < y.n -> EvL w (hA i) (y.l i) (y.e i)
theorem HisE.below {w w' : World} {ha : Option Addr} {hA : Nat -> Option Addr} {hC : Nat -> Nat} {y : Hs} (h : HisE w ha hA hC y) (hb : Below w.heap.size w w') : HisE w' ha hA hC y := ⟨h.row.below hb, fun i hi => (h.ev i hi).below hb⟩
structure HisP (w : World) (X : Nat) (ha : Option Addr) (hc : Nat) (y : Hs) (d : Nat -> Nat) : Prop where
 c4 : w.cell? ⟨X, 4, none⟩ = some (.slice ha y.n hc)
 pt : ∀ i, i < 4 -> w.cell? ⟨X, 5 + i, none⟩ = some (.int .i64 (d i))
 op : ∀ a b, a < 4 -> b < 4 -> w.cell? ⟨X, 9 + a * 4 + b, none⟩ = some (.int .i64 (y.opn d a b))
 fr : ∀ j, w.frozen? ⟨X, j, none⟩ = false
theorem HisP.lt {w : World} {X : Nat} {ha : Option Addr} {hc : Nat} {y : Hs} {d : Nat -> Nat} (h : HisP w X ha hc y d) : X < w.heap.size := zJ w _ h.c4
theorem HisP.blk {w w' : World} {X : Nat} {ha : Option Addr} {hc : Nat} {y : Hs} {d : Nat -> Nat} (h : HisP w X ha hc y d) (hb : w'.heap[X]? = w.heap[X]?) : HisP w' X ha hc y d :=
 ⟨(zH hb).trans h.c4, fun i hi => (zH hb).trans (h.pt i hi), fun a b h1 h2 => (zH hb).trans (h.op a b h1 h2), fun j => (zI hb).trans (h.fr j)⟩
theorem HisP.below {w w' : World} {X : Nat} {ha : Option Addr} {hc : Nat} {y : Hs} {d : Nat -> Nat} (h : HisP w X ha hc y d) (hb : Below w.heap.size w w') : HisP w' X ha hc y d := h.blk (hb.block X h.lt)
theorem cell_allocs {w : World} {a : Addr} {v : Value} (h : w.cell? a = some v) (o : Obj) : (w.alloc o).cell? a = some v := (World.cell?_alloc_lt w o a (zJ w _ h)).trans h
theorem canPut_any (X : Nat) (ha : Option Addr) (hc : Nat) (hA : Nat -> Option Addr) (hC : Nat -> Nat) (y : Hs) (d : Nat -> Nat) (k : Nat) (w : World) (hE : HisE w ha hA hC y) (hP : HisP w X ha hc y d) (h4 : y.n <= 4) (hk : k < y.n) (hp : y.Peers) (hl : ∀ i, i < y.n -> y.l i <= 200) (hd : ∀ i, d i <= y.l i) :
  Calls Tryz.prog 201 #[.pointer (some ⟨X, 4, none⟩), .int .i64 k] w fun e w' => e = .returned (.bool (qB (y.Can d k))) /\ Below w.heap.size w w' := by
 have HE : Hid (HisE w ha hA hC y) := hE
 have HP : Hid (HisP w X ha hc y d) := hP
 have HCan : Hid (y.Can d k ↔ d k < y.l k /\ ((y.e k (d k)).k = 3 -> 0 < y.opn d (y.e k (d k)).q.toNat k)) := Hs.can_iff hp hk
 have hk4 : (k : Int) < 4 := by omega
 have hk' : (k : Int) < (y.n : Int) := by omega
 have hl200 : (y.l k : Int) <= 200 := by have := hl k hk; omega
 have hdk : (d k : Int) <= (y.l k : Int) := by have := hd k; omega
 obtain ⟨bh, oh, eh, ch⟩ := hE.row.at hk
 obtain ⟨c4, pt, op, -⟩ := hP
 have pk := pt k (by omega)
 rw [eh] at c4
 clear hE
 by_cases he : d k = y.l k
 ·have HN : Hid (qB (y.Can d k) = false) := qB_false fun h => by have := h.1; omega
  rw [he] at pk
  clear op pt
  go_enter Tryz.func201, Tryz.ntmps201
  go_wp2_with fail
  go_quiet (fail)
  go_wp2
  go_ret
  rw [HN.out]
  exact ⟨rfl, yC (Below.refl _ _) _⟩
 ·have hlt : d k < y.l k := by have := hd k; omega
  have hlt' : (d k : Int) < (y.l k : Int) := by omega
  have hne : ((d k : Int) == (y.l k : Int)) = false := by
   have : ¬ (d k : Int) = (y.l k : Int) := by omega
   simpa using this
  obtain ⟨b, off, ea, zb, e0, e1, e2⟩ := (HE.out.ev k hk).at hlt
  rw [ea] at ch
  have n1 : w.heap.size ≠ X := by have := HP.out.lt; omega
  have n2 : w.heap.size ≠ b := by omega
  have n3 : w.heap.size ≠ bh := by have := zJ w _ ch; simp at this; omega
  clear zb
  have hq := hp k hk (d k) hlt
  obtain ⟨q, hqe⟩ : ∃ q : Nat, (y.e k (d k)).q = (q : Int) := ⟨(y.e k (d k)).q.toNat, by omega⟩
  have hq4 : (q : Int) < 4 := by omega
  have oq := op q k (by omega) (by omega)
  rw [hqe] at e1
  rcases zK ((y.e k (d k)).k != 3) with t | t
  ·have HN : Hid (qB (y.Can d k) = true) := qB_true (HCan.out.2 ⟨hlt, fun h => by rw [h] at t; cases t⟩)
   clear op pt hq hqe oq HCan
   generalize (y.e k (d k)).k = kd at *
   generalize (y.e k (d k)).v = vd at *
   go_enter Tryz.func201, Tryz.ntmps201
   go_wp2_with fail
   go_quiet (fail)
   go_wp2_with fail
   have BD : Hid (Below w.heap.size w (w.drewN nq)) := yC (Below.refl _ _) _
   replace n1 : (w.drewN nq).heap.size ≠ X := n1
   replace n2 : (w.drewN nq).heap.size ≠ b := n2
   replace n3 : (w.drewN nq).heap.size ≠ bh := n3
   replace c4 : (w.drewN nq).cell? ⟨X, 4, none⟩ = _ := c4
   replace pk : (w.drewN nq).cell? ⟨X, 5 + k, none⟩ = _ := pk
   replace ch : (w.drewN nq).cell? ⟨bh, oh + k, none⟩ = _ := ch
   replace e0 : (w.drewN nq).cell? ⟨b, off + d k * 3, none⟩ = _ := e0
   replace e1 : (w.drewN nq).cell? ⟨b, off + d k * 3 + 1, none⟩ = _ := e1
   replace e2 : (w.drewN nq).cell? ⟨b, off + d k * 3 + 2, none⟩ = _ := e2
   generalize w.drewN nq = wd at *
   have c4' := cell_allocs c4
   have pk' := cell_allocs pk
   have ch' := cell_allocs ch
   have e0' := cell_allocs e0
   have e1' := cell_allocs e1
   have e2' := cell_allocs e2
   go_region
   all_goals
    go_wp2_with fail
    go_quiet (fail)
    go_wp2
    go_ret
    rw [HN.out]
    exact ⟨rfl, yC (BD.out.trans ((zT _ _).mono BD.out.size)).drew _⟩
  ·have hk3 : (y.e k (d k)).k = 3 := by simpa using t
   have HN : Hid (qB (y.Can d k) = decide (0 < y.opn d q k)) := by
    show qB (y.Can d k) = decide (0 < y.opn d q k)
    have e : (y.e k (d k)).q.toNat = q := by omega
    by_cases h0 : 0 < y.opn d q k
    ·rw [decide_eq_true h0]
     exact qB_true (HCan.out.2 ⟨hlt, fun _ => by rw [e]; exact h0⟩)
    ·rw [decide_eq_false h0]
     refine qB_false fun h => h0 ?_
     have := (HCan.out.1 h).2 hk3
     rwa [e] at this
   rw [hk3] at e0
   clear op pt hq hqe HCan t hk3
   generalize (y.e k (d k)).v = vd at *
   generalize y.opn d q k = on at *
   go_enter Tryz.func201, Tryz.ntmps201
   go_wp2_with fail
   go_quiet (fail)
   go_wp2_with fail
   have BD : Hid (Below w.heap.size w (w.drewN nq)) := yC (Below.refl _ _) _
   replace n1 : (w.drewN nq).heap.size ≠ X := n1
   replace n2 : (w.drewN nq).heap.size ≠ b := n2
   replace n3 : (w.drewN nq).heap.size ≠ bh := n3
   replace c4 : (w.drewN nq).cell? ⟨X, 4, none⟩ = _ := c4
   replace pk : (w.drewN nq).cell? ⟨X, 5 + k, none⟩ = _ := pk
   replace ch : (w.drewN nq).cell? ⟨bh, oh + k, none⟩ = _ := ch
   replace e0 : (w.drewN nq).cell? ⟨b, off + d k * 3, none⟩ = _ := e0
   replace e1 : (w.drewN nq).cell? ⟨b, off + d k * 3 + 1, none⟩ = _ := e1
   replace e2 : (w.drewN nq).cell? ⟨b, off + d k * 3 + 2, none⟩ = _ := e2
   replace oq : (w.drewN nq).cell? ⟨X, 9 + q * 4 + k, none⟩ = _ := oq
   generalize w.drewN nq = wd at *
   have c4' := cell_allocs c4
   have pk' := cell_allocs pk
   have ch' := cell_allocs ch
   have e0' := cell_allocs e0
   have e1' := cell_allocs e1
   have e2' := cell_allocs e2
   have oq' := cell_allocs oq
   go_region
   all_goals
    go_wp2_with fail
    go_quiet (fail)
    go_wp2
    go_ret
    rw [HN.out]
    exact ⟨rfl, yC (BD.out.trans ((zT _ _).mono BD.out.size)).drew _⟩
theorem HisP.put {w w' : World} {X : Nat} {ha : Option Addr} {hc : Nat} {y : Hs} {d : Nat -> Nat} {k : Nat} (h : HisP w X ha hc y d) (c4 : w'.cell? ⟨X, 4, none⟩ = w.cell? ⟨X, 4, none⟩) (pt : ∀ i, i < 4 -> w'.cell? ⟨X, 5 + i, none⟩ = if i = k then some (.int .i64 (d k + 1 : Nat)) else w.cell? ⟨X, 5 + i, none⟩)
  (op : ∀ a b, a < 4 -> b < 4 -> w'.cell? ⟨X, 9 + a * 4 + b, none⟩ = some (.int .i64 (y.opn (up d k) a b))) (fr : ∀ j, w'.frozen? ⟨X, j, none⟩ = false) : HisP w' X ha hc y (up d k) := by
 refine ⟨c4.trans h.c4, fun i hi => ?_, op, fr⟩
 rw [pt i hi]
 by_cases e : i = k
 ·subst e
  rw [if_pos rfl, up_same]
 ·rw [if_neg e, up_other e]
  exact h.pt i hi
theorem Hs.opn_le {y : Hs} {d : Nat -> Nat} (hd : ∀ i, d i <= y.l i) (hl : ∀ i, i < y.n -> y.l i <= 200) {a b : Nat} (ha : a < y.n) (hb : b < y.n) : -200 <= y.opn d a b /\ y.opn d a b <= 200 := by
 have h1 := cnt_le (y.e a) 2 b (d a)
 have h2 := cnt_le (y.e b) 3 a (d b)
 have h3 := hd a
 have h4 := hd b
 have h5 := hl a ha
 have h6 := hl b hb
 unfold Hs.opn
 omega
theorem cell_set2 {w : World} {X i j m : Nat} {u v : Value} {o : Obj} (h1 : m ≠ i) (h2 : m ≠ j) (hX : X < w.heap.size) : (((w.setCell ⟨X, i, none⟩ u).setCell ⟨X, j, none⟩ v).alloc o).cell? ⟨X, m, none⟩ = w.cell? ⟨X, m, none⟩ := by
 rw [World.cell?_alloc_lt _ _ _ (by simpa [World.setCell] using hX), World.cell?_setCell_other _ _ _ _ (by intro e; injection e with _ e; exact h2 e.symm), World.cell?_setCell_other _ _ _ _ (by intro e; injection e with _ e; exact h1 e.symm)]
theorem cell_set2a {w : World} {X i j : Nat} {u v : Value} {o : Obj} (h1 : i ≠ j) (hc : (w.cell? ⟨X, i, none⟩).isSome = true) (hX : X < w.heap.size) : (((w.setCell ⟨X, i, none⟩ u).setCell ⟨X, j, none⟩ v).alloc o).cell? ⟨X, i, none⟩ = some u := by
 rw [World.cell?_alloc_lt _ _ _ (by simpa [World.setCell] using hX), World.cell?_setCell_other _ _ _ _ (by intro e; injection e with _ e; exact h1 e.symm), World.cell?_setCell_same' _ _ _ hc]
theorem cell_set2b {w : World} {X i j : Nat} {u v : Value} {o : Obj} (h1 : i ≠ j) (hc : (w.cell? ⟨X, j, none⟩).isSome = true) (hX : X < w.heap.size) : (((w.setCell ⟨X, i, none⟩ u).setCell ⟨X, j, none⟩ v).alloc o).cell? ⟨X, j, none⟩ = some v := by
 rw [World.cell?_alloc_lt _ _ _ (by simpa [World.setCell] using hX), World.cell?_setCell_same']
 rw [World.cell?_setCell_other _ _ _ _ (by intro e; injection e with _ e; exact h1 e)]
 exact hc
theorem frozen_alloc_lt {w : World} {o : Obj} {X j : Nat} (hX : X < w.heap.size) : (w.alloc o).frozen? ⟨X, j, none⟩ = w.frozen? ⟨X, j, none⟩ := (zT w o).frozen (p := ⟨X, j, none⟩) hX
theorem HisP.put2 {w : World} {X : Nat} {ha : Option Addr} {hc : Nat} {y : Hs} {d : Nat -> Nat} {k i0 j0 : Nat} {on : Int} {o : Obj} (h : HisP w X ha hc y d) (hk : k < 4) (hi : i0 < 4) (hj : j0 < 4) (HO : ∀ a b, y.opn (up d k) a b = if a = i0 /\ b = j0 then on else y.opn d a b) :
  HisP (((w.setCell ⟨X, 9 + i0 * 4 + j0, none⟩ (.int .i64 on)).setCell ⟨X, 5 + k, none⟩ (.int .i64 ((d k : Int) + 1))).alloc o) X ha hc y (up d k) /\ Touch (fun b => b = X) w (((w.setCell ⟨X, 9 + i0 * 4 + j0, none⟩ (.int .i64 on)).setCell ⟨X, 5 + k, none⟩ (.int .i64 ((d k : Int) + 1))).alloc o) := by
 have hX := h.lt
 refine ⟨h.put (k := k) (cell_set2 (by omega) (by omega) hX) (fun i hi' => ?_) (fun a b ha' hb' => ?_) (fun j => ?_), ?_⟩
 ·by_cases e : i = k
  ·subst e
   rw [if_pos rfl, cell_set2b (by omega) (by rw [h.pt i hi']; rfl) hX]
   rfl
  ·rw [if_neg e]
   exact cell_set2 (by omega) (by omega) hX
 ·rw [HO]
  by_cases e : a = i0 /\ b = j0
  ·obtain ⟨rfl, rfl⟩ := e
   rw [if_pos ⟨rfl, rfl⟩]
   exact cell_set2a (by omega) (by rw [h.op a b ha' hb']; rfl) hX
  ·rw [if_neg e, <- h.op a b ha' hb']
   exact cell_set2 (by omega) (by omega) hX
 ·rw [frozen_alloc_lt (by simpa [World.setCell] using hX), World.frozen?_setCell, World.frozen?_setCell]
  exact h.fr j
 ·exact ((Touch.of_set (P := fun b => b = X) w (a := ⟨X, _, none⟩) rfl _).trans (Touch.of_set (P := fun b => b = X) _ (a := ⟨X, _, none⟩) rfl _)).trans (Touch.of_below (zT _ _))
theorem HisP.put1 {w : World} {X : Nat} {ha : Option Addr} {hc : Nat} {y : Hs} {d : Nat -> Nat} {k : Nat} {o : Obj} (h : HisP w X ha hc y d) (hk : k < 4) (HO : ∀ a b, y.opn (up d k) a b = y.opn d a b) :
  HisP ((w.setCell ⟨X, 5 + k, none⟩ (.int .i64 ((d k : Int) + 1))).alloc o) X ha hc y (up d k) /\ Touch (fun b => b = X) w ((w.setCell ⟨X, 5 + k, none⟩ (.int .i64 ((d k : Int) + 1))).alloc o) := by
 have hX := h.lt
 have ho : ∀ m, m ≠ 5 + k -> ((w.setCell ⟨X, 5 + k, none⟩ (.int .i64 ((d k : Int) + 1))).alloc o).cell? ⟨X, m, none⟩ = w.cell? ⟨X, m, none⟩ := fun m hm => by
  rw [World.cell?_alloc_lt _ _ _ (by simpa [World.setCell] using hX), World.cell?_setCell_other _ _ _ _ (by intro e; injection e with _ e; exact hm e.symm)]
 refine ⟨h.put (k := k) (ho 4 (by omega)) (fun i hi' => ?_) (fun a b ha' hb' => ?_) (fun j => ?_), ?_⟩
 ·by_cases e : i = k
  ·subst e
   rw [if_pos rfl, World.cell?_alloc_lt _ _ _ (by simpa [World.setCell] using hX), World.cell?_setCell_same' _ _ _ (by rw [h.pt i hi']; rfl)]
   rfl
  ·rw [if_neg e]
   exact ho _ (by omega)
 ·rw [HO, <- h.op a b ha' hb']
  exact ho _ (by omega)
 ·rw [frozen_alloc_lt (by simpa [World.setCell] using hX), World.frozen?_setCell]
  exact h.fr j
 ·exact (Touch.of_set (P := fun b => b = X) w (a := ⟨X, _, none⟩) rfl _).trans (Touch.of_below (zT _ _))
theorem HisP.dr {w : World} {X : Nat} {ha : Option Addr} {hc : Nat} {y : Hs} {d : Nat -> Nat} (h : HisP w X ha hc y d) : HisP w.drew X ha hc y d := ⟨h.c4, h.pt, h.op, h.fr⟩
theorem Touch.dr {P : Nat -> Prop} {w w' : World} (h : Touch P w w') : Touch P w w'.drew := ⟨h.os, h.tape, h.output, h.size, h.block⟩
theorem putOne_any (X : Nat) (ha : Option Addr) (hc : Nat) (hA : Nat -> Option Addr) (hC : Nat -> Nat) (y : Hs) (d : Nat -> Nat) (k : Nat) (w : World) (hE : HisE w ha hA hC y) (hP : HisP w X ha hc y d) (h4 : y.n <= 4) (hk : k < y.n) (hp : y.Peers) (hl : ∀ i, i < y.n -> y.l i <= 200) (hd : ∀ i, d i <= y.l i) (hlt : d k < y.l k) :
  Calls Tryz.prog 132 #[.pointer (some ⟨X, 4, none⟩), .int .i64 k] w fun e w' => e = .returned (.tuple #[]) /\ HisP w' X ha hc y (up d k) /\ Touch (fun b => b = X) w w' := by
 have HP : Hid (HisP w X ha hc y d) := hP
 have hk4 : (k : Int) < 4 := by omega
 have hk' : (k : Int) < (y.n : Int) := by omega
 have hl200 : (y.l k : Int) <= 200 := by have := hl k hk; omega
 have hlt' : (d k : Int) < (y.l k : Int) := by omega
 obtain ⟨bh, oh, eh, ch⟩ := hE.row.at hk
 obtain ⟨c4, pt, op, fr⟩ := hP
 have pk := pt k (by omega)
 rw [eh] at c4
 obtain ⟨b, off, ea, zb, e0, e1, e2⟩ := (hE.ev k hk).at hlt
 rw [ea] at ch
 have n1 : w.heap.size ≠ X := by have := HP.out.lt; omega
 have n2 : w.heap.size ≠ b := by omega
 have n3 : w.heap.size ≠ bh := by have := zJ w _ ch; simp at this; omega
 have zX : X < w.heap.size := HP.out.lt
 have hq := hp k hk (d k) hlt
 obtain ⟨q, hqe⟩ : ∃ q : Nat, (y.e k (d k)).q = (q : Int) := ⟨(y.e k (d k)).q.toNat, by omega⟩
 have hq4 : (q : Int) < 4 := by omega
 have hqn : q < y.n := by omega
 rw [hqe] at e1
 have c4' := cell_allocs c4
 have pk' := cell_allocs pk
 have ch' := cell_allocs ch
 have e0' := cell_allocs e0
 have e1' := cell_allocs e1
 have e2' := cell_allocs e2
 have fr' : ∀ j, w.frozen? ⟨X, j, none⟩ = false := fr
 rcases zK ((y.e k (d k)).k == 2) with t | t
 ·have hk2 : (y.e k (d k)).k = 2 := by simpa using t
  have oq := op k q (by omega) (by omega)
  obtain ⟨o1, o2⟩ := Hs.opn_le hd hl hk hqn
  have oq' := cell_allocs oq
  rw [hk2] at e0 e0'
  have HO : Hid (∀ a b, y.opn (up d k) a b = if a = k /\ b = q then y.opn d k q + 1 else y.opn d a b) := fun a b => by
   rw [Hs.opn_up, hk2, hqe]
   by_cases e : a = k /\ b = q
   ·obtain ⟨rfl, rfl⟩ := e
    simp
   ·rw [if_neg e, if_neg (fun h => e ⟨h.1, by omega⟩), if_neg (fun h => absurd h.2.1 (by decide))]
    omega
  clear op pt t hk2 hq hqe hp hE eh ea
  generalize (y.e k (d k)).v = vd at *
  generalize y.opn d k q = on at *
  go_enter Tryz.func132, Tryz.ntmps132
  go_wp2_with fail
  go_region
  all_goals
   go_wp2_with fail
   go_region
   all_goals
    go_wp2_with fail
    go_region
    all_goals
     go_wp2_with fail
     go_end0
     have hz := HP.out.put2 (o := oQ1 2 q vd) (show k < 4 by omega) (show k < 4 by omega) (show q < 4 by omega) HO.out
     exact ⟨rfl, hz.1.dr.dr.dr, hz.2.dr.dr.dr⟩
 rcases zK ((y.e k (d k)).k == 3) with t3 | t3
 ·have hk3 : (y.e k (d k)).k = 3 := by simpa using t3
  have oq := op q k (by omega) (by omega)
  obtain ⟨o1, o2⟩ := Hs.opn_le hd hl hqn hk
  have oq' := cell_allocs oq
  rw [hk3] at e0 e0'
  have HO : Hid (∀ a b, y.opn (up d k) a b = if a = q /\ b = k then y.opn d q k - 1 else y.opn d a b) := fun a b => by
   rw [Hs.opn_up, hk3, hqe]
   by_cases e : a = q /\ b = k
   ·obtain ⟨rfl, rfl⟩ := e
    simp
   ·rw [if_neg e, if_neg (fun h => absurd h.2.1 (by decide)), if_neg (fun h => e ⟨by omega, h.1⟩)]
    omega
  clear op pt t t3 hk3 hq hqe hp hE eh ea
  generalize (y.e k (d k)).v = vd at *
  generalize y.opn d q k = on at *
  go_enter Tryz.func132, Tryz.ntmps132
  go_wp2_with fail
  go_region
  all_goals
   go_wp2_with fail
   go_region
   all_goals
    go_wp2_with fail
    go_region
    all_goals
     go_wp2_with fail
     go_end0
     have hz := HP.out.put2 (o := oQ1 3 q vd) (show k < 4 by omega) (show q < 4 by omega) (show k < 4 by omega) HO.out
     exact ⟨rfl, hz.1.dr.dr.dr, hz.2.dr.dr.dr⟩
 ·have HO : Hid (∀ a b, y.opn (up d k) a b = y.opn d a b) := fun a b => by
   have t2 : (y.e k (d k)).k ≠ 2 := by simpa using t
   have t3' : (y.e k (d k)).k ≠ 3 := by simpa using t3
   rw [Hs.opn_up, if_neg (fun h => t2 h.2.1), if_neg (fun h => t3' h.2.1)]
   omega
  clear op pt hq hqe hp hE eh ea
  generalize (y.e k (d k)).v = vd at *
  generalize (y.e k (d k)).k = kd at *
  go_enter Tryz.func132, Tryz.ntmps132
  go_wp2_with fail
  go_region
  all_goals
   go_wp2_with fail
   go_region
   all_goals
    go_wp2_with fail
    go_end0
    have hz := HP.out.put1 (o := oQ1 kd q vd) (show k < 4 by omega) HO.out
    exact ⟨rfl, hz.1.dr.dr, hz.2.dr.dr⟩
def NxtR (w : World) (y : Hs) (d : Nat -> Nat) (e : Ending) (w' : World) : Prop :=
 Below w.heap.size w w' /\ ((∃ k, k < y.n /\ y.Can d k /\ e = .returned (.int .i64 (k : Nat))) \/ (e = .returned (.int .i64 (-1)) /\ ∀ p, p < y.n -> ¬ y.Can d p))
theorem next_any (X : Nat) (ha : Option Addr) (hc : Nat) (hA : Nat -> Option Addr) (hC : Nat -> Nat) (y : Hs) (d : Nat -> Nat) (w : World) (hE : HisE w ha hA hC y) (hP : HisP w X ha hc y d) (h4 : y.n <= 4) (hp : y.Peers) (hl : ∀ i, i < y.n -> y.l i <= 200) (hd : ∀ i, d i <= y.l i) :
  Calls Tryz.prog 131 #[.pointer (some ⟨X, 4, none⟩)] w (NxtR w y d) := by
 have HE : Hid (HisE w ha hA hC y) := hE
 have HP : Hid (HisP w X ha hc y d) := hP
 have HH : Hid (y.Peers /\ (∀ i, i < y.n -> y.l i <= 200) /\ ∀ i, d i <= y.l i) := ⟨hp, hl, hd⟩
 have hn : (y.n : Int) <= 4 := by omega
 obtain ⟨c4, -, -, -⟩ := hP
 clear hE hp hl hd
 go_enter Tryz.func131, Tryz.ntmps131
 go_wp2_with fail
 clear c4
 go_loopw [9] (fun i wr => ∃ k : Nat, k <= y.n /\ i = .int .i64 k /\ Below w.heap.size w wr /\ Hid (∀ j, j < k -> ¬ y.Can d j)) (fun i _ => y.n - (intOf i).toNat)
 case atStart => exact ⟨0, Nat.zero_le _, rfl, Below.refl _ _, fun j hj => by omega⟩
 case round =>
  obtain ⟨k, hk, rfl, hbw, HZ⟩ := hrel
  by_cases hlt : k < y.n
  ·have hlt' : (k : Int) < (y.n : Int) := by omega
   go_wp2_with fail
   refine (canPut_any X ha hc hA hC y d k wr (HE.out.below hbw) (HP.out.below hbw) h4 hlt HH.out.1 HH.out.2.1 HH.out.2.2).mono ?_
   rintro e w1 ⟨rfl, b1⟩
   have B1 : Hid (Below w.heap.size w w1) := hbw.trans (b1.mono hbw.size)
   clear b1 hbw
   by_cases hc' : y.Can d k
   ·have HF : Hid (NxtR w y d (.returned (.int .i64 k)) w1) := ⟨B1.out, .inl ⟨k, hlt, hc', rfl⟩⟩
    rw [qB_true hc']
    clear hc' B1
    go_wp2
    go_ret
    exact HF.out
   ·have HZ' : Hid (∀ j, j < k + 1 -> ¬ y.Can d j) := fun j hj => by
     by_cases e : j = k
     ·subst e
      exact hc'
     ·exact HZ.out j (by omega)
    rw [qB_false hc']
    clear hc' HZ
    go_wp2
    go_roundw
    case rel => exact ⟨k + 1, by omega, by go_num, B1.out, HZ'.out⟩
    case measure => simp [intOf]; omega
  ·have HF : Hid (NxtR w y d (.returned (.int .i64 (-1))) wr) := ⟨hbw, .inr ⟨rfl, fun p hp => HZ.out p (by omega)⟩⟩
   clear HZ hbw
   go_wp2
   go_ret
   exact HF.out
theorem allPut_any (X : Nat) (ha : Option Addr) (hc : Nat) (hA : Nat -> Option Addr) (hC : Nat -> Nat) (y : Hs) (d : Nat -> Nat) (w : World) (hE : HisE w ha hA hC y) (hP : HisP w X ha hc y d) (h4 : y.n <= 4) (hl : ∀ i, i < y.n -> y.l i <= 200) (hd : ∀ i, d i <= y.l i) :
  Calls Tryz.prog 133 #[.pointer (some ⟨X, 4, none⟩)] w fun e w' => e = .returned (.bool (qB (y.All d))) /\ Below w.heap.size w w' := by
 have HE : Hid (HisE w ha hA hC y) := hE
 have HP : Hid (HisP w X ha hc y d) := hP
 have HH : Hid ((∀ i, i < y.n -> y.l i <= 200) /\ ∀ i, d i <= y.l i) := ⟨hl, hd⟩
 have hn : (y.n : Int) <= 4 := by omega
 obtain ⟨c4, -, -, -⟩ := hP
 clear hE hl hd
 go_enter Tryz.func133, Tryz.ntmps133
 go_wp2_with fail
 clear c4
 go_loopw [10] (fun i wr => ∃ k : Nat, k <= y.n /\ i = .int .i64 k /\ Below w.heap.size w wr /\ Hid (∀ j, j < k -> d j = y.l j)) (fun i _ => y.n - (intOf i).toNat)
 case atStart => exact ⟨0, Nat.zero_le _, rfl, Below.refl _ _, fun j hj => by omega⟩
 case round =>
  obtain ⟨k, hk, rfl, hbw, HZ⟩ := hrel
  by_cases hlt : k < y.n
  ·have hlt' : (k : Int) < (y.n : Int) := by omega
   have hk4 : (k : Int) < 4 := by omega
   obtain ⟨bh, oh, eh, ch⟩ := (HE.out.below hbw).row.at hlt
   have pk := (HP.out.below hbw).pt k (by omega)
   have hd' : (d k : Int) <= (y.l k : Int) := by have := HH.out.2 k; omega
   rw [eh]
   by_cases hs : d k < y.l k
   ·have hs' : (d k : Int) < (y.l k : Int) := by omega
    have HN : Hid (qB (y.All d) = false) := qB_false fun h => by have := h k hlt; omega
    clear HZ
    go_wp2
    go_ret
    rw [HN.out]
    exact ⟨rfl, hbw⟩
   ·have hs' : ¬ (d k : Int) < (y.l k : Int) := by omega
    have HZ' : Hid (∀ j, j < k + 1 -> d j = y.l j) := fun j hj => by
     by_cases e : j = k
     ·subst e
      omega
     ·exact HZ.out j (by omega)
    clear HZ
    go_wp2
    go_roundw
    case rel => exact ⟨k + 1, by omega, by go_num, hbw, HZ'.out⟩
    case measure => simp [intOf]; omega
  ·have HN : Hid (qB (y.All d) = true) := qB_true fun p hp => HZ.out p (by omega)
   clear HZ
   go_wp2
   go_ret
   rw [HN.out]
   exact ⟨rfl, hbw⟩
end Go.Proofs.YtcplnkhdclcgfaaGreatDoor
