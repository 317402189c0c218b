/- Marks on lists of one's own, and that they are held. -/
import Derived.Test.YtcplnkhdclcgfaaGreatDoorGc0
import Derived.Test.YtcplnkhdclcgfaaGreatDoorGc28
import Derived.Test.YtcplnkhdclcgfaaGreatDoorGc32
import Derived.Test.YtcplnkhdclcgfaaGreatDoorGc27
namespace Go.Proofs.YtcplnkhdclcgfaaGreatDoor
set_option maxRecDepth 100000
set_option maxHeartbeats 2000000
open Go.ChangeShapes Go.WideShapes Go.ChangeAt Go.RowKit Go.Deep Go.Sort
theorem Hs.opn_le {y : Hs} {d : Nat → Nat} (hd : ∀ i, d i ≤ y.l i) (hl : ∀ i, i < y.n → y.l i ≤ 200) {a b : Nat} (ha : a < y.n) (hb : b < y.n) : -200 ≤ y.opn d a b ∧ y.opn d a b ≤ 200 := by
 have h1 := cnt_le (y.e a) 2 b (d a)
 have h2 := cnt_le (y.e b) 3 a (d b)
 have h3 := hd a
 have h4 := hd b
 have h5 := hl a ha
 have h6 := hl b hb
 unfold Hs.opn
 omega
theorem cell_set2 {w : World} {X i j m : Nat} {u v : Value} {o : Obj} (h1 : m ≠ i) (h2 : m ≠ j) (hX : X < w.heap.size) : (((w.setCell ⟨X, i, none⟩ u).setCell ⟨X, j, none⟩ v).alloc o).cell? ⟨X, m, none⟩ = w.cell? ⟨X, m, none⟩ := by
 rw [World.cell?_alloc_lt _ _ _ (by simpa [World.setCell] using hX), World.cell?_setCell_other _ _ _ _ (by intro e; injection e with _ e; exact h2 e.symm), World.cell?_setCell_other _ _ _ _ (by intro e; injection e with _ e; exact h1 e.symm)]
theorem cell_set2a {w : World} {X i j : Nat} {u v : Value} {o : Obj} (h1 : i ≠ j) (hc : (w.cell? ⟨X, i, none⟩).isSome = true) (hX : X < w.heap.size) : (((w.setCell ⟨X, i, none⟩ u).setCell ⟨X, j, none⟩ v).alloc o).cell? ⟨X, i, none⟩ = some u := by
 rw [World.cell?_alloc_lt _ _ _ (by simpa [World.setCell] using hX), World.cell?_setCell_other _ _ _ _ (by intro e; injection e with _ e; exact h1 e.symm), World.cell?_setCell_same' _ _ _ hc]
theorem cell_set2b {w : World} {X i j : Nat} {u v : Value} {o : Obj} (h1 : i ≠ j) (hc : (w.cell? ⟨X, j, none⟩).isSome = true) (hX : X < w.heap.size) : (((w.setCell ⟨X, i, none⟩ u).setCell ⟨X, j, none⟩ v).alloc o).cell? ⟨X, j, none⟩ = some v := by
 rw [World.cell?_alloc_lt _ _ _ (by simpa [World.setCell] using hX), World.cell?_setCell_same']
 rw [World.cell?_setCell_other _ _ _ _ (by intro e; injection e with _ e; exact h1 e)]
 exact hc
theorem frozen_alloc_lt {w : World} {o : Obj} {X j : Nat} (hX : X < w.heap.size) : (w.alloc o).frozen? ⟨X, j, none⟩ = w.frozen? ⟨X, j, none⟩ := (below_alloc w o).frozen (p := ⟨X, j, none⟩) hX
theorem HisP.put2 {w : World} {X : Nat} {ha : Option Addr} {hc : Nat} {y : Hs} {d : Nat → Nat} {k i0 j0 : Nat} {on : Int} {o : Obj} (h : HisP w X ha hc y d) (hk : k < 4) (hi : i0 < 4) (hj : j0 < 4) (HO : ∀ a b, y.opn (up d k) a b = if a = i0 ∧ b = j0 then on else y.opn d a b) :
  HisP (((w.setCell ⟨X, 9 + i0 * 4 + j0, none⟩ (.int .i64 on)).setCell ⟨X, 5 + k, none⟩ (.int .i64 ((d k : Int) + 1))).alloc o) X ha hc y (up d k) ∧ Touch (fun b => b = X) w (((w.setCell ⟨X, 9 + i0 * 4 + j0, none⟩ (.int .i64 on)).setCell ⟨X, 5 + k, none⟩ (.int .i64 ((d k : Int) + 1))).alloc o) := by
 have hX := h.lt
 refine ⟨h.put (k := k) (cell_set2 (by omega) (by omega) hX) (fun i hi' => ?_) (fun a b ha' hb' => ?_) (fun j => ?_), ?_⟩
 ·by_cases e : i = k
  ·subst e
   rw [if_pos rfl, cell_set2b (by omega) (by rw [h.pt i hi']; rfl) hX]
   rfl
  ·rw [if_neg e]
   exact cell_set2 (by omega) (by omega) hX
 ·rw [HO]
  by_cases e : a = i0 ∧ b = j0
  ·obtain ⟨rfl, rfl⟩ := e
   rw [if_pos ⟨rfl, rfl⟩]
   exact cell_set2a (by omega) (by rw [h.op a b ha' hb']; rfl) hX
  ·rw [if_neg e, ← h.op a b ha' hb']
   exact cell_set2 (by omega) (by omega) hX
 ·rw [frozen_alloc_lt (by simpa [World.setCell] using hX), World.frozen?_setCell, World.frozen?_setCell]
  exact h.fr j
 ·exact ((Touch.of_set (P := fun b => b = X) w (a := ⟨X, _, none⟩) rfl _).trans (Touch.of_set (P := fun b => b = X) _ (a := ⟨X, _, none⟩) rfl _)).trans (Touch.of_below (below_alloc _ _))
theorem HisP.put1 {w : World} {X : Nat} {ha : Option Addr} {hc : Nat} {y : Hs} {d : Nat → Nat} {k : Nat} {o : Obj} (h : HisP w X ha hc y d) (hk : k < 4) (HO : ∀ a b, y.opn (up d k) a b = y.opn d a b) :
  HisP ((w.setCell ⟨X, 5 + k, none⟩ (.int .i64 ((d k : Int) + 1))).alloc o) X ha hc y (up d k) ∧ Touch (fun b => b = X) w ((w.setCell ⟨X, 5 + k, none⟩ (.int .i64 ((d k : Int) + 1))).alloc o) := by
 have hX := h.lt
 have ho : ∀ m, m ≠ 5 + k → ((w.setCell ⟨X, 5 + k, none⟩ (.int .i64 ((d k : Int) + 1))).alloc o).cell? ⟨X, m, none⟩ = w.cell? ⟨X, m, none⟩ := fun m hm => by
  rw [World.cell?_alloc_lt _ _ _ (by simpa [World.setCell] using hX), World.cell?_setCell_other _ _ _ _ (by intro e; injection e with _ e; exact hm e.symm)]
 refine ⟨h.put (k := k) (ho 4 (by omega)) (fun i hi' => ?_) (fun a b ha' hb' => ?_) (fun j => ?_), ?_⟩
 ·by_cases e : i = k
  ·subst e
   rw [if_pos rfl, World.cell?_alloc_lt _ _ _ (by simpa [World.setCell] using hX), World.cell?_setCell_same' _ _ _ (by rw [h.pt i hi']; rfl)]
   rfl
  ·rw [if_neg e]
   exact ho _ (by omega)
 ·rw [HO, ← h.op a b ha' hb']
  exact ho _ (by omega)
 ·rw [frozen_alloc_lt (by simpa [World.setCell] using hX), World.frozen?_setCell]
  exact h.fr j
 ·exact (Touch.of_set (P := fun b => b = X) w (a := ⟨X, _, none⟩) rfl _).trans (Touch.of_below (below_alloc _ _))
theorem HisP.dr {w : World} {X : Nat} {ha : Option Addr} {hc : Nat} {y : Hs} {d : Nat → Nat} (h : HisP w X ha hc y d) : HisP w.drew X ha hc y d := ⟨h.c4, h.pt, h.op, h.fr⟩
theorem Touch.dr {P : Nat → Prop} {w w' : World} (h : Touch P w w') : Touch P w w'.drew := ⟨h.os, h.tape, h.output, h.size, h.block⟩
theorem putOne_any (X : Nat) (ha : Option Addr) (hc : Nat) (hA : Nat → Option Addr) (hC : Nat → Nat) (y : Hs) (d : Nat → Nat) (k : Nat) (w : World) (hE : HisE w ha hA hC y) (hP : HisP w X ha hc y d) (h4 : y.n ≤ 4) (hk : k < y.n) (hp : y.Peers) (hl : ∀ i, i < y.n → y.l i ≤ 200) (hd : ∀ i, d i ≤ y.l i) (hlt : d k < y.l k) :
  Calls Tryz.prog 132 #[.pointer (some ⟨X, 4, none⟩), .int .i64 k] w fun e w' => e = .returned (.tuple #[]) ∧ HisP w' X ha hc y (up d k) ∧ Touch (fun b => b = X) w w' := by
 have HP : Hid (HisP w X ha hc y d) := hP
 have hk4 : (k : Int) < 4 := by omega
 have hk' : (k : Int) < (y.n : Int) := by omega
 have hl200 : (y.l k : Int) ≤ 200 := by have := hl k hk; omega
 have hlt' : (d k : Int) < (y.l k : Int) := by omega
 obtain ⟨bh, oh, eh, ch⟩ := hE.row.at hk
 obtain ⟨c4, pt, op, fr⟩ := hP
 have pk := pt k (by omega)
 rw [eh] at c4
 obtain ⟨b, off, ea, zb, e0, e1, e2⟩ := (hE.ev k hk).at hlt
 rw [ea] at ch
 have n1 : w.heap.size ≠ X := by have := HP.out.lt; omega
 have n2 : w.heap.size ≠ b := by omega
 have n3 : w.heap.size ≠ bh := by have := World.block_lt_of_cell? w _ ch; simp at this; omega
 have zX : X < w.heap.size := HP.out.lt
 have hq := hp k hk (d k) hlt
 obtain ⟨q, hqe⟩ : ∃ q : Nat, (y.e k (d k)).q = (q : Int) := ⟨(y.e k (d k)).q.toNat, by omega⟩
 have hq4 : (q : Int) < 4 := by omega
 have hqn : q < y.n := by omega
 rw [hqe] at e1
 have c4' := cell_allocs c4
 have pk' := cell_allocs pk
 have ch' := cell_allocs ch
 have e0' := cell_allocs e0
 have e1' := cell_allocs e1
 have e2' := cell_allocs e2
 have fr' : ∀ j, w.frozen? ⟨X, j, none⟩ = false := fr
 rcases Bool.eq_false_or_eq_true ((y.e k (d k)).k == 2) with t | t
 ·have hk2 : (y.e k (d k)).k = 2 := by simpa using t
  have oq := op k q (by omega) (by omega)
  obtain ⟨o1, o2⟩ := Hs.opn_le hd hl hk hqn
  have oq' := cell_allocs oq
  rw [hk2] at e0 e0'
  have HO : Hid (∀ a b, y.opn (up d k) a b = if a = k ∧ b = q then y.opn d k q + 1 else y.opn d a b) := fun a b => by
   rw [Hs.opn_up, hk2, hqe]
   by_cases e : a = k ∧ b = q
   ·obtain ⟨rfl, rfl⟩ := e
    simp
   ·rw [if_neg e, if_neg (fun h => e ⟨h.1, by omega⟩), if_neg (fun h => absurd h.2.1 (by decide))]
    omega
  clear op pt t hk2 hq hqe hp hE eh ea
  generalize (y.e k (d k)).v = vd at *
  generalize y.opn d k q = on at *
  go_enter Tryz.func132, Tryz.ntmps132
  go_wp2_with fail
  go_region
  all_goals
   go_wp2_with fail
   go_region
   all_goals
    go_wp2_with fail
    go_region
    all_goals
     go_wp2_with fail
     go_end0
     have hz := HP.out.put2 (o := oQ0 2 q vd) (show k < 4 by omega) (show k < 4 by omega) (show q < 4 by omega) HO.out
     exact ⟨rfl, hz.1.dr.dr.dr, hz.2.dr.dr.dr⟩
 rcases Bool.eq_false_or_eq_true ((y.e k (d k)).k == 3) with t3 | t3
 ·have hk3 : (y.e k (d k)).k = 3 := by simpa using t3
  have oq := op q k (by omega) (by omega)
  obtain ⟨o1, o2⟩ := Hs.opn_le hd hl hqn hk
  have oq' := cell_allocs oq
  rw [hk3] at e0 e0'
  have HO : Hid (∀ a b, y.opn (up d k) a b = if a = q ∧ b = k then y.opn d q k - 1 else y.opn d a b) := fun a b => by
   rw [Hs.opn_up, hk3, hqe]
   by_cases e : a = q ∧ b = k
   ·obtain ⟨rfl, rfl⟩ := e
    simp
   ·rw [if_neg e, if_neg (fun h => absurd h.2.1 (by decide)), if_neg (fun h => e ⟨by omega, h.1⟩)]
    omega
  clear op pt t t3 hk3 hq hqe hp hE eh ea
  generalize (y.e k (d k)).v = vd at *
  generalize y.opn d q k = on at *
  go_enter Tryz.func132, Tryz.ntmps132
  go_wp2_with fail
  go_region
  all_goals
   go_wp2_with fail
   go_region
   all_goals
    go_wp2_with fail
    go_region
    all_goals
     go_wp2_with fail
     go_end0
     have hz := HP.out.put2 (o := oQ0 3 q vd) (show k < 4 by omega) (show q < 4 by omega) (show k < 4 by omega) HO.out
     exact ⟨rfl, hz.1.dr.dr.dr, hz.2.dr.dr.dr⟩
 ·have HO : Hid (∀ a b, y.opn (up d k) a b = y.opn d a b) := fun a b => by
   have t2 : (y.e k (d k)).k ≠ 2 := by simpa using t
   have t3' : (y.e k (d k)).k ≠ 3 := by simpa using t3
   rw [Hs.opn_up, if_neg (fun h => t2 h.2.1), if_neg (fun h => t3' h.2.1)]
   omega
  clear op pt hq hqe hp hE eh ea
  generalize (y.e k (d k)).v = vd at *
  generalize (y.e k (d k)).k = kd at *
  go_enter Tryz.func132, Tryz.ntmps132
  go_wp2_with fail
  go_region
  all_goals
   go_wp2_with fail
   go_region
   all_goals
    go_wp2_with fail
    go_end0
    have hz := HP.out.put1 (o := oQ0 kd q vd) (show k < 4 by omega) HO.out
    exact ⟨rfl, hz.1.dr.dr, hz.2.dr.dr⟩
def NxtR (w : World) (y : Hs) (d : Nat → Nat) (e : Ending) (w' : World) : Prop :=
 Below w.heap.size w w' ∧ ((∃ k, k < y.n ∧ y.Can d k ∧ e = .returned (.int .i64 (k : Nat))) ∨ (e = .returned (.int .i64 (-1)) ∧ ∀ p, p < y.n → ¬ y.Can d p))
theorem next_any (X : Nat) (ha : Option Addr) (hc : Nat) (hA : Nat → Option Addr) (hC : Nat → Nat) (y : Hs) (d : Nat → Nat) (w : World) (hE : HisE w ha hA hC y) (hP : HisP w X ha hc y d) (h4 : y.n ≤ 4) (hp : y.Peers) (hl : ∀ i, i < y.n → y.l i ≤ 200) (hd : ∀ i, d i ≤ y.l i) :
  Calls Tryz.prog 131 #[.pointer (some ⟨X, 4, none⟩)] w (NxtR w y d) := by
 have HE : Hid (HisE w ha hA hC y) := hE
 have HP : Hid (HisP w X ha hc y d) := hP
 have HH : Hid (y.Peers ∧ (∀ i, i < y.n → y.l i ≤ 200) ∧ ∀ i, d i ≤ y.l i) := ⟨hp, hl, hd⟩
 have hn : (y.n : Int) ≤ 4 := by omega
 obtain ⟨c4, -, -, -⟩ := hP
 clear hE hp hl hd
 go_enter Tryz.func131, Tryz.ntmps131
 go_wp2_with fail
 clear c4
 go_loopw [9] (fun i wr => ∃ k : Nat, k ≤ y.n ∧ i = .int .i64 k ∧ Below w.heap.size w wr ∧ Hid (∀ j, j < k → ¬ y.Can d j)) (fun i _ => y.n - (intOf i).toNat)
 case atStart => exact ⟨0, Nat.zero_le _, rfl, Below.refl _ _, fun j hj => by omega⟩
 case round =>
  obtain ⟨k, hk, rfl, hbw, HZ⟩ := hrel
  by_cases hlt : k < y.n
  ·have hlt' : (k : Int) < (y.n : Int) := by omega
   go_wp2_with fail
   refine (canPut_any X ha hc hA hC y d k wr (HE.out.below hbw) (HP.out.below hbw) h4 hlt HH.out.1 HH.out.2.1 HH.out.2.2).mono ?_
   rintro e w1 ⟨rfl, b1⟩
   have B1 : Hid (Below w.heap.size w w1) := hbw.trans (b1.mono hbw.size)
   clear b1 hbw
   by_cases hc' : y.Can d k
   ·have HF : Hid (NxtR w y d (.returned (.int .i64 k)) w1) := ⟨B1.out, .inl ⟨k, hlt, hc', rfl⟩⟩
    rw [qB_true hc']
    clear hc' B1
    go_wp2
    go_ret
    exact HF.out
   ·have HZ' : Hid (∀ j, j < k + 1 → ¬ y.Can d j) := fun j hj => by
     by_cases e : j = k
     ·subst e
      exact hc'
     ·exact HZ.out j (by omega)
    rw [qB_false hc']
    clear hc' HZ
    go_wp2
    go_roundw
    case rel => exact ⟨k + 1, by omega, by go_num, B1.out, HZ'.out⟩
    case measure => simp [intOf]; omega
  ·have HF : Hid (NxtR w y d (.returned (.int .i64 (-1))) wr) := ⟨hbw, .inr ⟨rfl, fun p hp => HZ.out p (by omega)⟩⟩
   clear HZ hbw
   go_wp2
   go_ret
   exact HF.out
theorem allPut_any (X : Nat) (ha : Option Addr) (hc : Nat) (hA : Nat → Option Addr) (hC : Nat → Nat) (y : Hs) (d : Nat → Nat) (w : World) (hE : HisE w ha hA hC y) (hP : HisP w X ha hc y d) (h4 : y.n ≤ 4) (hl : ∀ i, i < y.n → y.l i ≤ 200) (hd : ∀ i, d i ≤ y.l i) :
  Calls Tryz.prog 133 #[.pointer (some ⟨X, 4, none⟩)] w fun e w' => e = .returned (.bool (qB (y.All d))) ∧ Below w.heap.size w w' := by
 have HE : Hid (HisE w ha hA hC y) := hE
 have HP : Hid (HisP w X ha hc y d) := hP
 have HH : Hid ((∀ i, i < y.n → y.l i ≤ 200) ∧ ∀ i, d i ≤ y.l i) := ⟨hl, hd⟩
 have hn : (y.n : Int) ≤ 4 := by omega
 obtain ⟨c4, -, -, -⟩ := hP
 clear hE hl hd
 go_enter Tryz.func133, Tryz.ntmps133
 go_wp2_with fail
 clear c4
 go_loopw [10] (fun i wr => ∃ k : Nat, k ≤ y.n ∧ i = .int .i64 k ∧ Below w.heap.size w wr ∧ Hid (∀ j, j < k → d j = y.l j)) (fun i _ => y.n - (intOf i).toNat)
 case atStart => exact ⟨0, Nat.zero_le _, rfl, Below.refl _ _, fun j hj => by omega⟩
 case round =>
  obtain ⟨k, hk, rfl, hbw, HZ⟩ := hrel
  by_cases hlt : k < y.n
  ·have hlt' : (k : Int) < (y.n : Int) := by omega
   have hk4 : (k : Int) < 4 := by omega
   obtain ⟨bh, oh, eh, ch⟩ := (HE.out.below hbw).row.at hlt
   have pk := (HP.out.below hbw).pt k (by omega)
   have hd' : (d k : Int) ≤ (y.l k : Int) := by have := HH.out.2 k; omega
   rw [eh]
   by_cases hs : d k < y.l k
   ·have hs' : (d k : Int) < (y.l k : Int) := by omega
    have HN : Hid (qB (y.All d) = false) := qB_false fun h => by have := h k hlt; omega
    clear HZ
    go_wp2
    go_ret
    rw [HN.out]
    exact ⟨rfl, hbw⟩
   ·have hs' : ¬ (d k : Int) < (y.l k : Int) := by omega
    have HZ' : Hid (∀ j, j < k + 1 → d j = y.l j) := fun j hj => by
     by_cases e : j = k
     ·subst e
      omega
     ·exact HZ.out j (by omega)
    clear HZ
    go_wp2
    go_roundw
    case rel => exact ⟨k + 1, by omega, by go_num, hbw, HZ'.out⟩
    case measure => simp [intOf]; omega
  ·have HN : Hid (qB (y.All d) = true) := qB_true fun p hp => HZ.out p (by omega)
   clear HZ
   go_wp2
   go_ret
   rw [HN.out]
   exact ⟨rfl, hbw⟩
def mkI (k : Int) (i : Nat) : I5 := ⟨k + 5 * i, k + 5 * i + 1, k + 5 * i + 1 + 1, k + 5 * i + 1 + 1 + 1, k + 5 * i + 1 + 1 + 1 + 1⟩
def mkT (k : Int) (i : Nat) : I2 := ⟨(k + 2 * i) % 3 == 0, k + 2 * i + 1⟩
def mkEv (k : Int) (i : Nat) : E3 := ⟨k + 3 * i, k + 3 * i + 1, k + 3 * i + 1 + 1⟩
theorem flat_set2_ {f : Nat → List Value} {n i : Nat} (hl : ∀ j, j < n → (f j).length = 2) (hi : i < n) (a b : Value) :
  flat (fun j => if j = i then [a, b] else f j) n = ((flat f n).set (i * 2) a).set (i * 2 + 1) b := by
 have hl' : ∀ j, j < n → ((fun j => if j = i then [a, b] else f j) j).length = 2 := fun j hj => by
  by_cases e : j = i
  ·simp [e]
  ·simp [e, hl j hj]
 have n1 := flat_len hl
 have n2 := flat_len hl'
 apply List.ext_getElem?
 intro q
 by_cases hq : q < n * 2
 ·have hk : q / 2 < n := by omega
  have hr : q % 2 < 2 := by omega
  have e0 : q = q / 2 * 2 + q % 2 := by omega
  have e1 := flat_at hl' hk hr
  have e2 := flat_at hl hk hr
  rw [← e0] at e1 e2
  rw [e1]
  by_cases ei : q / 2 = i
  ·simp only [if_pos ei]
   have hrK : q % 2 = 0 ∨ q % 2 = 1 := by omega
   rcases hrK with h | h <;> rw [h] <;>
    (simp only [List.getElem?_set, List.length_set, n1]
     have : i < n := hi
     repeat (first | rw [if_pos (by omega)] | rw [if_neg (by omega)])
     simp)
  ·simp only [if_neg ei]
   simp only [List.getElem?_set, List.length_set, n1]
   repeat rw [if_neg (by omega)]
   rw [e2]
 ·rw [List.getElem?_eq_none (by omega), List.getElem?_eq_none (by simp only [List.length_set]; omega)]
theorem flat_set3_ {f : Nat → List Value} {n i : Nat} (hl : ∀ j, j < n → (f j).length = 3) (hi : i < n) (a b c : Value) :
  flat (fun j => if j = i then [a, b, c] else f j) n = (((flat f n).set (i * 3) a).set (i * 3 + 1) b).set (i * 3 + 2) c := by
 have hl' : ∀ j, j < n → ((fun j => if j = i then [a, b, c] else f j) j).length = 3 := fun j hj => by
  by_cases e : j = i
  ·simp [e]
  ·simp [e, hl j hj]
 have n1 := flat_len hl
 have n2 := flat_len hl'
 apply List.ext_getElem?
 intro q
 by_cases hq : q < n * 3
 ·have hk : q / 3 < n := by omega
  have hr : q % 3 < 3 := by omega
  have e0 : q = q / 3 * 3 + q % 3 := by omega
  have e1 := flat_at hl' hk hr
  have e2 := flat_at hl hk hr
  rw [← e0] at e1 e2
  rw [e1]
  by_cases ei : q / 3 = i
  ·simp only [if_pos ei]
   have hrK : q % 3 = 0 ∨ q % 3 = 1 ∨ q % 3 = 2 := by omega
   rcases hrK with h | h | h <;> rw [h] <;>
    (simp only [List.getElem?_set, List.length_set, n1]
     have : i < n := hi
     repeat (first | rw [if_pos (by omega)] | rw [if_neg (by omega)])
     simp)
  ·simp only [if_neg ei]
   simp only [List.getElem?_set, List.length_set, n1]
   repeat rw [if_neg (by omega)]
   rw [e2]
 ·rw [List.getElem?_eq_none (by omega), List.getElem?_eq_none (by simp only [List.length_set]; omega)]
theorem flat_set5_ {f : Nat → List Value} {n i : Nat} (hl : ∀ j, j < n → (f j).length = 5) (hi : i < n) (a b c d e : Value) :
  flat (fun j => if j = i then [a, b, c, d, e] else f j) n = (((((flat f n).set (i * 5) a).set (i * 5 + 1) b).set (i * 5 + 2) c).set (i * 5 + 3) d).set (i * 5 + 4) e := by
 have hl' : ∀ j, j < n → ((fun j => if j = i then [a, b, c, d, e] else f j) j).length = 5 := fun j hj => by
  by_cases e : j = i
  ·simp [e]
  ·simp [e, hl j hj]
 have n1 := flat_len hl
 have n2 := flat_len hl'
 apply List.ext_getElem?
 intro q
 by_cases hq : q < n * 5
 ·have hk : q / 5 < n := by omega
  have hr : q % 5 < 5 := by omega
  have e0 : q = q / 5 * 5 + q % 5 := by omega
  have e1 := flat_at hl' hk hr
  have e2 := flat_at hl hk hr
  rw [← e0] at e1 e2
  rw [e1]
  by_cases ei : q / 5 = i
  ·simp only [if_pos ei]
   have hrK : q % 5 = 0 ∨ q % 5 = 1 ∨ q % 5 = 2 ∨ q % 5 = 3 ∨ q % 5 = 4 := by omega
   rcases hrK with h | h | h | h | h <;> rw [h] <;>
    (simp only [List.getElem?_set, List.length_set, n1]
     have : i < n := hi
     repeat (first | rw [if_pos (by omega)] | rw [if_neg (by omega)])
     simp)
  ·simp only [if_neg ei]
   simp only [List.getElem?_set, List.length_set, n1]
   repeat rw [if_neg (by omega)]
   rw [e2]
 ·rw [List.getElem?_eq_none (by omega), List.getElem?_eq_none (by simp only [List.length_set]; omega)]
theorem markInsS_own (b n cap B : Nat) (h : Nat → I5) (k : Int) (w : World) (hlen : n ≤ 1048576) (k0 : 0 ≤ k) (k1 : k ≤ 100000000) (o : w.ownsRow B 99 5 (.slice (some ⟨b, 0, none⟩) n cap) n (fI h n)) :
  Calls Tryz.prog 155 #[.slice (some ⟨b, 0, none⟩) n cap, .int .i64 k] w fun e w' => e = .returned (.int .i64 (k + 5 * n)) ∧ w.grownBy w' (some b) ∧ w'.ownsRow B 99 5 (.slice (some ⟨b, 0, none⟩) n cap) n (fI (mkI k) n) := by
 have hl' : (n : Int) ≤ 1048576 := by omega
 have HO : Hid (w.ownsRow B 99 5 (.slice (some ⟨b, 0, none⟩) n cap) n (fI h n)) := o
 clear o
 go_enter Tryz.func155, Tryz.ntmps155
 go_wp2_with fail
 go_loopw [1, 5] (fun q i wr => ∃ j : Nat, j ≤ n ∧ i = .int .i64 j ∧ q = .int .i64 (k + 5 * j) ∧ Hid (wr.ownsRow B 99 5 (.slice (some ⟨b, 0, none⟩) n cap) n (flat (fun t => cI (if t < j then mkI k t else h t)) n) ∧ w.grownBy wr (some b))) (fun _ i _ => n - (intOf i).toNat)
 case atStart =>
  refine ⟨0, Nat.zero_le _, rfl, by simp, ?_, World.grownBy.refl _ _⟩
  have e : flat (fun t => cI (if t < 0 then mkI k t else h t)) n = fI h n := flat_congr fun t _ => by rw [if_neg (by omega)]
  rw [e]
  exact HO.out
 case round =>
  clear HO
  obtain ⟨j, hj, rfl, rfl, HR⟩ := hrel
  by_cases hlt : j < n
  ·have hlt' : (j : Int) < (n : Int) := by omega
   have hc : ∀ r, r < 5 → wr.cell? ⟨b, j * 5 + r, none⟩ = (cI (h j))[r]? := fun r hr => by
    rw [HR.out.1.cellAt _ (by omega)]
    have e := flat_at (sz := 5) (f := (fun t => cI (if t < j then mkI k t else h t))) (n := n) (fun _ _ => rfl) hlt hr
    rw [if_neg (by omega)] at e
    exact e
   have c0 := hc 0 (by omega)
   have c1 := hc 1 (by omega)
   have c2 := hc 2 (by omega)
   have c3 := hc 3 (by omega)
   have c4 := hc 4 (by omega)
   simp only [cI, Nat.add_zero, List.getElem?_cons_zero, List.getElem?_cons_succ] at c0 c1 c2 c3 c4
   have fz : ∀ o, wr.frozen? ⟨b, o, none⟩ = false := fun o => HR.out.1.frozenAt o
   clear hc
   go_wp2
   go_roundw
   case rel =>
    refine ⟨j + 1, by omega, by go_num, by go_num, ?_, ?_⟩
    ·have e : flat (fun t => cI (if t < j + 1 then mkI k t else h t)) n = flat (fun t => if t = j then cI (mkI k j) else (fun t => cI (if t < j then mkI k t else h t)) t) n := flat_congr fun t _ => by
      by_cases e : t = j
      ·rw [if_pos e, if_pos (by omega), e]
      ·rw [if_neg e]
       show cI (if t < j + 1 then mkI k t else h t) = cI (if t < j then mkI k t else h t)
       by_cases e2 : t < j
       ·rw [if_pos e2, if_pos (by omega)]
       ·rw [if_neg e2, if_neg (by omega)]
     have e2 := flat_set5_ (f := (fun t => cI (if t < j then mkI k t else h t))) (n := n) (i := j) (fun _ _ => rfl) hlt (.int .i64 (k + 5 * (j : Int))) (.int .i64 (k + 5 * (j : Int) + 1)) (.int .i64 (k + 5 * (j : Int) + 1 + 1)) (.int .i64 (k + 5 * (j : Int) + 1 + 1 + 1)) (.int .i64 (k + 5 * (j : Int) + 1 + 1 + 1 + 1))
     rw [e]
     refine Eq.mpr (congrArg (fun l => World.ownsRow _ B 99 5 (.slice (some ⟨b, 0, none⟩) n cap) n l) e2) ?_
     exact (World.ownsRow.stored (World.ownsRow.stored (World.ownsRow.stored (World.ownsRow.stored (World.ownsRow.stored HR.out.1 (j * 5) (.int .i64 (k + 5 * (j : Int)))).1 (j * 5 + 1) (.int .i64 (k + 5 * (j : Int) + 1))).1 (j * 5 + 2) (.int .i64 (k + 5 * (j : Int) + 1 + 1))).1 (j * 5 + 3) (.int .i64 (k + 5 * (j : Int) + 1 + 1 + 1))).1 (j * 5 + 4) (.int .i64 (k + 5 * (j : Int) + 1 + 1 + 1 + 1))).1
    ·repeat (refine grown_setCell ?_ (.inl rfl) _)
     exact HR.out.2
   case measure => simp [intOf]; omega
  ·have hjl : j = n := by omega
   subst hjl
   have HF : Hid (w.grownBy wr (some b) ∧ wr.ownsRow B 99 5 (.slice (some ⟨b, 0, none⟩) j cap) j (fI (mkI k) j)) := by
    refine ⟨HR.out.2, ?_⟩
    have e : flat (fun t => cI (if t < j then mkI k t else h t)) j = fI (mkI k) j := flat_congr fun t ht => by rw [if_pos ht]
    have := HR.out.1
    rw [e] at this
    exact this
   clear HR
   go_wp2
   go_ret
   exact ⟨rfl, HF.out⟩
theorem heldInsS_own (b n cap : Nat) (k : Int) (w : World) (hlen : n ≤ 1048576) (k0 : 0 ≤ k) (k1 : k ≤ 100000000) (hb : b < w.heap.size) (h : InsAt w b 0 n (mkI k)) :
  Calls Tryz.prog 158 #[.slice (some ⟨b, 0, none⟩) n cap, .int .i64 k] w fun e w' => e = .returned (.int .i64 (k + 5 * n)) ∧ Below w.heap.size w w' := by
 have hl' : (n : Int) ≤ 1048576 := by omega
 have HO : Hid (InsAt w b 0 n (mkI k) ∧ b < w.heap.size) := ⟨h, hb⟩
 clear h hb
 go_enter Tryz.func158, Tryz.ntmps158
 go_wp2_with fail
 go_loopw [1, 5] (fun q i wr => ∃ j : Nat, j ≤ n ∧ i = .int .i64 j ∧ q = .int .i64 (k + 5 * j) ∧ Below w.heap.size w wr) (fun _ i _ => n - (intOf i).toNat)
 case atStart => exact ⟨0, Nat.zero_le _, rfl, by simp, Below.refl _ _⟩
 case round =>
  obtain ⟨j, hj, rfl, rfl, hbw⟩ := hrel
  by_cases hlt : j < n
  ·have hlt' : (j : Int) < (n : Int) := by omega
   obtain ⟨d0, d1, d2, d3, d4⟩ := HO.out.1 j hlt
   have c0 : wr.cell? ⟨b, j * 5, none⟩ = some (.int .i64 (k + 5 * (j : Int))) := (hbw.cell (p := ⟨b, j * 5, none⟩) HO.out.2).trans (by have d := d0; rw [Nat.zero_add] at d; exact d)
   have c1 : wr.cell? ⟨b, j * 5 + 1, none⟩ = some (.int .i64 (k + 5 * (j : Int) + 1)) := (hbw.cell (p := ⟨b, j * 5 + 1, none⟩) HO.out.2).trans (by have d := d1; rw [Nat.zero_add] at d; exact d)
   have c2 : wr.cell? ⟨b, j * 5 + 2, none⟩ = some (.int .i64 (k + 5 * (j : Int) + 1 + 1)) := (hbw.cell (p := ⟨b, j * 5 + 2, none⟩) HO.out.2).trans (by have d := d2; rw [Nat.zero_add] at d; exact d)
   have c3 : wr.cell? ⟨b, j * 5 + 3, none⟩ = some (.int .i64 (k + 5 * (j : Int) + 1 + 1 + 1)) := (hbw.cell (p := ⟨b, j * 5 + 3, none⟩) HO.out.2).trans (by have d := d3; rw [Nat.zero_add] at d; exact d)
   have c4 : wr.cell? ⟨b, j * 5 + 4, none⟩ = some (.int .i64 (k + 5 * (j : Int) + 1 + 1 + 1 + 1)) := (hbw.cell (p := ⟨b, j * 5 + 4, none⟩) HO.out.2).trans (by have d := d4; rw [Nat.zero_add] at d; exact d)
   clear d0 d1 d2 d3 d4
   go_wp2
   go_roundw
   case rel => exact ⟨j + 1, by omega, by go_num, by go_num, hbw⟩
   case measure => simp [intOf]; omega
  ·have hjl : j = n := by omega
   subst hjl
   go_wp2
   go_ret
   exact ⟨rfl, hbw⟩
theorem markItemS_own (b n cap B : Nat) (h : Nat → I2) (k : Int) (w : World) (hlen : n ≤ 1048576) (k0 : 0 ≤ k) (k1 : k ≤ 100000000) (o : w.ownsRow B 126 2 (.slice (some ⟨b, 0, none⟩) n cap) n (fT h n)) :
  Calls Tryz.prog 156 #[.slice (some ⟨b, 0, none⟩) n cap, .int .i64 k] w fun e w' => e = .returned (.int .i64 (k + 2 * n)) ∧ w.grownBy w' (some b) ∧ w'.ownsRow B 126 2 (.slice (some ⟨b, 0, none⟩) n cap) n (fT (mkT k) n) := by
 have hl' : (n : Int) ≤ 1048576 := by omega
 have HO : Hid (w.ownsRow B 126 2 (.slice (some ⟨b, 0, none⟩) n cap) n (fT h n)) := o
 clear o
 go_enter Tryz.func156, Tryz.ntmps156
 go_wp2_with fail
 go_loopw [1, 5] (fun q i wr => ∃ j : Nat, j ≤ n ∧ i = .int .i64 j ∧ q = .int .i64 (k + 2 * j) ∧ Hid (wr.ownsRow B 126 2 (.slice (some ⟨b, 0, none⟩) n cap) n (flat (fun t => cT (if t < j then mkT k t else h t)) n) ∧ w.grownBy wr (some b))) (fun _ i _ => n - (intOf i).toNat)
 case atStart =>
  refine ⟨0, Nat.zero_le _, rfl, by simp, ?_, World.grownBy.refl _ _⟩
  have e : flat (fun t => cT (if t < 0 then mkT k t else h t)) n = fT h n := flat_congr fun t _ => by rw [if_neg (by omega)]
  rw [e]
  exact HO.out
 case round =>
  clear HO
  obtain ⟨j, hj, rfl, rfl, HR⟩ := hrel
  by_cases hlt : j < n
  ·have hlt' : (j : Int) < (n : Int) := by omega
   have hc : ∀ r, r < 2 → wr.cell? ⟨b, j * 2 + r, none⟩ = (cT (h j))[r]? := fun r hr => by
    rw [HR.out.1.cellAt _ (by omega)]
    have e := flat_at (sz := 2) (f := (fun t => cT (if t < j then mkT k t else h t))) (n := n) (fun _ _ => rfl) hlt hr
    rw [if_neg (by omega)] at e
    exact e
   have c0 := hc 0 (by omega)
   have c1 := hc 1 (by omega)
   simp only [cT, Nat.add_zero, List.getElem?_cons_zero, List.getElem?_cons_succ] at c0 c1
   have fz : ∀ o, wr.frozen? ⟨b, o, none⟩ = false := fun o => HR.out.1.frozenAt o
   clear hc
   go_wp2
   go_roundw
   case rel =>
    refine ⟨j + 1, by omega, by go_num, by go_num, ?_, ?_⟩
    ·have e : flat (fun t => cT (if t < j + 1 then mkT k t else h t)) n = flat (fun t => if t = j then cT (mkT k j) else (fun t => cT (if t < j then mkT k t else h t)) t) n := flat_congr fun t _ => by
      by_cases e : t = j
      ·rw [if_pos e, if_pos (by omega), e]
      ·rw [if_neg e]
       show cT (if t < j + 1 then mkT k t else h t) = cT (if t < j then mkT k t else h t)
       by_cases e2 : t < j
       ·rw [if_pos e2, if_pos (by omega)]
       ·rw [if_neg e2, if_neg (by omega)]
     have e2 := flat_set2_ (f := (fun t => cT (if t < j then mkT k t else h t))) (n := n) (i := j) (fun _ _ => rfl) hlt (.bool ((k + 2 * (j : Int)) % 3 == 0)) (.int .i64 (k + 2 * (j : Int) + 1))
     rw [e]
     refine Eq.mpr (congrArg (fun l => World.ownsRow _ B 126 2 (.slice (some ⟨b, 0, none⟩) n cap) n l) e2) ?_
     exact (World.ownsRow.stored (World.ownsRow.stored HR.out.1 (j * 2) (.bool ((k + 2 * (j : Int)) % 3 == 0))).1 (j * 2 + 1) (.int .i64 (k + 2 * (j : Int) + 1))).1
    ·repeat (refine grown_setCell ?_ (.inl rfl) _)
     exact HR.out.2
   case measure => simp [intOf]; omega
  ·have hjl : j = n := by omega
   subst hjl
   have HF : Hid (w.grownBy wr (some b) ∧ wr.ownsRow B 126 2 (.slice (some ⟨b, 0, none⟩) j cap) j (fT (mkT k) j)) := by
    refine ⟨HR.out.2, ?_⟩
    have e : flat (fun t => cT (if t < j then mkT k t else h t)) j = fT (mkT k) j := flat_congr fun t ht => by rw [if_pos ht]
    have := HR.out.1
    rw [e] at this
    exact this
   clear HR
   go_wp2
   go_ret
   exact ⟨rfl, HF.out⟩
theorem heldItemS_own (b n cap : Nat) (k : Int) (w : World) (hlen : n ≤ 1048576) (k0 : 0 ≤ k) (k1 : k ≤ 100000000) (hb : b < w.heap.size) (h : ItAt w b 0 n (mkT k)) :
  Calls Tryz.prog 159 #[.slice (some ⟨b, 0, none⟩) n cap, .int .i64 k] w fun e w' => e = .returned (.int .i64 (k + 2 * n)) ∧ Below w.heap.size w w' := by
 have hl' : (n : Int) ≤ 1048576 := by omega
 have HO : Hid (ItAt w b 0 n (mkT k) ∧ b < w.heap.size) := ⟨h, hb⟩
 clear h hb
 go_enter Tryz.func159, Tryz.ntmps159
 go_wp2_with fail
 go_loopw [1, 5] (fun q i wr => ∃ j : Nat, j ≤ n ∧ i = .int .i64 j ∧ q = .int .i64 (k + 2 * j) ∧ Below w.heap.size w wr) (fun _ i _ => n - (intOf i).toNat)
 case atStart => exact ⟨0, Nat.zero_le _, rfl, by simp, Below.refl _ _⟩
 case round =>
  obtain ⟨j, hj, rfl, rfl, hbw⟩ := hrel
  by_cases hlt : j < n
  ·have hlt' : (j : Int) < (n : Int) := by omega
   obtain ⟨d0, d1⟩ := HO.out.1 j hlt
   have c0 : wr.cell? ⟨b, j * 2, none⟩ = some (.bool ((k + 2 * (j : Int)) % 3 == 0)) := (hbw.cell (p := ⟨b, j * 2, none⟩) HO.out.2).trans (by have d := d0; rw [Nat.zero_add] at d; exact d)
   have c1 : wr.cell? ⟨b, j * 2 + 1, none⟩ = some (.int .i64 (k + 2 * (j : Int) + 1)) := (hbw.cell (p := ⟨b, j * 2 + 1, none⟩) HO.out.2).trans (by have d := d1; rw [Nat.zero_add] at d; exact d)
   clear d0 d1
   rcases Bool.eq_false_or_eq_true ((k + 2 * (j : Int)) % 3 == 0) with t | t
   ·rw [t] at c0
    go_wp2_with fail
    exact ⟨⟨j + 1, by omega, by go_num, by go_num, hbw⟩, by simp [intOf]; omega⟩
   ·rw [t] at c0
    go_wp2_with fail
    exact ⟨⟨j + 1, by omega, by go_num, by go_num, hbw⟩, by simp [intOf]; omega⟩
  ·have hjl : j = n := by omega
   subst hjl
   go_wp2
   go_ret
   exact ⟨rfl, hbw⟩
theorem markEventS_own (b n cap B : Nat) (h : Nat → E3) (k : Int) (w : World) (hlen : n ≤ 1048576) (k0 : 0 ≤ k) (k1 : k ≤ 100000000) (o : w.ownsRow B 71 3 (.slice (some ⟨b, 0, none⟩) n cap) n (fE h n)) :
  Calls Tryz.prog 157 #[.slice (some ⟨b, 0, none⟩) n cap, .int .i64 k] w fun e w' => e = .returned (.int .i64 (k + 3 * n)) ∧ w.grownBy w' (some b) ∧ w'.ownsRow B 71 3 (.slice (some ⟨b, 0, none⟩) n cap) n (fE (mkEv k) n) := by
 have hl' : (n : Int) ≤ 1048576 := by omega
 have HO : Hid (w.ownsRow B 71 3 (.slice (some ⟨b, 0, none⟩) n cap) n (fE h n)) := o
 clear o
 go_enter Tryz.func157, Tryz.ntmps157
 go_wp2_with fail
 go_loopw [1, 5] (fun q i wr => ∃ j : Nat, j ≤ n ∧ i = .int .i64 j ∧ q = .int .i64 (k + 3 * j) ∧ Hid (wr.ownsRow B 71 3 (.slice (some ⟨b, 0, none⟩) n cap) n (flat (fun t => cE (if t < j then mkEv k t else h t)) n) ∧ w.grownBy wr (some b))) (fun _ i _ => n - (intOf i).toNat)
 case atStart =>
  refine ⟨0, Nat.zero_le _, rfl, by simp, ?_, World.grownBy.refl _ _⟩
  have e : flat (fun t => cE (if t < 0 then mkEv k t else h t)) n = fE h n := flat_congr fun t _ => by rw [if_neg (by omega)]
  rw [e]
  exact HO.out
 case round =>
  clear HO
  obtain ⟨j, hj, rfl, rfl, HR⟩ := hrel
  by_cases hlt : j < n
  ·have hlt' : (j : Int) < (n : Int) := by omega
   have hc : ∀ r, r < 3 → wr.cell? ⟨b, j * 3 + r, none⟩ = (cE (h j))[r]? := fun r hr => by
    rw [HR.out.1.cellAt _ (by omega)]
    have e := flat_at (sz := 3) (f := (fun t => cE (if t < j then mkEv k t else h t))) (n := n) (fun _ _ => rfl) hlt hr
    rw [if_neg (by omega)] at e
    exact e
   have c0 := hc 0 (by omega)
   have c1 := hc 1 (by omega)
   have c2 := hc 2 (by omega)
   simp only [cE, Nat.add_zero, List.getElem?_cons_zero, List.getElem?_cons_succ] at c0 c1 c2
   have fz : ∀ o, wr.frozen? ⟨b, o, none⟩ = false := fun o => HR.out.1.frozenAt o
   clear hc
   go_wp2
   go_roundw
   case rel =>
    refine ⟨j + 1, by omega, by go_num, by go_num, ?_, ?_⟩
    ·have e : flat (fun t => cE (if t < j + 1 then mkEv k t else h t)) n = flat (fun t => if t = j then cE (mkEv k j) else (fun t => cE (if t < j then mkEv k t else h t)) t) n := flat_congr fun t _ => by
      by_cases e : t = j
      ·rw [if_pos e, if_pos (by omega), e]
      ·rw [if_neg e]
       show cE (if t < j + 1 then mkEv k t else h t) = cE (if t < j then mkEv k t else h t)
       by_cases e2 : t < j
       ·rw [if_pos e2, if_pos (by omega)]
       ·rw [if_neg e2, if_neg (by omega)]
     have e2 := flat_set3_ (f := (fun t => cE (if t < j then mkEv k t else h t))) (n := n) (i := j) (fun _ _ => rfl) hlt (.int .i64 (k + 3 * (j : Int))) (.int .i64 (k + 3 * (j : Int) + 1)) (.int .i64 (k + 3 * (j : Int) + 1 + 1))
     rw [e]
     refine Eq.mpr (congrArg (fun l => World.ownsRow _ B 71 3 (.slice (some ⟨b, 0, none⟩) n cap) n l) e2) ?_
     exact (World.ownsRow.stored (World.ownsRow.stored (World.ownsRow.stored HR.out.1 (j * 3) (.int .i64 (k + 3 * (j : Int)))).1 (j * 3 + 1) (.int .i64 (k + 3 * (j : Int) + 1))).1 (j * 3 + 2) (.int .i64 (k + 3 * (j : Int) + 1 + 1))).1
    ·repeat (refine grown_setCell ?_ (.inl rfl) _)
     exact HR.out.2
   case measure => simp [intOf]; omega
  ·have hjl : j = n := by omega
   subst hjl
   have HF : Hid (w.grownBy wr (some b) ∧ wr.ownsRow B 71 3 (.slice (some ⟨b, 0, none⟩) j cap) j (fE (mkEv k) j)) := by
    refine ⟨HR.out.2, ?_⟩
    have e : flat (fun t => cE (if t < j then mkEv k t else h t)) j = fE (mkEv k) j := flat_congr fun t ht => by rw [if_pos ht]
    have := HR.out.1
    rw [e] at this
    exact this
   clear HR
   go_wp2
   go_ret
   exact ⟨rfl, HF.out⟩
theorem heldEventS_own (b n cap : Nat) (k : Int) (w : World) (hlen : n ≤ 1048576) (k0 : 0 ≤ k) (k1 : k ≤ 100000000) (hb : b < w.heap.size) (h : EvAt w b 0 n (mkEv k)) :
  Calls Tryz.prog 160 #[.slice (some ⟨b, 0, none⟩) n cap, .int .i64 k] w fun e w' => e = .returned (.int .i64 (k + 3 * n)) ∧ Below w.heap.size w w' := by
 have hl' : (n : Int) ≤ 1048576 := by omega
 have HO : Hid (EvAt w b 0 n (mkEv k) ∧ b < w.heap.size) := ⟨h, hb⟩
 clear h hb
 go_enter Tryz.func160, Tryz.ntmps160
 go_wp2_with fail
 go_loopw [1, 5] (fun q i wr => ∃ j : Nat, j ≤ n ∧ i = .int .i64 j ∧ q = .int .i64 (k + 3 * j) ∧ Below w.heap.size w wr) (fun _ i _ => n - (intOf i).toNat)
 case atStart => exact ⟨0, Nat.zero_le _, rfl, by simp, Below.refl _ _⟩
 case round =>
  obtain ⟨j, hj, rfl, rfl, hbw⟩ := hrel
  by_cases hlt : j < n
  ·have hlt' : (j : Int) < (n : Int) := by omega
   obtain ⟨d0, d1, d2⟩ := HO.out.1 j hlt
   have c0 : wr.cell? ⟨b, j * 3, none⟩ = some (.int .i64 (k + 3 * (j : Int))) := (hbw.cell (p := ⟨b, j * 3, none⟩) HO.out.2).trans (by have d := d0; rw [Nat.zero_add] at d; exact d)
   have c1 : wr.cell? ⟨b, j * 3 + 1, none⟩ = some (.int .i64 (k + 3 * (j : Int) + 1)) := (hbw.cell (p := ⟨b, j * 3 + 1, none⟩) HO.out.2).trans (by have d := d1; rw [Nat.zero_add] at d; exact d)
   have c2 : wr.cell? ⟨b, j * 3 + 2, none⟩ = some (.int .i64 (k + 3 * (j : Int) + 1 + 1)) := (hbw.cell (p := ⟨b, j * 3 + 2, none⟩) HO.out.2).trans (by have d := d2; rw [Nat.zero_add] at d; exact d)
   clear d0 d1 d2
   go_wp2
   go_roundw
   case rel => exact ⟨j + 1, by omega, by go_num, by go_num, hbw⟩
   case measure => simp [intOf]; omega
  ·have hjl : j = n := by omega
   subst hjl
   go_wp2
   go_ret
   exact ⟨rfl, hbw⟩
end Go.Proofs.YtcplnkhdclcgfaaGreatDoor
