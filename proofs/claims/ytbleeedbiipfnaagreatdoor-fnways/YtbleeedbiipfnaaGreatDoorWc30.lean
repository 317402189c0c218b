/- The walks of the program's rows of events: putOne, next, allPut. -/
import Derived.Test.YtbleeedbiipfnaaGreatDoorWc0
import Derived.Test.YtbleeedbiipfnaaGreatDoorWc27
namespace Go.Proofs.YtbleeedbiipfnaaGreatDoor
set_option maxRecDepth 100000
set_option maxHeartbeats 2000000
open Go.ChangeShapes Go.WideShapes Go.ChangeAt Go.RowKit Go.Deep Go.Sort
theorem Hs.opn_le {y : Hs} {d : Nat → Nat} (hd : ∀ i, d i ≤ y.l i) (hl : ∀ i, i < y.n → y.l i ≤ 200) {a b : Nat} (ha : a < y.n) (hb : b < y.n) : -200 ≤ y.opn d a b ∧ y.opn d a b ≤ 200 := by
 have h1 := cnt_le (y.e a) 2 b (d a)
 have h2 := cnt_le (y.e b) 3 a (d b)
 have h3 := hd a
 have h4 := hd b
 have h5 := hl a ha
 have h6 := hl b hb
 unfold Hs.opn
 omega
theorem cell_set2 {w : World} {X i j m : Nat} {u v : Value} {o : Obj} (h1 : m ≠ i) (h2 : m ≠ j) (hX : X < w.heap.size) : (((w.setCell ⟨X, i, none⟩ u).setCell ⟨X, j, none⟩ v).alloc o).cell? ⟨X, m, none⟩ = w.cell? ⟨X, m, none⟩ := by
 rw [World.cell?_alloc_lt _ _ _ (by simpa [World.setCell] using hX), World.cell?_setCell_other _ _ _ _ (by intro e; injection e with _ e; exact h2 e.symm), World.cell?_setCell_other _ _ _ _ (by intro e; injection e with _ e; exact h1 e.symm)]
theorem cell_set2a {w : World} {X i j : Nat} {u v : Value} {o : Obj} (h1 : i ≠ j) (hc : (w.cell? ⟨X, i, none⟩).isSome = true) (hX : X < w.heap.size) : (((w.setCell ⟨X, i, none⟩ u).setCell ⟨X, j, none⟩ v).alloc o).cell? ⟨X, i, none⟩ = some u := by
 rw [World.cell?_alloc_lt _ _ _ (by simpa [World.setCell] using hX), World.cell?_setCell_other _ _ _ _ (by intro e; injection e with _ e; exact h1 e.symm), World.cell?_setCell_same' _ _ _ hc]
theorem cell_set2b {w : World} {X i j : Nat} {u v : Value} {o : Obj} (h1 : i ≠ j) (hc : (w.cell? ⟨X, j, none⟩).isSome = true) (hX : X < w.heap.size) : (((w.setCell ⟨X, i, none⟩ u).setCell ⟨X, j, none⟩ v).alloc o).cell? ⟨X, j, none⟩ = some v := by
 rw [World.cell?_alloc_lt _ _ _ (by simpa [World.setCell] using hX), World.cell?_setCell_same']
 rw [World.cell?_setCell_other _ _ _ _ (by intro e; injection e with _ e; exact h1 e)]
 exact hc
theorem frozen_alloc_lt {w : World} {o : Obj} {X j : Nat} (hX : X < w.heap.size) : (w.alloc o).frozen? ⟨X, j, none⟩ = w.frozen? ⟨X, j, none⟩ := (below_alloc w o).frozen (p := ⟨X, j, none⟩) hX
theorem HisP.put2 {w : World} {X : Nat} {ha : Option Addr} {hc : Nat} {y : Hs} {d : Nat → Nat} {k i0 j0 : Nat} {on : Int} {o : Obj} (h : HisP w X ha hc y d) (hk : k < 4) (hi : i0 < 4) (hj : j0 < 4) (HO : ∀ a b, y.opn (up d k) a b = if a = i0 ∧ b = j0 then on else y.opn d a b) :
  HisP (((w.setCell ⟨X, 9 + i0 * 4 + j0, none⟩ (.int .i64 on)).setCell ⟨X, 5 + k, none⟩ (.int .i64 ((d k : Int) + 1))).alloc o) X ha hc y (up d k) ∧ Touch (fun b => b = X) w (((w.setCell ⟨X, 9 + i0 * 4 + j0, none⟩ (.int .i64 on)).setCell ⟨X, 5 + k, none⟩ (.int .i64 ((d k : Int) + 1))).alloc o) := by
 have hX := h.lt
 refine ⟨h.put (k := k) (cell_set2 (by omega) (by omega) hX) (fun i hi' => ?_) (fun a b ha' hb' => ?_) (fun j => ?_), ?_⟩
 ·by_cases e : i = k
  ·subst e
   rw [if_pos rfl, cell_set2b (by omega) (by rw [h.pt i hi']; rfl) hX]
   rfl
  ·rw [if_neg e]
   exact cell_set2 (by omega) (by omega) hX
 ·rw [HO]
  by_cases e : a = i0 ∧ b = j0
  ·obtain ⟨rfl, rfl⟩ := e
   rw [if_pos ⟨rfl, rfl⟩]
   exact cell_set2a (by omega) (by rw [h.op a b ha' hb']; rfl) hX
  ·rw [if_neg e, ← h.op a b ha' hb']
   exact cell_set2 (by omega) (by omega) hX
 ·rw [frozen_alloc_lt (by simpa [World.setCell] using hX), World.frozen?_setCell, World.frozen?_setCell]
  exact h.fr j
 ·exact ((Touch.of_set (P := fun b => b = X) w (a := ⟨X, _, none⟩) rfl _).trans (Touch.of_set (P := fun b => b = X) _ (a := ⟨X, _, none⟩) rfl _)).trans (Touch.of_below (below_alloc _ _))
theorem HisP.put1 {w : World} {X : Nat} {ha : Option Addr} {hc : Nat} {y : Hs} {d : Nat → Nat} {k : Nat} {o : Obj} (h : HisP w X ha hc y d) (hk : k < 4) (HO : ∀ a b, y.opn (up d k) a b = y.opn d a b) :
  HisP ((w.setCell ⟨X, 5 + k, none⟩ (.int .i64 ((d k : Int) + 1))).alloc o) X ha hc y (up d k) ∧ Touch (fun b => b = X) w ((w.setCell ⟨X, 5 + k, none⟩ (.int .i64 ((d k : Int) + 1))).alloc o) := by
 have hX := h.lt
 have ho : ∀ m, m ≠ 5 + k → ((w.setCell ⟨X, 5 + k, none⟩ (.int .i64 ((d k : Int) + 1))).alloc o).cell? ⟨X, m, none⟩ = w.cell? ⟨X, m, none⟩ := fun m hm => by
  rw [World.cell?_alloc_lt _ _ _ (by simpa [World.setCell] using hX), World.cell?_setCell_other _ _ _ _ (by intro e; injection e with _ e; exact hm e.symm)]
 refine ⟨h.put (k := k) (ho 4 (by omega)) (fun i hi' => ?_) (fun a b ha' hb' => ?_) (fun j => ?_), ?_⟩
 ·by_cases e : i = k
  ·subst e
   rw [if_pos rfl, World.cell?_alloc_lt _ _ _ (by simpa [World.setCell] using hX), World.cell?_setCell_same' _ _ _ (by rw [h.pt i hi']; rfl)]
   rfl
  ·rw [if_neg e]
   exact ho _ (by omega)
 ·rw [HO, ← h.op a b ha' hb']
  exact ho _ (by omega)
 ·rw [frozen_alloc_lt (by simpa [World.setCell] using hX), World.frozen?_setCell]
  exact h.fr j
 ·exact (Touch.of_set (P := fun b => b = X) w (a := ⟨X, _, none⟩) rfl _).trans (Touch.of_below (below_alloc _ _))
theorem HisP.dr {w : World} {X : Nat} {ha : Option Addr} {hc : Nat} {y : Hs} {d : Nat → Nat} (h : HisP w X ha hc y d) : HisP w.drew X ha hc y d := ⟨h.c4, h.pt, h.op, h.fr⟩
theorem Touch.dr {P : Nat → Prop} {w w' : World} (h : Touch P w w') : Touch P w w'.drew := ⟨h.os, h.tape, h.output, h.size, h.block⟩
theorem putOne_any (X : Nat) (ha : Option Addr) (hc : Nat) (hA : Nat → Option Addr) (hC : Nat → Nat) (y : Hs) (d : Nat → Nat) (k : Nat) (w : World) (hE : HisE w ha hA hC y) (hP : HisP w X ha hc y d) (h4 : y.n ≤ 4) (hk : k < y.n) (hp : y.Peers) (hl : ∀ i, i < y.n → y.l i ≤ 200) (hd : ∀ i, d i ≤ y.l i) (hlt : d k < y.l k) :
  Calls Tryz.prog 119 #[.pointer (some ⟨X, 4, none⟩), .int .i64 k] w fun e w' => e = .returned (.tuple #[]) ∧ HisP w' X ha hc y (up d k) ∧ Touch (fun b => b = X) w w' := by
 have HP : Hid (HisP w X ha hc y d) := hP
 have hk4 : (k : Int) < 4 := by omega
 have hk' : (k : Int) < (y.n : Int) := by omega
 have hl200 : (y.l k : Int) ≤ 200 := by have := hl k hk; omega
 have hlt' : (d k : Int) < (y.l k : Int) := by omega
 obtain ⟨bh, oh, eh, ch⟩ := hE.row.at hk
 obtain ⟨c4, pt, op, fr⟩ := hP
 have pk := pt k (by omega)
 rw [eh] at c4
 obtain ⟨b, off, ea, zb, e0, e1, e2⟩ := (hE.ev k hk).at hlt
 rw [ea] at ch
 have n1 : w.heap.size ≠ X := by have := HP.out.lt; omega
 have n2 : w.heap.size ≠ b := by omega
 have n3 : w.heap.size ≠ bh := by have := World.block_lt_of_cell? w _ ch; simp at this; omega
 have zX : X < w.heap.size := HP.out.lt
 have hq := hp k hk (d k) hlt
 obtain ⟨q, hqe⟩ : ∃ q : Nat, (y.e k (d k)).q = (q : Int) := ⟨(y.e k (d k)).q.toNat, by omega⟩
 have hq4 : (q : Int) < 4 := by omega
 have hqn : q < y.n := by omega
 rw [hqe] at e1
 have c4' := cell_allocs c4
 have pk' := cell_allocs pk
 have ch' := cell_allocs ch
 have e0' := cell_allocs e0
 have e1' := cell_allocs e1
 have e2' := cell_allocs e2
 have fr' : ∀ j, w.frozen? ⟨X, j, none⟩ = false := fr
 rcases Bool.eq_false_or_eq_true ((y.e k (d k)).k == 2) with t | t
 ·have hk2 : (y.e k (d k)).k = 2 := by simpa using t
  have oq := op k q (by omega) (by omega)
  obtain ⟨o1, o2⟩ := Hs.opn_le hd hl hk hqn
  have oq' := cell_allocs oq
  rw [hk2] at e0 e0'
  have HO : Hid (∀ a b, y.opn (up d k) a b = if a = k ∧ b = q then y.opn d k q + 1 else y.opn d a b) := fun a b => by
   rw [Hs.opn_up, hk2, hqe]
   by_cases e : a = k ∧ b = q
   ·obtain ⟨rfl, rfl⟩ := e
    simp
   ·rw [if_neg e, if_neg (fun h => e ⟨h.1, by omega⟩), if_neg (fun h => absurd h.2.1 (by decide))]
    omega
  clear op pt t hk2 hq hqe hp hE eh ea
  generalize (y.e k (d k)).v = vd at *
  generalize y.opn d k q = on at *
  go_enter Tryz.func119, Tryz.ntmps119
  go_wp2_with fail
  go_region
  all_goals
   go_wp2_with fail
   go_region
   all_goals
    go_wp2_with fail
    go_region
    all_goals
     go_wp2_with fail
     go_end0
     have hz := HP.out.put2 (o := oQ1 2 q vd) (show k < 4 by omega) (show k < 4 by omega) (show q < 4 by omega) HO.out
     exact ⟨rfl, hz.1.dr.dr.dr, hz.2.dr.dr.dr⟩
 rcases Bool.eq_false_or_eq_true ((y.e k (d k)).k == 3) with t3 | t3
 ·have hk3 : (y.e k (d k)).k = 3 := by simpa using t3
  have oq := op q k (by omega) (by omega)
  obtain ⟨o1, o2⟩ := Hs.opn_le hd hl hqn hk
  have oq' := cell_allocs oq
  rw [hk3] at e0 e0'
  have HO : Hid (∀ a b, y.opn (up d k) a b = if a = q ∧ b = k then y.opn d q k - 1 else y.opn d a b) := fun a b => by
   rw [Hs.opn_up, hk3, hqe]
   by_cases e : a = q ∧ b = k
   ·obtain ⟨rfl, rfl⟩ := e
    simp
   ·rw [if_neg e, if_neg (fun h => absurd h.2.1 (by decide)), if_neg (fun h => e ⟨by omega, h.1⟩)]
    omega
  clear op pt t t3 hk3 hq hqe hp hE eh ea
  generalize (y.e k (d k)).v = vd at *
  generalize y.opn d q k = on at *
  go_enter Tryz.func119, Tryz.ntmps119
  go_wp2_with fail
  go_region
  all_goals
   go_wp2_with fail
   go_region
   all_goals
    go_wp2_with fail
    go_region
    all_goals
     go_wp2_with fail
     go_end0
     have hz := HP.out.put2 (o := oQ1 3 q vd) (show k < 4 by omega) (show q < 4 by omega) (show k < 4 by omega) HO.out
     exact ⟨rfl, hz.1.dr.dr.dr, hz.2.dr.dr.dr⟩
 ·have HO : Hid (∀ a b, y.opn (up d k) a b = y.opn d a b) := fun a b => by
   have t2 : (y.e k (d k)).k ≠ 2 := by simpa using t
   have t3' : (y.e k (d k)).k ≠ 3 := by simpa using t3
   rw [Hs.opn_up, if_neg (fun h => t2 h.2.1), if_neg (fun h => t3' h.2.1)]
   omega
  clear op pt hq hqe hp hE eh ea
  generalize (y.e k (d k)).v = vd at *
  generalize (y.e k (d k)).k = kd at *
  go_enter Tryz.func119, Tryz.ntmps119
  go_wp2_with fail
  go_region
  all_goals
   go_wp2_with fail
   go_region
   all_goals
    go_wp2_with fail
    go_end0
    have hz := HP.out.put1 (o := oQ1 kd q vd) (show k < 4 by omega) HO.out
    exact ⟨rfl, hz.1.dr.dr, hz.2.dr.dr⟩
def NxtR (w : World) (y : Hs) (d : Nat → Nat) (e : Ending) (w' : World) : Prop :=
 Below w.heap.size w w' ∧ ((∃ k, k < y.n ∧ y.Can d k ∧ e = .returned (.int .i64 (k : Nat))) ∨ (e = .returned (.int .i64 (-1)) ∧ ∀ p, p < y.n → ¬ y.Can d p))
theorem next_any (X : Nat) (ha : Option Addr) (hc : Nat) (hA : Nat → Option Addr) (hC : Nat → Nat) (y : Hs) (d : Nat → Nat) (w : World) (hE : HisE w ha hA hC y) (hP : HisP w X ha hc y d) (h4 : y.n ≤ 4) (hp : y.Peers) (hl : ∀ i, i < y.n → y.l i ≤ 200) (hd : ∀ i, d i ≤ y.l i) :
  Calls Tryz.prog 118 #[.pointer (some ⟨X, 4, none⟩)] w (NxtR w y d) := by
 have HE : Hid (HisE w ha hA hC y) := hE
 have HP : Hid (HisP w X ha hc y d) := hP
 have HH : Hid (y.Peers ∧ (∀ i, i < y.n → y.l i ≤ 200) ∧ ∀ i, d i ≤ y.l i) := ⟨hp, hl, hd⟩
 have hn : (y.n : Int) ≤ 4 := by omega
 obtain ⟨c4, -, -, -⟩ := hP
 clear hE hp hl hd
 go_enter Tryz.func118, Tryz.ntmps118
 go_wp2_with fail
 clear c4
 go_loopw [9] (fun i wr => ∃ k : Nat, k ≤ y.n ∧ i = .int .i64 k ∧ Below w.heap.size w wr ∧ Hid (∀ j, j < k → ¬ y.Can d j)) (fun i _ => y.n - (intOf i).toNat)
 case atStart => exact ⟨0, Nat.zero_le _, rfl, Below.refl _ _, fun j hj => by omega⟩
 case round =>
  obtain ⟨k, hk, rfl, hbw, HZ⟩ := hrel
  by_cases hlt : k < y.n
  ·have hlt' : (k : Int) < (y.n : Int) := by omega
   go_wp2_with fail
   refine (canPut_any X ha hc hA hC y d k wr (HE.out.below hbw) (HP.out.below hbw) h4 hlt HH.out.1 HH.out.2.1 HH.out.2.2).mono ?_
   rintro e w1 ⟨rfl, b1⟩
   have B1 : Hid (Below w.heap.size w w1) := hbw.trans (b1.mono hbw.size)
   clear b1 hbw
   by_cases hc' : y.Can d k
   ·have HF : Hid (NxtR w y d (.returned (.int .i64 k)) w1) := ⟨B1.out, .inl ⟨k, hlt, hc', rfl⟩⟩
    rw [qB_true hc']
    clear hc' B1
    go_wp2
    go_ret
    exact HF.out
   ·have HZ' : Hid (∀ j, j < k + 1 → ¬ y.Can d j) := fun j hj => by
     by_cases e : j = k
     ·subst e
      exact hc'
     ·exact HZ.out j (by omega)
    rw [qB_false hc']
    clear hc' HZ
    go_wp2
    go_roundw
    case rel => exact ⟨k + 1, by omega, by go_num, B1.out, HZ'.out⟩
    case measure => simp [intOf]; omega
  ·have HF : Hid (NxtR w y d (.returned (.int .i64 (-1))) wr) := ⟨hbw, .inr ⟨rfl, fun p hp => HZ.out p (by omega)⟩⟩
   clear HZ hbw
   go_wp2
   go_ret
   exact HF.out
theorem allPut_any (X : Nat) (ha : Option Addr) (hc : Nat) (hA : Nat → Option Addr) (hC : Nat → Nat) (y : Hs) (d : Nat → Nat) (w : World) (hE : HisE w ha hA hC y) (hP : HisP w X ha hc y d) (h4 : y.n ≤ 4) (hl : ∀ i, i < y.n → y.l i ≤ 200) (hd : ∀ i, d i ≤ y.l i) :
  Calls Tryz.prog 120 #[.pointer (some ⟨X, 4, none⟩)] w fun e w' => e = .returned (.bool (qB (y.All d))) ∧ Below w.heap.size w w' := by
 have HE : Hid (HisE w ha hA hC y) := hE
 have HP : Hid (HisP w X ha hc y d) := hP
 have HH : Hid ((∀ i, i < y.n → y.l i ≤ 200) ∧ ∀ i, d i ≤ y.l i) := ⟨hl, hd⟩
 have hn : (y.n : Int) ≤ 4 := by omega
 obtain ⟨c4, -, -, -⟩ := hP
 clear hE hl hd
 go_enter Tryz.func120, Tryz.ntmps120
 go_wp2_with fail
 clear c4
 go_loopw [10] (fun i wr => ∃ k : Nat, k ≤ y.n ∧ i = .int .i64 k ∧ Below w.heap.size w wr ∧ Hid (∀ j, j < k → d j = y.l j)) (fun i _ => y.n - (intOf i).toNat)
 case atStart => exact ⟨0, Nat.zero_le _, rfl, Below.refl _ _, fun j hj => by omega⟩
 case round =>
  obtain ⟨k, hk, rfl, hbw, HZ⟩ := hrel
  by_cases hlt : k < y.n
  ·have hlt' : (k : Int) < (y.n : Int) := by omega
   have hk4 : (k : Int) < 4 := by omega
   obtain ⟨bh, oh, eh, ch⟩ := (HE.out.below hbw).row.at hlt
   have pk := (HP.out.below hbw).pt k (by omega)
   have hd' : (d k : Int) ≤ (y.l k : Int) := by have := HH.out.2 k; omega
   rw [eh]
   by_cases hs : d k < y.l k
   ·have hs' : (d k : Int) < (y.l k : Int) := by omega
    have HN : Hid (qB (y.All d) = false) := qB_false fun h => by have := h k hlt; omega
    clear HZ
    go_wp2
    go_ret
    rw [HN.out]
    exact ⟨rfl, hbw⟩
   ·have hs' : ¬ (d k : Int) < (y.l k : Int) := by omega
    have HZ' : Hid (∀ j, j < k + 1 → d j = y.l j) := fun j hj => by
     by_cases e : j = k
     ·subst e
      omega
     ·exact HZ.out j (by omega)
    clear HZ
    go_wp2
    go_roundw
    case rel => exact ⟨k + 1, by omega, by go_num, hbw, HZ'.out⟩
    case measure => simp [intOf]; omega
  ·have HN : Hid (qB (y.All d) = true) := qB_true fun p hp => HZ.out p (by omega)
   clear HZ
   go_wp2
   go_ret
   rw [HN.out]
   exact ⟨rfl, hbw⟩
end Go.Proofs.YtbleeedbiipfnaaGreatDoor
