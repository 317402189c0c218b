/- Rows of one's own: made, appended to, marked, held. -/
import Derived.Test.YthdaejgmfognbaaGreatDoorXd0
import Derived.Test.YthdaejgmfognbaaGreatDoorXd37
import Derived.Test.YthdaejgmfognbaaGreatDoorXd31
import Derived.Test.YthdaejgmfognbaaGreatDoorXd15
import Derived.Test.YthdaejgmfognbaaGreatDoorXd16
namespace Go.Proofs.YthdaejgmfognbaaGreatDoor
set_option maxRecDepth 100000
set_option maxHeartbeats 4000000
open Go.ChangeShapes Go.WideShapes Go.ChangeAt Go.RowKit Go.Deep Go.Sort
theorem sumL_all {d l : Nat -> Nat} (h : ∀ i, d i <= l i) (n : Nat) (e : sumL d n = sumL l n) (p : Nat) (hp : p < n) : d p = l p := by
 induction n with
 | zero => omega
 | succ n ih =>
  have h1 := sumL_le h n
  have h2 := h n
  have e' : sumL d n + d n = sumL l n + l n := e
  by_cases hpn : p = n
  ·subst hpn
   omega
  ·exact ih (by omega) (by omega)
structure OrdB (w : World) (D n : Nat) (d : Nat -> Nat) : Prop where
 c : ∀ i, i < n -> w.cell? ⟨D, i, none⟩ = some (.int .i64 (d i))
 fr : ∀ j, w.frozen? ⟨D, j, none⟩ = false
theorem OrdB.blk {w w' : World} {D n : Nat} {d : Nat -> Nat} (h : OrdB w D n d) (hb : w'.heap[D]? = w.heap[D]?) : OrdB w' D n d := ⟨fun i hi => (zH hb).trans (h.c i hi), fun j => (zI hb).trans (h.fr j)⟩
theorem OrdB.put {w : World} {D n k : Nat} {d : Nat -> Nat} (h : OrdB w D n d) (hk : k < n) : OrdB (w.setCell ⟨D, k, none⟩ (.int .i64 ((d k : Int) + 1))) D n (up d k) := by
 refine ⟨fun i hi => ?_, fun j => by rw [World.frozen?_setCell]; exact h.fr j⟩
 by_cases e : i = k
 ·subst e
  rw [World.cell?_setCell_same' _ _ _ (by rw [h.c i hi]; rfl), up_same]
  rfl
 ·rw [World.cell?_setCell_other _ _ _ _ (by intro e'; injection e' with _ e'; exact e e'.symm), up_other e]
  exact h.c i hi
structure Od (w wr : World) (B D : Nat) (ha : Option Addr) (hc : Nat) (y : Hs) (d : Nat -> Nat) : Prop where
 pu : y.Put d
 od : OrdB wr D y.n d
 bx : wr.cell? ⟨B, 3, none⟩ = some (.slice ha y.n hc)
 be : Below w.heap.size w wr
theorem Od.below {w wr w' : World} {B D : Nat} {ha : Option Addr} {hc : Nat} {y : Hs} {d : Nat -> Nat} (h : Od w wr B D ha hc y d) (hb : Below wr.heap.size wr w') (hD : D < wr.heap.size) : Od w w' B D ha hc y d :=
 ⟨h.pu, h.od.blk (hb.block D hD), (hb.cell (p := ⟨B, 3, none⟩) (zJ wr _ h.bx)).trans h.bx, h.be.trans (hb.mono h.be.size)⟩
theorem Od.set {w wr : World} {B D k : Nat} {ha : Option Addr} {hc : Nat} {y : Hs} {d : Nat -> Nat} (h : Od w wr B D ha hc y d) (hk : k < y.n) (hcan : y.Can d k) (hBD : B ≠ D) (hw : w.heap.size <= D) : Od w (wr.setCell ⟨D, k, none⟩ (.int .i64 ((d k : Int) + 1))) B D ha hc y (up d k) :=
 ⟨.next h.pu hk hcan, h.od.put hk, (World.cell?_setCell_other _ _ _ _ (by intro e; injection e with e; exact hBD e.symm)).trans h.bx, h.be.setCell hw _⟩
theorem madeInt_cell (w : World) (n i : Nat) (hi : i < n) : (w.alloc (.cells (madeCells #[.int .i64 0] n) 3)).cell? ⟨w.heap.size, i, none⟩ = some (.int .i64 0) := by
 rw [zV _ _ _ i rfl]
 simp [madeCells, hi, Nat.mod_one]
theorem slice_to (a : Option Addr) (len cap h : Nat) (hh : h <= cap) (w : World) : (Instr.slice 41 (.slice a len cap) none (some (.int .i64 (h : Int))) none).run Tryz.prog w = .ok (.slice a h cap) w := by
 have hh' : (h : Int) <= (cap : Int) := by omega
 cases a with
 | none => simp [go_sem, sliced, hh']
 | some a => simp [go_sem, sliced, hh']
theorem l4Order_any (pa : Option Addr) (pn pc : Nat) (sa : Option Addr) (sn sc : Nat) (wa : Option Addr) (wn wc : Nat) (ha : Option Addr) (hc : Nat) (hA : Nat -> Option Addr) (hC : Nat -> Nat) (y : Hs) (w : World) (hE : HisE w ha hA hC y) (hcap : ∀ i, i < y.n -> y.l i <= hC i) (h1 : 1 <= y.n) (h4 : y.n <= 4) (hp : y.Peers) (hl : ∀ i, i < y.n -> y.l i <= 200) :
  Calls Tryz.prog 63 #[sysV pa pn pc sa sn sc wa wn wc ha y.n hc] w fun e w' => e = .returned (.bool (qB y.Row)) /\ Below w.heap.size w w' := by
 have HE : Hid (HisE w ha hA hC y) := hE
 have HH : Hid (y.Peers /\ (∀ i, i < y.n -> y.l i <= 200) /\ (∀ i, i < y.n -> y.l i <= hC i)) := ⟨hp, hl, hcap⟩
 have hn4 : (y.n : Int) <= 4 := by omega
 have hmk : ∀ wx : World, (Instr.makeSlice 30 (.int .i64 (y.n : Int)) (.int .i64 (y.n : Int))).run Tryz.prog wx = .ok (.slice (some ⟨wx.heap.size, 0, none⟩) y.n y.n) (wx.alloc (.cells (madeCells #[.int .i64 0] y.n) 3)) := fun wx => run_make_int y.n (by omega) wx
 have HOd : Hid (Od w ((w.alloc (oQ4 pa pn pc sa sn sc wa wn wc ha y.n hc)).alloc (.cells (madeCells #[.int .i64 0] y.n) 3)) w.heap.size (w.heap.size + 1) ha hc y (fun _ => 0)) := by
  refine ⟨.start, ⟨fun i hi => ?_, fun j => yA _ _ _ _ (by simp)⟩, ?_, (zS _ _).trans ((zS _ _).mono (by simp))⟩
  ·have := madeInt_cell (w.alloc (oQ4 pa pn pc sa sn sc wa wn wc ha y.n hc)) y.n i hi
   rw [World.size_alloc] at this
   exact this
  ·exact ((BoxC.new w _ _ _ _ _).below (zS _ _)).2.2.2
 have HD : Hid (w.heap.size + 1 < ((w.alloc (oQ4 pa pn pc sa sn sc wa wn wc ha y.n hc)).alloc (.cells (madeCells #[.int .i64 0] y.n) 3)).heap.size) := by
  show w.heap.size + 1 < _
  simp
 clear hE hp hl hcap
 go_enter Tryz.func63, Tryz.ntmps63
 go_wp2_with fail
 generalize (w.alloc (oQ4 pa pn pc sa sn sc wa wn wc ha y.n hc)).alloc (.cells (madeCells #[.int .i64 0] y.n) 3) = W1 at *
 generalize hD : w.heap.size + 1 = D at *
 have HDW : Hid (w.heap.size + 1 = D) := hD
 clear hmk hD
 go_loopw [6, 7] (fun s i wr => ∃ k : Nat, k <= y.n /\ i = .int .i64 k /\ s = .int .i64 (sumL y.l k : Nat) /\ wr = W1) (fun _ i _ => y.n - (intOf i).toNat)
 case atStart => exact ⟨0, Nat.zero_le _, rfl, rfl, rfl⟩
 case round =>
  obtain ⟨k, hk, rfl, rfl, rfl⟩ := hrel
  have hsum : sumL y.l k <= 200 * k := by
   have : ∀ j, j <= y.n -> sumL y.l j <= 200 * j := by
    intro j
    induction j with
    | zero => exact fun _ => Nat.le_refl _
    | succ j ih =>
     intro hj
     have h5 := ih (by omega)
     have h6 := HH.out.2.1 j (by omega)
     show sumL y.l j + y.l j <= 200 * (j + 1)
     omega
   exact this k hk
  have hsum' : ((sumL y.l k : Nat) : Int) <= 1000 := by omega
  have b3 := HOd.out.bx
  by_cases hlt : k < y.n
  ·have hlt' : (k : Int) < (y.n : Int) := by omega
   obtain ⟨bh, oh, eh, ch⟩ := (HE.out.below HOd.out.be).row.at hlt
   rw [eh] at b3
   have hl2 : (y.l k : Int) <= 200 := by have := HH.out.2.1 k hlt; omega
   clear hsum
   go_wp2
   go_roundw
   case rel => exact ⟨k + 1, by omega, by go_num, by simp only [sumL]; congr 1, by first | rfl | trivial⟩
   case measure => simp [intOf]; omega
  ·have hkn : k = y.n := by omega
   subst hkn
   clear hlt hk hsum b3
   have hlt' : ¬ ((y.n : Int) < (y.n : Int)) := by omega
   have hsumI : ∀ d : Nat -> Nat, y.Put d -> ((sumL y.l y.n : Nat) : Int) - ((sumL d y.n : Nat) : Int) = ((sumL y.l y.n - sumL d y.n : Nat) : Int) := fun d hd => by
    have := sumL_le hd.le y.n
    omega
   have HSI : Hid (∀ d : Nat -> Nat, y.Put d -> ((sumL y.l y.n : Nat) : Int) - ((sumL d y.n : Nat) : Int) = ((sumL y.l y.n - sumL d y.n : Nat) : Int)) := hsumI
   have HSM : Hid (((sumL y.l y.n : Nat) : Int) <= 1000) := hsum'
   clear hsumI hsum'
   go_wp2_with fail
   go_loopg [5, 6] (2 * (sumL y.l y.n) + 1) (fun gn m s wr => ∃ (t : Bool) (d : Nat -> Nat), m = .bool t /\ s = .int .i64 ((sumL y.l y.n - sumL d y.n : Nat) : Int) /\ gn = 2 * (sumL y.l y.n - sumL d y.n) + (if t = true then 1 else 0) /\ Hid (Od w wr w.heap.size D ha hc y d /\ D < wr.heap.size /\ (t = false -> ∀ p, p < y.n -> ¬ y.Can d p)))
   case atStart => exact ⟨true, fun _ => 0, rfl, by rw [sumL_zero]; rfl, by rw [sumL_zero]; rfl, HOd.out, HD.out, fun h => by cases h⟩
   case round =>
    clear HOd HD
    obtain ⟨t, d, rfl, rfl, hgn, HI⟩ := hrel
    rcases zK t with rfl | rfl
    ·have HGN : Hid (gk = 2 * (sumL y.l y.n - sumL d y.n) + 1) := hgn
     clear hgn
     go_wp2_with fail
     go_loopw [5, 6, 8] (fun m s i wr => ∃ (k : Nat) (t' : Bool) (d' : Nat -> Nat), k <= y.n /\ i = .int .i64 k /\ m = .bool t' /\ s = .int .i64 ((sumL y.l y.n - sumL d' y.n : Nat) : Int) /\ Hid (Od w wr w.heap.size D ha hc y d' /\ D < wr.heap.size /\ (t' = true -> sumL d y.n < sumL d' y.n) /\ (t' = false -> d' = d /\ ∀ p, p < k -> ¬ y.Can d p))) (fun _ _ i _ => y.n - (intOf i).toNat)
     case atStart => exact ⟨0, false, d, Nat.zero_le _, rfl, rfl, rfl, HI.out.1, HI.out.2.1, (fun h => by cases h), fun _ => ⟨rfl, fun p hp => by omega⟩⟩
     case round =>
      clear HI
      obtain ⟨k, t', d', hk, rfl, rfl, rfl, HJ⟩ := hrel
      by_cases hlt : k < y.n
      ·have hlt' : (k : Int) < (y.n : Int) := by omega
       have hdk : d' k <= y.l k := HJ.out.1.pu.le k
       have hl2 : (y.l k : Int) <= 200 := by have := HH.out.2.1 k hlt; omega
       have dk := HJ.out.1.od.c k hlt
       have b3 := HJ.out.1.bx
       obtain ⟨bh, oh, eh, ch⟩ := (HE.out.below HJ.out.1.be).row.at hlt
       rw [eh] at b3
       by_cases he : d' k = y.l k
       ·have HNo : Hid (¬ y.Can d' k) := fun h => by have := h.1; omega
        have HJ' : ∀ nq, Hid (Od w (wr.drewN nq) w.heap.size D ha hc y d' ∧ D < (wr.drewN nq).heap.size ∧ (t' = true → sumL d y.n < sumL d' y.n) ∧ (t' = false → d' = d ∧ ∀ p, p < k + 1 → ¬ y.Can d p)) := fun nq => ⟨HJ.out.1.below (yB (Below.refl _ _) _) HJ.out.2.1, HJ.out.2.1, HJ.out.2.2.1, fun h => ⟨(HJ.out.2.2.2 h).1, fun p hp => by
         have h5 := HJ.out.2.2.2 h
         by_cases e : p = k
         ·subst e
          rw [<- h5.1]
          exact HNo.out
         ·exact h5.2 p (by omega)⟩⟩
        rw [he] at dk
        have HJQ : Hid (∀ nq, Hid (Od w (wr.drewN nq) w.heap.size D ha hc y d' /\ D < (wr.drewN nq).heap.size /\ (t' = true -> sumL d y.n < sumL d' y.n) /\ (t' = false -> d' = d /\ ∀ p, p < k + 1 -> ¬ y.Can d p))) := HJ'
        clear HJ HJ' he hdk
        go_wp2_with fail
        go_quiet (fail)
        go_wp2
        go_roundw
        case rel => exact ⟨k + 1, t', d', by omega, by go_num, rfl, rfl, HJQ.out _⟩
        case measure => simp [intOf]; omega
       ·have hkl : d' k < y.l k := by omega
        have hkl' : (d' k : Int) < (y.l k : Int) := by omega
        have hne : ((d' k : Int) == (y.l k : Int)) = false := by
         have : ¬ (d' k : Int) = (y.l k : Int) := by omega
         simpa using this
        clear he hdk
        go_wp2_with fail
        go_quiet (fail)
        go_wp2_with fail
        have OD : Hid (Od w (wr.drewN nq) w.heap.size D ha hc y d' /\ D < (wr.drewN nq).heap.size /\ (t' = true -> sumL d y.n < sumL d' y.n) /\ (t' = false -> d' = d /\ ∀ p, p < k -> ¬ y.Can d p)) := ⟨HJ.out.1.below (yB (Below.refl _ _) _) HJ.out.2.1, HJ.out.2.1, HJ.out.2.2⟩
        clear HJ dk b3 ch
        generalize wr.drewN nq = wd at *
        have dk := OD.out.1.od.c k hlt
        have b3 := OD.out.1.bx
        obtain ⟨bh', oh', eh', ch⟩ := (HE.out.below OD.out.1.be).row.at hlt
        rw [eh'] at b3
        obtain ⟨b, off, ea, zb, e0, e1, e2⟩ := ((HE.out.below OD.out.1.be).ev k hlt).at hkl
        rw [ea] at ch
        have n1 : wd.heap.size ≠ D := by have := OD.out.2.1; omega
        have n2 : wd.heap.size ≠ b := by omega
        have n3 : wd.heap.size ≠ bh' := by have := zJ wd _ ch; simp at this; omega
        have dk' := cell_allocs dk
        have b3' := cell_allocs b3
        have ch' := cell_allocs ch
        have e0' := cell_allocs e0
        have e1' := cell_allocs e1
        have e2' := cell_allocs e2
        clear zb
        go_region
        all_goals
         have OZ : Hid (Od w (wd.alloc (oQ0 (y.e k (d' k)).k (y.e k (d' k)).q (y.e k (d' k)).v)).drew w.heap.size D ha hc y d' /\ D < (wd.alloc (oQ0 (y.e k (d' k)).k (y.e k (d' k)).q (y.e k (d' k)).v)).drew.heap.size /\ (t' = true -> sumL d y.n < sumL d' y.n) /\ (t' = false -> d' = d /\ ∀ p, p < k -> ¬ y.Can d p)) := ⟨OD.out.1.below (zS _ _).drew OD.out.2.1, zL OD.out.2.1 (zS _ _).drew.size, OD.out.2.2⟩
         have z0 : (wd.alloc (oQ0 (y.e k (d' k)).k (y.e k (d' k)).q (y.e k (d' k)).v)).drew.cell? ⟨wd.heap.size, 0, none⟩ = some (.int .i64 (y.e k (d' k)).k) := zV wd _ _ 0 rfl
         have z1 : (wd.alloc (oQ0 (y.e k (d' k)).k (y.e k (d' k)).q (y.e k (d' k)).v)).drew.cell? ⟨wd.heap.size, 1, none⟩ = some (.int .i64 (y.e k (d' k)).q) := zV wd _ _ 1 rfl
         go_wp2_with fail
         clear dk b3 ch e0 e1 e2 dk' b3' ch' e0' e1' e2' n1 n2 n3 OD eh eh' ea
         generalize (wd.alloc (oQ0 (y.e k (d' k)).k (y.e k (d' k)).q (y.e k (d' k)).v)).drew = wz at *
         generalize wd.heap.size = M at *
         rcases zK ((y.e k (d' k)).k == 3) with t3 | t3
         case inr =>
          have HK3 : Hid (¬ (y.e k (d' k)).k = 3) := by
           show ¬ (y.e k (d' k)).k = 3
           simpa using t3
          go_quiet (fail)
          have OQ : Hid (Od w (wz.drewN nq) w.heap.size D ha hc y d' /\ D < (wz.drewN nq).heap.size /\ (t' = true -> sumL d y.n < sumL d' y.n) /\ (t' = false -> d' = d /\ ∀ p, p < k -> ¬ y.Can d p)) := ⟨OZ.out.1.below (yB (Below.refl _ _) _) OZ.out.2.1, OZ.out.2.1, OZ.out.2.2⟩
          clear z0 z1 OZ
          generalize wz.drewN nq = wq at *
          have HCn : Hid (y.Can d' k) := ⟨hkl, fun h => absurd h HK3.out⟩
          have HPu : Hid (y.Put (up d' k)) := .next OQ.out.1.pu hlt HCn.out
          have hsu := sumL_up (d := d') hlt
          have hsl := sumL_le HPu.out.le y.n
          have HLE : Hid (((sumL y.l y.n - sumL d' y.n : Nat) : Int) - 1 = ((sumL y.l y.n - sumL (up d' k) y.n : Nat) : Int)) := by
           show ((sumL y.l y.n - sumL d' y.n : Nat) : Int) - 1 = ((sumL y.l y.n - sumL (up d' k) y.n : Nat) : Int)
           omega
          have hA1 : ((sumL y.l y.n - sumL d' y.n : Nat) : Int) <= 1000 := by have := HSM.out; omega
          have hA0 : (1 : Int) <= ((sumL y.l y.n - sumL d' y.n : Nat) : Int) := by omega
          have HNx : Hid (Od w (wq.setCell ⟨D, k, none⟩ (.int .i64 ((d' k : Int) + 1))) w.heap.size D ha hc y (up d' k) ∧ D < (wq.setCell ⟨D, k, none⟩ (.int .i64 ((d' k : Int) + 1))).heap.size ∧ (true = true → sumL d y.n < sumL (up d' k) y.n) ∧ (true = false → up d' k = d ∧ ∀ p, p < k + 1 → ¬ y.Can d p)) := ⟨OQ.out.1.set hlt HCn.out (by have := HDW.out; omega) (by have := HDW.out; omega), by simpa [World.setCell] using OQ.out.2.1, (fun _ => by
           rcases zK t' with h5 | h5
           ·have := OQ.out.2.2.1 h5
            omega
           ·have := (OQ.out.2.2.2 h5).1
            rw [this] at hsu ⊢
            omega), (fun h => by cases h)⟩
          have dkq := OQ.out.1.od.c k hlt
          have frq := OQ.out.1.od.fr
          clear hsu hsl OQ
          generalize hAA : ((sumL y.l y.n - sumL d' y.n : Nat) : Int) = AA at *
          clear hAA
          go_wp2
          go_roundw
          case rel => exact ⟨k + 1, true, up d' k, by omega, by go_num, rfl, by rw [HLE.out], HNx.out⟩
          case measure => simp [intOf]; omega
         case inl =>
          have hk3 : (y.e k (d' k)).k = 3 := by simpa using t3
          have HK3 : Hid ((y.e k (d' k)).k = 3) := hk3
          have hq := HH.out.1 k hlt (d' k) hkl
          obtain ⟨q, hqe⟩ : ∃ q : Nat, (y.e k (d' k)).q = (q : Int) := ⟨(y.e k (d' k)).q.toNat, by omega⟩
          have HQE : Hid ((y.e k (d' k)).q = (q : Int)) := hqe
          have hqn : q < y.n := by omega
          have hqn' : (q : Int) < (y.n : Int) := by omega
          rw [hk3] at z0
          rw [hqe] at z1
          have dk := OZ.out.1.od.c k hlt
          have dq := OZ.out.1.od.c q hqn
          have b3 := OZ.out.1.bx
          obtain ⟨bz, oz, ez, ch⟩ := (HE.out.below OZ.out.1.be).row.at hlt
          obtain ⟨bz', oz', ez', cq⟩ := (HE.out.below OZ.out.1.be).row.at hqn
          rw [ez] at b3 ez'
          simp only [Option.some.injEq, Addr.mk.injEq] at ez'
          obtain ⟨rfl, rfl, -⟩ := ez'
          have ks := slice_to (hA k) (y.l k) (hC k) (d' k) (by have := HH.out.2.2 k hlt; omega)
          have qs := slice_to (hA q) (y.l q) (hC q) (d' q) (by have := HH.out.2.2 q hqn; have := OZ.out.1.pu.le q; omega)
          have HCk : Hid (∀ dd os, Calls Tryz.prog 115 #[.slice (hA k) (d' k) (hC k), .int .i64 3, .int .i64 q] (grow (redrawn wz dd) os) fun e w' => e = .returned (.int .i64 (cnt (y.e k) 3 q (d' k) : Nat)) /\ Below (grow (redrawn wz dd) os).heap.size (grow (redrawn wz dd) os) w') := fun dd os => specCount_l (hA k) (d' k) (hC k) (y.e k) 3 q _ (by have := HH.out.2.1 k hlt; omega) (((HE.out.below OZ.out.1.be).below (below_regrown wz dd os)).ev k hlt |>.take (by omega))
          have HCq : Hid (∀ dd os, Calls Tryz.prog 115 #[.slice (hA q) (d' q) (hC q), .int .i64 2, .int .i64 k] (grow (redrawn wz dd) os) fun e w' => e = .returned (.int .i64 (cnt (y.e q) 2 k (d' q) : Nat)) /\ Below (grow (redrawn wz dd) os).heap.size (grow (redrawn wz dd) os) w') := fun dd os => specCount_l (hA q) (d' q) (hC q) (y.e q) 2 k _ (by have := HH.out.2.1 q hqn; have := OZ.out.1.pu.le q; omega) (((HE.out.below OZ.out.1.be).below (below_regrown wz dd os)).ev q hqn |>.take (OZ.out.1.pu.le q))
          have z0' := cell_regrown z0
          have z1' := cell_regrown z1
          have dk' := cell_regrown dk
          have dq' := cell_regrown dq
          have b3' := cell_regrown b3
          have ch' := cell_regrown ch
          have cq' := cell_regrown cq
          clear ez hq hqe hk3 t3
          refine wp_region_quiet_below (by kernel_rfl) (by kernel_rfl) ?_
          repeat (quiet_step (first | (go_at_call_of 115 (hA k); exact Calls.regrown_of (HCk.out _ _)) | (go_at_call_of 115 (hA q); exact Calls.regrown_of (HCq.out _ _))))
          refine wpQuiet_nil ?_
          intro _ hw'
          obtain ⟨⟨dd, os⟩, hw''⟩ := hw'
          subst hw''
          have OQ : Hid (Od w (grow (redrawn wz dd) os) w.heap.size D ha hc y d' /\ D < (grow (redrawn wz dd) os).heap.size /\ (t' = true -> sumL d y.n < sumL d' y.n) /\ (t' = false -> d' = d /\ ∀ p, p < k -> ¬ y.Can d p)) := ⟨OZ.out.1.below (below_regrown wz dd os) OZ.out.2.1, zL OZ.out.2.1 (below_regrown wz dd os).size, OZ.out.2.2⟩
          clear z0' z1' dk' dq' b3' ch' cq' z0 z1 dk dq b3 ch cq ks qs HCk HCq OZ
          generalize grow (redrawn wz dd) os = wq at *
          have HCan : Hid (y.Can d' k ↔ cnt (y.e k) 3 q (d' k) < cnt (y.e q) 2 k (d' q)) := by
           show y.Can d' k ↔ _
           unfold Hs.Can
           rw [HQE.out]
           rw [show ((q : Int)).toNat = q by omega]
           exact ⟨fun h => h.2 HK3.out, fun h => ⟨hkl, fun _ => h⟩⟩
          generalize cnt (y.e k) 3 q (d' k) = c1 at *
          generalize cnt (y.e q) 2 k (d' q) = c2 at *
          by_cases hcc : (c2 : Int) <= (c1 : Int)
          ·have HNo : Hid (¬ y.Can d' k) := fun h => by have := HCan.out.1 h; omega
           have HJ2 : Hid (Od w wq w.heap.size D ha hc y d' ∧ D < wq.heap.size ∧ (t' = true → sumL d y.n < sumL d' y.n) ∧ (t' = false → d' = d ∧ ∀ p, p < k + 1 → ¬ y.Can d p)) := ⟨OQ.out.1, OQ.out.2.1, OQ.out.2.2.1, fun h => ⟨(OQ.out.2.2.2 h).1, fun p hp => by
            have h5 := OQ.out.2.2.2 h
            by_cases e : p = k
            ·subst e
             rw [<- h5.1]
             exact HNo.out
            ·exact h5.2 p (by omega)⟩⟩
           clear OQ HCan
           go_wp2
           go_roundw
           case rel => exact ⟨k + 1, t', d', by omega, by go_num, rfl, rfl, HJ2.out⟩
           case measure => simp [intOf]; omega
          ·have HCx : Hid (y.Can d' k) := HCan.out.2 (by omega)
           clear HCan
           have HCn : Hid (y.Can d' k) := HCx.out
           have HPu : Hid (y.Put (up d' k)) := .next OQ.out.1.pu hlt HCn.out
           have hsu := sumL_up (d := d') hlt
           have hsl := sumL_le HPu.out.le y.n
           have HLE : Hid (((sumL y.l y.n - sumL d' y.n : Nat) : Int) - 1 = ((sumL y.l y.n - sumL (up d' k) y.n : Nat) : Int)) := by
            show ((sumL y.l y.n - sumL d' y.n : Nat) : Int) - 1 = ((sumL y.l y.n - sumL (up d' k) y.n : Nat) : Int)
            omega
           have hA1 : ((sumL y.l y.n - sumL d' y.n : Nat) : Int) <= 1000 := by have := HSM.out; omega
           have hA0 : (1 : Int) <= ((sumL y.l y.n - sumL d' y.n : Nat) : Int) := by omega
           have HNx : Hid (Od w (wq.setCell ⟨D, k, none⟩ (.int .i64 ((d' k : Int) + 1))) w.heap.size D ha hc y (up d' k) ∧ D < (wq.setCell ⟨D, k, none⟩ (.int .i64 ((d' k : Int) + 1))).heap.size ∧ (true = true → sumL d y.n < sumL (up d' k) y.n) ∧ (true = false → up d' k = d ∧ ∀ p, p < k + 1 → ¬ y.Can d p)) := ⟨OQ.out.1.set hlt HCn.out (by have := HDW.out; omega) (by have := HDW.out; omega), by simpa [World.setCell] using OQ.out.2.1, (fun _ => by
            rcases zK t' with h5 | h5
            ·have := OQ.out.2.2.1 h5
             omega
            ·have := (OQ.out.2.2.2 h5).1
             rw [this] at hsu ⊢
             omega), (fun h => by cases h)⟩
           have dkq := OQ.out.1.od.c k hlt
           have frq := OQ.out.1.od.fr
           clear hsu hsl OQ
           generalize hAA : ((sumL y.l y.n - sumL d' y.n : Nat) : Int) = AA at *
           clear hAA
           go_wp2
           go_roundw
           case rel => exact ⟨k + 1, true, up d' k, by omega, by go_num, rfl, by rw [HLE.out], HNx.out⟩
           case measure => simp [intOf]; omega
      ·have hkn : k = y.n := by omega
       subst hkn
       have HF : Hid (2 * (sumL y.l y.n - sumL d' y.n) + (if t' = true then 1 else 0) < gk) := by
        have h2 := HGN.out
        have h3 := sumL_le HJ.out.1.pu.le y.n
        show _ < gk
        cases t' with
        | true =>
         have h4 := HJ.out.2.2.1 rfl
         simp only [if_true]
         omega
        | false =>
         have h4 := (HJ.out.2.2.2 rfl).1
         rw [h4]
         simp only [Bool.false_eq_true, if_false]
         omega
       have HG2 : Hid (Od w wr w.heap.size D ha hc y d' ∧ D < wr.heap.size ∧ (t' = false → ∀ p, p < y.n → ¬ y.Can d' p)) := ⟨HJ.out.1, HJ.out.2.1, fun h p hp => by
        have := HJ.out.2.2.2 h
        rw [this.1]
        exact this.2 p hp⟩
       clear HJ
       go_wp2
       go_roundg (2 * (sumL y.l y.n - sumL d' y.n) + (if t' = true then 1 else 0))
       case measure => exact HF.out
       case rel => exact ⟨t', d', rfl, rfl, rfl, HG2.out⟩
    ·have HR : Hid ((((sumL y.l y.n - sumL d y.n : Nat) : Int) == 0) = qB y.Row) := by
      show (((sumL y.l y.n - sumL d y.n : Nat) : Int) == 0) = qB y.Row
      have hi := Hs.row_iff HI.out.1.pu HH.out.1 (HI.out.2.2 rfl)
      have hle := HI.out.1.pu.le
      by_cases hr : y.Row
      ·have : sumL d y.n = sumL y.l y.n := sumL_same fun i hi' => hi.1 hr i hi'
       rw [qB_true hr, this]
       simp
      ·rw [qB_false hr]
       have : sumL y.l y.n - sumL d y.n ≠ 0 := fun e => hr (hi.2 (sumL_all hle _ (by have := sumL_le hle y.n; omega)))
       have h2 : ((sumL y.l y.n - sumL d y.n : Nat) : Int) ≠ 0 := by omega
       simpa using h2
     have HB : Hid (Below w.heap.size w wr) := HI.out.1.be
     clear HI hgn
     go_wp2
     go_ret
     rw [HR.out]
     exact ⟨rfl, HB.out⟩
structure Wo2 where
 m : Int
 v : Int
abbrev woV (m v : Int) : Value := .agg #[.int .i64 m, .int .i64 v]
def WoAt (w : World) (b off len : Nat) (h : Nat -> Wo2) : Prop := ∀ i, i < len ->
 w.cell? ⟨b, off + i * 2, none⟩ = some (.int .i64 (h i).m) /\ w.cell? ⟨b, off + i * 2 + 1, none⟩ = some (.int .i64 (h i).v)
theorem WoAt.below {w w' : World} {B b off len : Nat} {h : Nat -> Wo2} (hh : WoAt w b off len h) (hb : Below B w w') (hB : b < B) : WoAt w' b off len h := by
 intro i hi
 obtain ⟨h0, h1⟩ := hh i hi
 exact ⟨(hb.cell hB).trans h0, (hb.cell hB).trans h1⟩
theorem infoWo : (Tryz.prog.info? 43).map (fun i => (i.zero, i.size, i.bytes)) = some (some (woV 0 0), 2, 16) := by kernel_rfl
theorem run_make_wo (n : Nat) (hn : n <= 1048576) (w : World) :
  (Instr.makeSlice 38 (.int .i64 (n : Int)) (.int .i64 (n : Int))).run Tryz.prog w = .ok (.slice (some ⟨w.heap.size, 0, none⟩) n n) (w.alloc (.cells (madeCells (woV 0 0).cells (n * 2)) 43)) := by
 have hinfo := infoWo
 cases hi : Tryz.prog.info? 43 with
 | none => rw [hi] at hinfo; cases hinfo
 | some i =>
  rw [hi] at hinfo
  simp only [Option.map_some, Option.some.injEq, Prod.mk.injEq] at hinfo
  obtain ⟨hz, hs, hb⟩ := hinfo
  have h := run_make (P := Tryz.prog) w 38 43 i _ Tryz.underlying38 hi hz .i64 .i64 (n : Int) (n : Int) (by omega) (Int.le_refl _) (by rw [hb]; omega) (by omega)
  rw [hs] at h
  simpa using h
theorem madeWo_row (w : World) (n : Nat) : (w.alloc (.cells (madeCells (woV 0 0).cells (n * 2)) 43)).rowIs w.heap.size 43 (n * 2) (fun i => if i % 2 = 0 then .int .i64 0 else .int .i64 0) := by
 refine ⟨_, blk_alloc_new _ _, size_madeCells _ _, fun i hi => ?_⟩
 have h3 : i % 2 < 2 := Nat.mod_lt _ (by omega)
 have : ∀ j, j < 2 -> (#[Value.int .i64 0, .int .i64 0] : Array Value)[j]! = if j = 0 then .int .i64 0 else .int .i64 0 := by
  intro j hj
  match j, hj with
  | 0, _ => rfl
  | 1, _ => rfl
 simp only [madeCells, Value.cells]
 rw [Array.getElem?_map, Array.getElem?_range, if_pos hi]
 exact congrArg some (this (i % 2) h3)
def FilledWo (f : Nat -> Value) (h : Nat -> Wo2) (k : Nat) : Prop := ∀ i, i < k ->
 f (i * 2) = .int .i64 (h i).m /\ f (i * 2 + 1) = .int .i64 (h i).v
theorem FilledWo.at {w : World} {b : Nat} {t : TypeId} {len k : Nat} {f : Nat -> Value} {h : Nat -> Wo2} (hh : FilledWo f h k) (hr : w.rowIs b t (len * 2) f) (hk : k <= len) : WoAt w b 0 k h := by
 intro i hi
 obtain ⟨h0, h1⟩ := hh i hi
 refine ⟨?_, ?_⟩
 ·rw [hr.cell (by omega), Nat.zero_add, h0]
 ·rw [hr.cell (by omega), Nat.zero_add, h1]
theorem FilledWo.step {w : World} {b : Nat} {t : TypeId} {len k : Nat} {f : Nat -> Value} {h : Nat -> Wo2} (hr : w.rowIs b t (len * 2) f) (hh : FilledWo f h k) :
  ∃ f', ((w.setCell ⟨b, k * 2, none⟩ (.int .i64 (h k).m)).setCell ⟨b, k * 2 + 1, none⟩ (.int .i64 (h k).v)).rowIs b t (len * 2) f' /\ FilledWo f' h (k + 1) := by
 refine ⟨_, (hr.set _ _).set _ _, fun i hi => ?_⟩
 by_cases hik : i = k
 ·subst hik
  simp
 ·have hlt : i < k := by omega
  obtain ⟨h0, h1⟩ := hh i hlt
  refine ⟨?_, ?_⟩
  ·rw [if_neg (by omega), if_neg (by omega)]; exact h0
  ·rw [if_neg (by omega), if_neg (by omega)]; exact h1
theorem toWho_any (m v : Int) (w : World) :
  Calls Tryz.prog 89 #[woV m v] w fun e w' => e = .returned (woV m v) /\ Below w.heap.size w w' := by
 go_enter Tryz.func89, Tryz.ntmps89
 go_wp2
 refine bodyPost_ret (v := woV m v) (by simp [results, Tryz.results89, go_sem]) rfl ⟨rfl, ?_⟩
 go_grown
theorem eqWho_same (m v : Int) (w : World) :
  Calls Tryz.prog 80 #[woV m v, woV m v] w fun e w' => e = .returned (.bool true) /\ Below w.heap.size w w' := by
 go_enter Tryz.func80, Tryz.ntmps80
 go_wp2
 go_ret
 exact ⟨rfl, by go_grown⟩
theorem szWhoS_small (a0 : Option Addr) (len cap : Nat) (L : Int) (w : World) (h : (len : Int) <= L) (hL : L <= 1048576) :
  Calls Tryz.prog 36 #[.slice a0 len cap, .int .i64 L] w fun e w' => e = .returned (.int .i64 (L - (len : Int))) /\ w' = w := by
 have h1 : (len : Int) <= 1048576 := by omega
 have h2 : 0 <= L := by omega
 have h3 : ¬ (L - (len : Int) < 0) := by omega
 go_enter Tryz.func36, Tryz.ntmps36
 go_wp2
 go_ret
 exact ⟨rfl, rfl⟩
theorem szWhoS_great (a0 : Option Addr) (len cap : Nat) (L : Int) (w : World) (h : L < (len : Int)) (h0 : 0 <= L) (hL : L <= 1048576) (hm : len <= maxLen) :
  Calls Tryz.prog 36 #[.slice a0 len cap, .int .i64 L] w fun e w' => e = .returned (.int .i64 (-1)) /\ w' = w := by
 unfold maxLen at hm
 have h2 : (len : Int) <= 9223372036854775807 := by omega
 have h3 : L - (len : Int) < 0 := by omega
 go_enter Tryz.func36, Tryz.ntmps36
 go_wp2
 go_ret
 exact ⟨rfl, rfl⟩
theorem toWhoS_free (b off len cap : Nat) (h : Nat -> Wo2) (w : World) (hlen : len <= 1048576) (hb : b < w.heap.size) (hc : WoAt w b off len h) :
  Calls Tryz.prog 38 #[.slice (some ⟨b, off, none⟩) len cap] w fun e w' => e = .returned (.slice (some ⟨w.heap.size, 0, none⟩) len len) /\ WoAt w' w.heap.size 0 len h /\ w.heap.size < w'.heap.size /\ Below w.heap.size w w' /\ ∀ j, w'.frozen? ⟨w.heap.size, j, none⟩ = false := by
 have hl' : (len : Int) <= 1048576 := by omega
 have hmk := run_make_wo len hlen
 have HC : Hid (WoAt w b off len h) := hc
 clear hc
 go_enter Tryz.func38, Tryz.ntmps38
 go_wp2_with fail
 clear hmk
 go_loopw [4] (fun i wr => ∃ k : Nat, k <= len /\ i = .int .i64 k /\ (∃ f, wr.rowIs w.heap.size 43 (len * 2) f /\ Hid (FilledWo f h k)) /\ Below w.heap.size w wr) (fun i _ => len - (intOf i).toNat)
 case atStart => exact ⟨0, Nat.zero_le _, rfl, ⟨_, madeWo_row w len, fun i hi => by omega⟩, (Below.refl _ _).alloc (Nat.le_refl _) _⟩
 case round =>
  obtain ⟨k, hk, rfl, ⟨f, hrow, HF⟩, hbw⟩ := hrel
  have hs := hrow.lt
  by_cases hlt : k < len
  ·obtain ⟨c0, c1⟩ := HC.out.below hbw hb k hlt
   have HR : Hid (wr.rowIs w.heap.size 43 (len * 2) f) := hrow
   clear hrow
   go_wp2_with fail
   refine (toWho_any _ _ _).mono ?_
   rintro e w1 ⟨rfl, hb1⟩
   have hr1 : w1.rowIs w.heap.size 43 (len * 2) f := HR.out.of_block (hb1.block _ hs)
   have f0 := hr1.frozen (k * 2)
   have f1 := hr1.frozen (k * 2 + 1)
   have g0 := hr1.cell (i := k * 2) (by omega)
   have g1 := hr1.cell (i := k * 2 + 1) (by omega)
   have HR1 : Hid (w1.rowIs w.heap.size 43 (len * 2) f) := hr1
   clear hr1
   go_wp2_with fail
   exact ⟨⟨k + 1, by omega, by go_num, FilledWo.step HR1.out HF.out, ((hbw.trans (hb1.mono (Nat.le_of_lt hs))).setCell (Nat.le_refl _) _).setCell (Nat.le_refl _) _⟩, by simp [intOf]; omega⟩
  ·have hkl : k = len := by omega
   have HI : Hid (WoAt wr w.heap.size 0 len h) := by
    have := HF.out.at hrow hk
    rw [hkl] at this
    exact this
   have HZ : Hid (∀ j, wr.frozen? ⟨w.heap.size, j, none⟩ = false) := fun j => hrow.frozen j
   clear hkl HF hrow
   go_wp2
   go_ret
   exact ⟨rfl, HI.out, hs, hbw, HZ.out⟩
theorem toWhoS_freeEmpty (a0 : Option Addr) (cap : Nat) (h : Nat -> Wo2) (w : World) :
  Calls Tryz.prog 38 #[.slice a0 0 cap] w fun e w' => e = .returned (.slice (some ⟨w.heap.size, 0, none⟩) 0 0) /\ WoAt w' w.heap.size 0 0 h /\ w.heap.size < w'.heap.size /\ Below w.heap.size w w' /\ ∀ j, w'.frozen? ⟨w.heap.size, j, none⟩ = false := by
 have hmk : ∀ w : World, (Instr.makeSlice 38 (.int .i64 0) (.int .i64 0)).run Tryz.prog w = .ok (.slice (some ⟨w.heap.size, 0, none⟩) 0 0) (w.alloc (.cells (madeCells (woV 0 0).cells (0 * 2)) 43)) := fun w => run_make_wo 0 (by omega) w
 go_enter Tryz.func38, Tryz.ntmps38
 go_wp2_with fail
 clear hmk
 go_rounds 1
 go_ret
 exact ⟨rfl, fun i hi => by omega, by simp, (Below.refl _ _).alloc (Nat.le_refl _) _, fun j => yA _ _ _ j rfl⟩
def CopiesWo (w : World) (a0 : Option Addr) (len cap : Nat) (h : Nat -> Wo2) : Prop := ∀ wx, Below w.heap.size w wx ->
 Calls Tryz.prog 38 #[.slice a0 len cap] wx fun e w' => e = .returned (.slice (some ⟨wx.heap.size, 0, none⟩) len len) /\ WoAt w' wx.heap.size 0 len h /\ wx.heap.size < w'.heap.size /\ Below wx.heap.size wx w' /\ ∀ j, w'.frozen? ⟨wx.heap.size, j, none⟩ = false
theorem copiesWo_of {W : World} {a0 : Option Addr} {len cap : Nat} (hl : len <= 1048576) (hr : len = 0 \/ ∃ b off h, a0 = some ⟨b, off, none⟩ /\ b < W.heap.size /\ WoAt W b off len h) : ∃ h, CopiesWo W a0 len cap h := by
 rcases hr with rfl | ⟨b, off, h, rfl, hb, hI⟩
 ·exact ⟨fun _ => ⟨0, 0⟩, fun wx _ => toWhoS_freeEmpty a0 cap _ wx⟩
 ·exact ⟨h, fun wx hB => toWhoS_free b off len cap h wx hl (zL hb hB.size) (hI.below hB hb)⟩
theorem eqWhoS_same (b1 b2 len c1 c2 : Nat) (h : Nat -> Wo2) (w : World) (hlen : len <= 1048576) (hb1 : b1 < w.heap.size) (hb2 : b2 < w.heap.size) (hc1 : WoAt w b1 0 len h) (hc2 : WoAt w b2 0 len h) :
  Calls Tryz.prog 31 #[.slice (some ⟨b1, 0, none⟩) len c1, .slice (some ⟨b2, 0, none⟩) len c2] w fun e w' => e = .returned (.bool true) /\ Below w.heap.size w w' := by
 have hl' : (len : Int) <= 1048576 := by omega
 have HC1 : Hid (WoAt w b1 0 len h) := hc1
 have HC2 : Hid (WoAt w b2 0 len h) := hc2
 clear hc1 hc2
 go_enter Tryz.func31, Tryz.ntmps31
 go_wp2_with fail
 go_loopw [5] (fun i wr => ∃ k : Nat, k <= len /\ i = .int .i64 k /\ Below w.heap.size w wr) (fun i _ => len - (intOf i).toNat)
 case atStart => exact ⟨0, Nat.zero_le _, rfl, Below.refl _ _⟩
 case round =>
  obtain ⟨k, hk, rfl, hbw⟩ := hrel
  have hs := hbw.size
  by_cases hlt : k < len
  ·obtain ⟨c0, c1⟩ := HC1.out.below hbw hb1 k hlt
   obtain ⟨d0, d1⟩ := HC2.out.below hbw hb2 k hlt
   have hlt' : (k : Int) < (len : Int) := by omega
   rw [Nat.zero_add] at c0 c1 d0 d1
   go_wp2_with fail
   first | (go_region_with (go_at_call 80; refine (eqWho_same _ _ _).mono ?_; rintro e w1 ⟨rfl, hq1⟩)) | fail
   all_goals
    go_wp2
    go_roundw
    case rel => exact ⟨k + 1, by omega, by go_num, hbw.drew.trans (hq1.mono hs)⟩
    case measure => simp [intOf]; omega
  ·go_wp2
   go_ret
   exact ⟨rfl, hbw⟩
def RoomWo (w : World) (b len : Nat) : Prop := (∀ i, i < len * 2 -> ∃ u, w.cell? ⟨b, i, none⟩ = some u) /\ ∀ j, w.frozen? ⟨b, j, none⟩ = false
theorem RoomWo.set {w : World} {b len : Nat} (h : RoomWo w b len) (p : Addr) (v : Value) : RoomWo (w.setCell p v) b len :=
 ⟨fun i hi => (h.1 i hi).elim fun _ e => cell?_setCell_some e, fun j => by rw [World.frozen?_setCell]; exact h.2 j⟩
theorem RoomWo.of_row {w : World} {b len : Nat} {h : Nat -> Wo2} (hh : WoAt w b 0 len h) (hf : ∀ j, w.frozen? ⟨b, j, none⟩ = false) : RoomWo w b len := by
 refine ⟨fun i hi => ?_, hf⟩
 obtain ⟨c0, c1⟩ := hh (i / 2) (by omega)
 simp only [Nat.zero_add] at c0 c1
 have he : i = i / 2 * 2 \/ i = i / 2 * 2 + 1 := by omega
 rcases he with e | e
 ·rw [e]; exact ⟨_, c0⟩
 ·rw [e]; exact ⟨_, c1⟩
theorem cellsLawWo : Tryz.prog.cellsOf 130 = 2 := by kernel_rfl
theorem open_woCells {H : Type} {enc : TypeId × Value -> H} {w : World} {base fuel : Nat} {spare : Nat -> Bool} {held : Bool} {c0 c1 : Value} {x : DataW H × List MemPlace}
  (hf : DataW.trod enc Tryz.prog w base spare held fuel 130 [c0, c1] = some x) :
  ∃ (m v : Int), c0 = .int .i64 m /\ c1 = .int .i64 v := by
 obtain ⟨xs, m, -, -, -, hl, hx⟩ := DataW.trod_struct Tryz.underlying130 hf
 have hl : xs.length = 2 := hl
 have q0 : DataW.trod enc Tryz.prog w base spare held m 3 [c0] = xs[0]? := by simpa [cellsInt] using hx 0 _ rfl
 have q1 : DataW.trod enc Tryz.prog w base spare held m 3 [c1] = xs[1]? := by simpa [cellsInt] using hx 1 _ rfl
 rw [List.getElem?_eq_getElem (by omega)] at q0 q1
 obtain ⟨z0, e0, -, -⟩ := DataW.trod_int Tryz.underlying3 q0
 obtain ⟨z1, e1, -, -⟩ := DataW.trod_int Tryz.underlying3 q1
 simp only [List.cons.injEq, and_true] at e0 e1
 exact ⟨z0, z1, e0, e1⟩
theorem open_woRow {H : Type} {enc : TypeId × Value -> H} {w : World} {spare : Nat -> Bool} {held : Bool} {base : Nat} {a0 : Option Addr} {len cap : Nat} {d : DataW H} {p : List MemPlace}
  (h : DataW.Trod enc Tryz.prog w base spare held 66 (.slice a0 len cap) d p) :
  len <= maxLen /\ (len = 0 \/ ∃ b off h, a0 = some ⟨b, off, none⟩ /\ b < w.heap.size /\ WoAt w b off len h) := by
 obtain ⟨fuel, hf⟩ := h
 rcases Go.Deep.open_slice Tryz.underlying66 hf with ⟨hcs, _⟩ | ⟨a, len', cap', m, n, D, Pl, hcs, _, hl, hm, hmm, _, hx⟩
 ·simp [Value.cells] at hcs
  obtain ⟨_, rfl, _⟩ := hcs
  exact ⟨Nat.zero_le _, .inl rfl⟩
 ·simp [Value.cells] at hcs
  obtain ⟨rfl, rfl, rfl⟩ := hcs
  refine ⟨zO hl hm, ?_⟩
  by_cases h0 : len = 0
  ·exact .inl h0
  right
  have hle : len <= m := by rw [hmm]; split <;> omega
  rw [cellsLawWo] at hx
  obtain ⟨b, off, spot⟩ := a
  have hcell : ∀ i, i < len -> ∃ x : Wo2, w.cell? (Addr.add (Addr.add ⟨b, off, spot⟩ (i * 2)) 0) = some (.int .i64 x.m) /\ w.cell? (Addr.add (Addr.add ⟨b, off, spot⟩ (i * 2)) 1) = some (.int .i64 x.v) := by
   intro i hi
   obtain ⟨cs', h1, h2⟩ := hx i (by omega)
   obtain ⟨_, hlen, hc⟩ := World.cells?_some h1
   match cs', hlen with
   | [c0, c1], _ =>
    obtain ⟨k, v, rfl, rfl⟩ := open_woCells h2
    exact ⟨⟨k, v⟩, hc 0 (by omega), hc 1 (by omega)⟩
  have hspot : spot = none := by
   obtain ⟨x, hx0, _⟩ := hcell 0 (by omega)
   simpa [Addr.add] using World.cell?_spot hx0
  subst hspot
  have inh : Inhabited Wo2 := ⟨⟨0, 0⟩⟩
  obtain ⟨g, hg⟩ := Go.Deep.choose_lt (α := Wo2) hcell
  have hI : WoAt w b off len g := by
   intro i hi
   obtain ⟨q0, q1⟩ := hg i hi
   rw [addr_addO, addr_addO] at q0 q1
   exact ⟨q0, q1⟩
  exact ⟨b, off, g, rfl, cell_lt (hI 0 (by omega)).1, hI⟩
theorem Sy.Ok.evq {y : Sy} (h : y.Ok) {p i : Nat} (hp : p < y.pn) (hi : i < y.hL p) : 0 <= (y.hH p i).q /\ (y.hH p i).q < (y.pn : Int) := ⟨rp_peer (repO_some (h.rp p hp)).2.2 i hi, h.pe p hp i hi⟩
theorem Sy.Ok.hl200 {y : Sy} (h : y.Ok) {p : Nat} (hp : p < y.pn) : y.hL p <= 200 := (repO_some (h.rp p hp)).2.1
def flW (h : Nat -> Wo2) : Nat -> List Value
 | 0 => []
 | n + 1 => flW h n ++ [.int .i64 (h n).m, .int .i64 (h n).v]
theorem flW_length (h : Nat -> Wo2) : ∀ n, (flW h n).length = n * 2
 | 0 => rfl
 | n + 1 => by
  rw [flW, List.length_append, flW_length h n]
  simp
  omega
theorem flW_at (h : Nat -> Wo2) : ∀ n i, i < n -> (flW h n)[i * 2]? = some (.int .i64 (h i).m) /\ (flW h n)[i * 2 + 1]? = some (.int .i64 (h i).v)
 | 0, i, hi => by omega
 | n + 1, i, hi => by
  have hl := flW_length h n
  by_cases e : i = n
  ·subst e
   rw [flW, List.getElem?_append_right (by omega), List.getElem?_append_right (by omega), hl]
   simp
  ·obtain ⟨h0, h1⟩ := flW_at h n i (by omega)
   rw [flW, List.getElem?_append_left (by omega), List.getElem?_append_left (by omega)]
   exact ⟨h0, h1⟩
def OwR (w : World) (B : Nat) (v : Value) (n : Nat) (h : Nat -> Wo2) : Prop := w.ownsRow B 43 2 v n (flW h n) /\ v ≠ .slice none 0 0
theorem OwR.form {w : World} {B n : Nat} {v : Value} {h : Nat -> Wo2} (o : OwR w B v n h) : ∃ g cap, v = .slice (some ⟨g, 0, none⟩) n cap /\ B <= g /\ g < w.heap.size /\ WoAt w g 0 n h /\ ∀ j, w.frozen? ⟨g, j, none⟩ = false := by
 obtain ⟨ho, hv⟩ := o
 rcases ho.2 with ⟨h0, _⟩ | ⟨g, cap, cur, rfl, hb, _⟩
 ·exact absurd h0 hv
 ·refine ⟨g, cap, rfl, hb, (ho.lt g rfl).2, fun i hi => ?_, fun j => ho.frozenAt j⟩
  obtain ⟨f0, f1⟩ := flW_at h n i hi
  rw [Nat.zero_add, ho.cellAt _ (by omega), ho.cellAt _ (by omega)]
  exact ⟨f0, f1⟩
theorem OwR.ofBlock {w w' : World} {B n : Nat} {v : Value} {h : Nat -> Wo2} (o : OwR w B v n h) (ha : ∀ k, v.ownBlock = some k -> w'.heap[k]? = w.heap[k]?) : OwR w' B v n h := by
 obtain ⟨ho, hv⟩ := o
 refine ⟨?_, hv⟩
 rcases ho.2 with ⟨rfl, h0⟩ | ⟨g, cap, cur, rfl, hb, hg, hr⟩
 ·exact absurd rfl hv
 ·refine ⟨ho.1, .inr ⟨g, cap, cur, rfl, hb, ?_, hr⟩⟩
  rw [ha g rfl]
  exact hg
theorem OwR.lt {w : World} {B n : Nat} {v : Value} {h : Nat -> Wo2} (o : OwR w B v n h) : ∀ j, v.ownBlock = some j -> B <= j /\ j < w.heap.size := fun j hj => o.1.lt j hj
theorem OwR.mono {w : World} {B B' n : Nat} {v : Value} {h : Nat -> Wo2} (o : OwR w B v n h) (hb : B' <= B) : OwR w B' v n h := ⟨o.1.mono hb, o.2⟩
theorem OwR.below {w w' : World} {B n : Nat} {v : Value} {h : Nat -> Wo2} (o : OwR w B v n h) (hb : Below w.heap.size w w') : OwR w' B v n h := o.ofBlock fun k hk => hb.block k (o.lt k hk).2
theorem OwR.touch {w w' : World} {B n : Nat} {v : Value} {h : Nat -> Wo2} {P : Nat -> Prop} (o : OwR w B v n h) (ht : Touch P w w') (hp : ∀ g, v.ownBlock = some g -> ¬ P g) : OwR w' B v n h := o.ofBlock fun k hk => ht.block k (o.lt k hk).2 (hp k hk)
theorem OwR.empty (w : World) (h : Nat -> Wo2) : OwR (w.alloc (.cells #[] 43)) w.heap.size (.slice (some ⟨w.heap.size, 0, none⟩) 0 0) 0 h := ⟨World.ownsRow_lit w #[] 0 (Nat.le_refl _) (by unfold maxLen; omega) rfl, by simp⟩
theorem run_make_woc (c : Nat) (hc : c <= 1048576) (w : World) :
  (Instr.makeSlice 38 (.int .i64 0) (.int .i64 (c : Int))).run Tryz.prog w = .ok (.slice (some ⟨w.heap.size, 0, none⟩) 0 c) (w.alloc (.cells (madeCells (woV 0 0).cells (c * 2)) 43)) := by
 have hinfo := infoWo
 cases hi : Tryz.prog.info? 43 with
 | none => rw [hi] at hinfo; cases hinfo
 | some i =>
  rw [hi] at hinfo
  simp only [Option.map_some, Option.some.injEq, Prod.mk.injEq] at hinfo
  obtain ⟨hz, hs, hb⟩ := hinfo
  have h := run_make (P := Tryz.prog) w 38 43 i _ Tryz.underlying38 hi hz .i64 .i64 (0 : Int) (c : Int) (by omega) (by omega) (by rw [hb]; omega) (by omega)
  rw [hs] at h
  simpa using h
theorem OwR.made (w : World) (c : Nat) (hc : c <= 1048576) (h : Nat -> Wo2) : OwR (w.alloc (.cells (madeCells (woV 0 0).cells (c * 2)) 43)) w.heap.size (.slice (some ⟨w.heap.size, 0, none⟩) 0 c) 0 h := ⟨World.ownsRow_made (base := w.heap.size) w _ c (Nat.le_refl _) (by unfold maxLen; omega) (size_madeCells _ _), by simp⟩
theorem info_who : ∃ i, Tryz.prog.info? 43 = some i /\ i.zero = some (woV 0 0) /\ i.size = 2 /\ i.bytes = 16 := by
 have hinfo := infoWo
 cases hi : Tryz.prog.info? 43 with
 | none => rw [hi] at hinfo; cases hinfo
 | some i =>
  rw [hi] at hinfo
  simp only [Option.map_some, Option.some.injEq, Prod.mk.injEq] at hinfo
  exact ⟨i, rfl, hinfo⟩
theorem cell_two_new (w : World) (a b : Value) (t : TypeId) : ∀ j u, [a, b][j]? = some u -> (w.alloc (.cells #[a, b] t)).cell? ((⟨w.heap.size, 0, none⟩ : Addr).add j) = some u := by
 intro j u hj
 match j, hj with
 | 0, hj => simp at hj; subst hj; simp [Addr.add]
 | 1, hj => simp at hj; subst hj; simp [Addr.add]
 | j + 2, hj => simp at hj
theorem append_who {ops : Array Oper} {rest : List Oper} {op : Oper} {act : Act} {Q : Exit -> Act -> World -> Prop} (w : World) (hgd : op.guard = none) (s x : Operand)
  (ho : op.op = .call { callee := .builtin .append, args := #[s, x], argTypes := #[38, 38] })
  (B : Nat) (v : Value) (n : Nat) (h : Nat -> Wo2) (hs : act.eval s = v) (hl : OwR w B v n h) (m z : Int) (hmz : h n = ⟨m, z⟩) (hx : act.eval x = .slice (some ⟨w.heap.size, 0, none⟩) 1 1) (hn : n <= 1000000) (hB : B <= w.heap.size)
  (hp : ∀ v' w', OwR w' B v' (n + 1) h -> w.grownBy w' v.ownBlock -> (∀ j, v'.ownBlock = some j -> v.ownBlock = some j \/ w.heap.size <= j) -> wpList Tryz.prog ops Q rest (act.put op.dst v') w') :
  wpList Tryz.prog ops Q (op :: rest) act (w.alloc (.cells #[.int .i64 m, .int .i64 z] 43)) := by
 obtain ⟨i0, hi, hz0, hz1, hz2⟩ := info_who
 obtain ⟨how, hvn⟩ := hl
 have hb : Below w.heap.size w (w.alloc (.cells #[.int .i64 m, .int .i64 z] 43)) := zS _ _
 obtain ⟨v', w', h1, h2, h3, h4, h5⟩ := run_append_own_at (P := Tryz.prog) (w.alloc (.cells #[.int .i64 m, .int .i64 z] 43)) B 38 op.type 43 i0 (woV 0 0) 2 16 Tryz.underlying38 hi hz0 hz1 hz2 rfl (by decide) v n _ (how.alloc _) ⟨w.heap.size, 0, none⟩ 1 1 [.int .i64 m, .int .i64 z] rfl (cell_two_new _ _ _ _) (fun u hu => by
  simp at hu
  rcases hu with rfl | rfl <;> rfl) (by unfold maxLen; omega) (by omega) (by simp; omega)
 refine wpList_plain hgd fun K hK => ?_
 unfold Oper.wp execOp
 simp only [ho, resolve, invoke, builtin, Sem.run_bind, Sem.run_pure, Result.andThen_ok, List.map_toArray, List.map_cons, List.map_nil, hs, hx, h1]
 refine hK _ _ (hp v' w' ⟨?_, fun e => hvn (h4.1 e).1⟩ ⟨h3.os, h3.tape, h3.output, zO hb.size h3.size, fun j hj hne => (h3.block j (zL hj hb.size) hne).trans (hb.block j hj)⟩ fun j hj => ?_)
 ·rw [flW, hmz]
  exact h2
 ·rcases h5 with a | a
  ·exact .inl (a.symm.trans hj)
  ·rw [hj] at a
   simp only [Option.some.injEq] at a
   right
   rw [a]
   simp
def markW (k : Int) (i : Nat) : Wo2 := ⟨k + 2 * i, k + 2 * i + 1⟩
theorem markWhoS_own (b len cap : Nat) (k : Int) (w : World) (hlen : len <= 1048576) (k0 : 0 <= k) (k1 : k <= 100000000) (h : RoomWo w b len) :
  Calls Tryz.prog 34 #[.slice (some ⟨b, 0, none⟩) len cap, .int .i64 k] w fun e w' => e = .returned (.int .i64 (k + 2 * len)) /\ w.grownBy w' (some b) /\ WoAt w' b 0 len (markW k) := by
 have hl' : (len : Int) <= 1048576 := by omega
 have HO : Hid (RoomWo w b len) := h
 clear h
 go_enter Tryz.func34, Tryz.ntmps34
 go_wp2_with fail
 go_loopw [1, 5] (fun q i wr => ∃ j : Nat, j <= len /\ i = .int .i64 j /\ q = .int .i64 (k + 2 * j) /\ Hid (RoomWo wr b len /\ w.grownBy wr (some b) /\ WoAt wr b 0 j (markW k))) (fun _ i _ => len - (intOf i).toNat)
 case atStart => exact ⟨0, Nat.zero_le _, rfl, by simp, HO.out, World.grownBy.refl _ _, fun i hi => by omega⟩
 case round =>
  clear HO
  obtain ⟨j, hj, rfl, rfl, HR⟩ := hrel
  by_cases hlt : j < len
  ·have hlt' : (j : Int) < (len : Int) := by omega
   obtain ⟨u0, c0⟩ := HR.out.1.1 (j * 2) (by omega)
   obtain ⟨u1, c1⟩ := HR.out.1.1 (j * 2 + 1) (by omega)
   have fz := HR.out.1.2
   go_wp2
   go_roundw
   case rel =>
    refine ⟨j + 1, by omega, by go_num, by go_num, ?_⟩
    have hc : ∀ (o : Nat) (u : Value) (W : World) (t : Nat), o ≠ t -> (W.setCell ⟨b, o, none⟩ u).cell? ⟨b, t, none⟩ = W.cell? ⟨b, t, none⟩ := fun o u W t hne => World.cell?_setCell_other _ _ _ _ fun e => hne (by injection e)
    refine ⟨?_, ?_, fun i hi => ?_⟩
    ·repeat (refine RoomWo.set ?_ _ _)
     exact HR.out.1
    ·repeat (refine zU ?_ (.inl rfl) _)
     exact HR.out.2.1
    ·rw [Nat.zero_add]
     by_cases e : i = j
     ·subst e
      refine ⟨?_, ?_⟩
      ·rw [hc _ _ _ _ (by omega)]
       exact World.cell?_setCell_same _ _ _ c0
      ·exact World.cell?_setCell_same _ _ _ ((hc _ _ _ _ (by omega)).trans c1)
     ·obtain ⟨d0, d1⟩ := HR.out.2.2 i (by omega)
      rw [Nat.zero_add] at d0 d1
      exact ⟨(hc _ _ _ _ (by omega)).trans ((hc _ _ _ _ (by omega)).trans d0), (hc _ _ _ _ (by omega)).trans ((hc _ _ _ _ (by omega)).trans d1)⟩
   case measure => simp [intOf]; omega
  ·have hlt' : ¬ (j : Int) < (len : Int) := by omega
   have hjl : j = len := by omega
   subst hjl
   have HF : Hid (w.grownBy wr (some b) /\ WoAt wr b 0 j (markW k)) := HR.out.2
   clear HR
   go_wp2
   go_ret
   exact ⟨rfl, HF.out⟩
theorem heldWhoS_marks (b len cap : Nat) (k : Int) (w : World) (hlen : len <= 1048576) (k0 : 0 <= k) (k1 : k <= 100000000) (h : WoAt w b 0 len (markW k)) :
  Calls Tryz.prog 35 #[.slice (some ⟨b, 0, none⟩) len cap, .int .i64 k] w fun e w' => e = .returned (.int .i64 (k + 2 * len)) /\ Below w.heap.size w w' := by
 have hl' : (len : Int) <= 1048576 := by omega
 have HO : Hid (WoAt w b 0 len (markW k)) := h
 clear h
 go_enter Tryz.func35, Tryz.ntmps35
 go_wp2_with fail
 go_loopw [1, 5] (fun q i wr => ∃ j : Nat, j <= len /\ i = .int .i64 j /\ q = .int .i64 (k + 2 * j) /\ Below w.heap.size w wr) (fun _ i _ => len - (intOf i).toNat)
 case atStart => exact ⟨0, Nat.zero_le _, rfl, by simp, Below.refl _ _⟩
 case round =>
  obtain ⟨j, hj, rfl, rfl, hbw⟩ := hrel
  by_cases hlt : j < len
  ·have hlt' : (j : Int) < (len : Int) := by omega
   obtain ⟨c0, c1⟩ := HO.out j hlt
   rw [Nat.zero_add] at c0 c1
   have hb : b < w.heap.size := cell_lt c0
   have c0' : wr.cell? ⟨b, j * 2, none⟩ = some (.int .i64 (k + 2 * (j : Int))) := (hbw.cell (p := ⟨b, j * 2, none⟩) hb).trans c0
   have c1' : wr.cell? ⟨b, j * 2 + 1, none⟩ = some (.int .i64 (k + 2 * (j : Int) + 1)) := (hbw.cell (p := ⟨b, j * 2 + 1, none⟩) hb).trans c1
   clear c0 c1 hb
   go_wp2_with fail
   exact ⟨⟨j + 1, by omega, by go_num, by go_num, hbw⟩, by simp [intOf]; omega⟩
  ·have hlt' : ¬ (j : Int) < (len : Int) := by omega
   have hjl : j = len := by omega
   subst hjl
   go_wp2
   go_ret
   exact ⟨rfl, hbw⟩
end Go.Proofs.YthdaejgmfognbaaGreatDoor
