/- Marks of a system that came in: how many at most. -/
import Derived.Test.YthdaejgmfognbabGreatDoorWd0
import Derived.Test.YthdaejgmfognbabGreatDoorWd29
import Derived.LaidEql
import Derived.Stop.Asserts
import Derived.RowKitTokens
import Derived.Test.YthdaejgmfognbabGreatDoorWd34
import Derived.Test.YthdaejgmfognbabGreatDoorWd32
import Derived.Test.YthdaejgmfognbabGreatDoorWd31
import Derived.Test.YthdaejgmfognbabGreatDoorWd16
namespace Go.Proofs.YthdaejgmfognbabGreatDoor
set_option maxRecDepth 100000
set_option maxHeartbeats 4000000
open Go.RowKit Go.Extern.Stop Go.Stop Go.Extern
theorem as_nil (t : Value) (w : World) :
  Calls Tryz.prog 173 #[.nilIface, t] w fun e w' => e = .returned (.bool false) /\ w' = w := by
 go_enter Tryz.func173, Tryz.ntmps173
 go_wp2
 go_ret
 exact ⟨rfl, rfl⟩
theorem valueOfT (t : Addr) (w : World) : (ReflectliteValue.unpack (.iface 223 (.pointer (some t)))).run Tryz.prog w
  = .ok (.agg #[.pointer (some ⟨1, 223, none⟩), .pointer (some ⟨w.heap.size, 0, none⟩), .int .u64 150]) (w.alloc (.cells #[.pointer (some t)] 223)) := by kernel_rfl
theorem typeT (a : Addr) (w : World) : (ReflectliteValue.methodAny (ReflectliteValue.valueError "reflectlite.Value.Type" 0) (fun t _ _ _ => ReflectliteType.toType t) #[.agg #[.pointer (some ⟨1, 223, none⟩), .pointer (some a), .int .u64 150]]).run Tryz.prog w
  = .ok (.iface 269 (.agg #[.pointer (some ⟨1, 223, none⟩)])) w := by kernel_rfl
theorem kindT (w : World) : ((ReflectliteType.abiMethod fun t => (fun a : Nat => Value.int IntKind.u8 (a : Int)) <$> Rtype.kind t) #[.pointer (some ⟨1, 223, none⟩)]).run Tryz.prog w = .ok (.int .u8 22) w := by kernel_rfl
theorem kindE (w : World) : ((ReflectliteType.abiMethod fun t => (fun a : Nat => Value.int IntKind.u8 (a : Int)) <$> Rtype.kind t) #[.pointer (some ⟨1, 221, none⟩)]).run Tryz.prog w = .ok (.int .u8 25) w := by kernel_rfl
theorem rlm (z : Sem Value) (f : TypeId -> Addr -> Nat -> Nat -> Sem Value) (v : Value) :
  ReflectliteValue.method z f #[v] = (do match <- ReflectliteValue.parts v with | none => z | some (t, a, fl) => f t a fl (fl % 32)) := rfl
theorem partsT (a : Addr) (w : World) : (ReflectliteValue.parts (.agg #[.pointer (some ⟨1, 223, none⟩), .pointer (some a), .int .u64 150])).run Tryz.prog w = .ok (some (223, a, 150)) w := by kernel_rfl
theorem isNilT (a p : Addr) (W : World) (ha : W.cell? a = some (.pointer (some p))) :
  (ReflectliteValue.method (ReflectliteValue.valueError "reflectlite.Value.IsNil" 0) ReflectliteValue.isNil #[.agg #[.pointer (some ⟨1, 223, none⟩), .pointer (some a), .int .u64 150]]).run Tryz.prog W = .ok (.bool false) W := by
 rw [rlm]
 simp only [Sem.run_bind, partsT, Result.andThen]
 simp [ReflectliteValue.isNil, loadVar, isAgg, underlying, Tryz.underlying223, ha, Result.andThen]
theorem elemT (w : World) : (ReflectliteType.method ReflectliteType.elem #[.agg #[.pointer (some ⟨1, 223, none⟩)]]).run Tryz.prog w = .ok (.iface 269 (.agg #[.pointer (some ⟨1, 221, none⟩)])) w := by kernel_rfl
theorem implementsE (w : World) : (ReflectliteType.relation "Implements" ReflectliteType.implements_ #[.agg #[.pointer (some ⟨1, 221, none⟩)], .iface 269 (.agg #[.pointer (some ⟨1, 217, none⟩)])]).run Tryz.prog w = .ok (.bool true) w := by kernel_rfl
theorem typeOfE (v : Value) (w : World) : (ReflectliteType.typeOf #[.iface 221 v]).run Tryz.prog w = .ok (.iface 269 (.agg #[.pointer (some ⟨1, 221, none⟩)])) w := by kernel_rfl
theorem assignableE (w : World) : (ReflectliteType.relation "AssignableTo" ReflectliteType.assignableTo #[.agg #[.pointer (some ⟨1, 221, none⟩)], .iface 269 (.agg #[.pointer (some ⟨1, 221, none⟩)])]).run Tryz.prog w = .ok (.bool true) w := by kernel_rfl
theorem valueOfE (x : Int) (w : World) : (ReflectliteValue.unpack (.iface 221 (.agg #[.int .i64 x]))).run Tryz.prog w
  = .ok (.agg #[.pointer (some ⟨1, 221, none⟩), .pointer (some ⟨w.heap.size, 0, none⟩), .int .u64 153]) (w.alloc (.cells #[.int .i64 x] 221)) := by kernel_rfl
theorem elemOfT (w : World) : (Rtype.elem? 223).run Tryz.prog w = .ok (some 221) w := by kernel_rfl
theorem mkE (p : Addr) (w : World) : (ReflectliteValue.mk 221 p ReflectliteValue.flagAddr).run Tryz.prog w = .ok (.agg #[.pointer (some ⟨1, 221, none⟩), .pointer (some p), .int .u64 409]) w := by kernel_rfl
open Go.ChangeShapes Go.WideShapes Go.ChangeAt Go.RowKit Go.Deep Go.Sort
theorem sumL_all {d l : Nat -> Nat} (h : ∀ i, d i <= l i) (n : Nat) (e : sumL d n = sumL l n) (p : Nat) (hp : p < n) : d p = l p := by
 induction n with
 | zero => omega
 | succ n ih =>
  have h1 := sumL_le h n
  have h2 := h n
  have e' : sumL d n + d n = sumL l n + l n := e
  by_cases hpn : p = n
  ·subst hpn
   omega
  ·exact ih (by omega) (by omega)
structure OrdB (w : World) (D n : Nat) (d : Nat -> Nat) : Prop where
 c : ∀ i, i < n -> w.cell? ⟨D, i, none⟩ = some (.int .i64 (d i))
 fr : ∀ j, w.frozen? ⟨D, j, none⟩ = false
theorem OrdB.blk {w w' : World} {D n : Nat} {d : Nat -> Nat} (h : OrdB w D n d) (hb : w'.heap[D]? = w.heap[D]?) : OrdB w' D n d := ⟨fun i hi => (zH hb).trans (h.c i hi), fun j => (zI hb).trans (h.fr j)⟩
theorem OrdB.put {w : World} {D n k : Nat} {d : Nat -> Nat} (h : OrdB w D n d) (hk : k < n) : OrdB (w.setCell ⟨D, k, none⟩ (.int .i64 ((d k : Int) + 1))) D n (up d k) := by
 refine ⟨fun i hi => ?_, fun j => by rw [World.frozen?_setCell]; exact h.fr j⟩
 by_cases e : i = k
 ·subst e
  rw [World.cell?_setCell_same' _ _ _ (by rw [h.c i hi]; rfl), up_same]
  rfl
 ·rw [World.cell?_setCell_other _ _ _ _ (by intro e'; injection e' with _ e'; exact e e'.symm), up_other e]
  exact h.c i hi
structure Od (w wr : World) (B D : Nat) (ha : Option Addr) (hc : Nat) (y : Hs) (d : Nat -> Nat) : Prop where
 pu : y.Put d
 od : OrdB wr D y.n d
 bx : wr.cell? ⟨B, 3, none⟩ = some (.slice ha y.n hc)
 be : Below w.heap.size w wr
theorem Od.below {w wr w' : World} {B D : Nat} {ha : Option Addr} {hc : Nat} {y : Hs} {d : Nat -> Nat} (h : Od w wr B D ha hc y d) (hb : Below wr.heap.size wr w') (hD : D < wr.heap.size) : Od w w' B D ha hc y d :=
 ⟨h.pu, h.od.blk (hb.block D hD), (hb.cell (p := ⟨B, 3, none⟩) (zJ wr _ h.bx)).trans h.bx, h.be.trans (hb.mono h.be.size)⟩
theorem Od.set {w wr : World} {B D k : Nat} {ha : Option Addr} {hc : Nat} {y : Hs} {d : Nat -> Nat} (h : Od w wr B D ha hc y d) (hk : k < y.n) (hcan : y.Can d k) (hBD : B ≠ D) (hw : w.heap.size <= D) : Od w (wr.setCell ⟨D, k, none⟩ (.int .i64 ((d k : Int) + 1))) B D ha hc y (up d k) :=
 ⟨.next h.pu hk hcan, h.od.put hk, (World.cell?_setCell_other _ _ _ _ (by intro e; injection e with e; exact hBD e.symm)).trans h.bx, h.be.setCell hw _⟩
theorem madeInt_cell (w : World) (n i : Nat) (hi : i < n) : (w.alloc (.cells (madeCells #[.int .i64 0] n) 3)).cell? ⟨w.heap.size, i, none⟩ = some (.int .i64 0) := by
 rw [zV _ _ _ i rfl]
 simp [madeCells, hi, Nat.mod_one]
theorem slice_to (a : Option Addr) (len cap h : Nat) (hh : h <= cap) (w : World) : (Instr.slice 62 (.slice a len cap) none (some (.int .i64 (h : Int))) none).run Tryz.prog w = .ok (.slice a h cap) w := by
 have hh' : (h : Int) <= (cap : Int) := by omega
 cases a with
 | none => simp [go_sem, sliced, hh']
 | some a => simp [go_sem, sliced, hh']
theorem l4Order_any (pa : Option Addr) (pn pc : Nat) (sa : Option Addr) (sn sc : Nat) (wa : Option Addr) (wn wc : Nat) (ha : Option Addr) (hc : Nat) (hA : Nat -> Option Addr) (hC : Nat -> Nat) (y : Hs) (w : World) (hE : HisE w ha hA hC y) (hcap : ∀ i, i < y.n -> y.l i <= hC i) (h1 : 1 <= y.n) (h4 : y.n <= 4) (hp : y.Peers) (hl : ∀ i, i < y.n -> y.l i <= 200) :
  Calls Tryz.prog 95 #[sysV pa pn pc sa sn sc wa wn wc ha y.n hc] w fun e w' => e = .returned (.bool (qB y.Row)) /\ Below w.heap.size w w' := by
 have HE : Hid (HisE w ha hA hC y) := hE
 have HH : Hid (y.Peers /\ (∀ i, i < y.n -> y.l i <= 200) /\ (∀ i, i < y.n -> y.l i <= hC i)) := ⟨hp, hl, hcap⟩
 have hn4 : (y.n : Int) <= 4 := by omega
 have hmk : ∀ wx : World, (Instr.makeSlice 88 (.int .i64 (y.n : Int)) (.int .i64 (y.n : Int))).run Tryz.prog wx = .ok (.slice (some ⟨wx.heap.size, 0, none⟩) y.n y.n) (wx.alloc (.cells (madeCells #[.int .i64 0] y.n) 3)) := fun wx => run_make_int y.n (by omega) wx
 have HOd : Hid (Od w ((w.alloc (oQ4 pa pn pc sa sn sc wa wn wc ha y.n hc)).alloc (.cells (madeCells #[.int .i64 0] y.n) 3)) w.heap.size (w.heap.size + 1) ha hc y (fun _ => 0)) := by
  refine ⟨.start, ⟨fun i hi => ?_, fun j => yA _ _ _ _ (by simp)⟩, ?_, (zS _ _).trans ((zS _ _).mono (by simp))⟩
  ·have := madeInt_cell (w.alloc (oQ4 pa pn pc sa sn sc wa wn wc ha y.n hc)) y.n i hi
   rw [World.size_alloc] at this
   exact this
  ·exact ((BoxC.new w _ _ _ _ _).below (zS _ _)).2.2.2
 have HD : Hid (w.heap.size + 1 < ((w.alloc (oQ4 pa pn pc sa sn sc wa wn wc ha y.n hc)).alloc (.cells (madeCells #[.int .i64 0] y.n) 3)).heap.size) := by
  show w.heap.size + 1 < _
  simp
 clear hE hp hl hcap
 go_enter Tryz.func95, Tryz.ntmps95
 go_wp2_with fail
 generalize (w.alloc (oQ4 pa pn pc sa sn sc wa wn wc ha y.n hc)).alloc (.cells (madeCells #[.int .i64 0] y.n) 3) = W1 at *
 generalize hD : w.heap.size + 1 = D at *
 have HDW : Hid (w.heap.size + 1 = D) := hD
 clear hmk hD
 go_loopw [6, 7] (fun s i wr => ∃ k : Nat, k <= y.n /\ i = .int .i64 k /\ s = .int .i64 (sumL y.l k : Nat) /\ wr = W1) (fun _ i _ => y.n - (intOf i).toNat)
 case atStart => exact ⟨0, Nat.zero_le _, rfl, rfl, rfl⟩
 case round =>
  obtain ⟨k, hk, rfl, rfl, rfl⟩ := hrel
  have hsum : sumL y.l k <= 200 * k := by
   have : ∀ j, j <= y.n -> sumL y.l j <= 200 * j := by
    intro j
    induction j with
    | zero => exact fun _ => Nat.le_refl _
    | succ j ih =>
     intro hj
     have h5 := ih (by omega)
     have h6 := HH.out.2.1 j (by omega)
     show sumL y.l j + y.l j <= 200 * (j + 1)
     omega
   exact this k hk
  have hsum' : ((sumL y.l k : Nat) : Int) <= 1000 := by omega
  have b3 := HOd.out.bx
  by_cases hlt : k < y.n
  ·have hlt' : (k : Int) < (y.n : Int) := by omega
   obtain ⟨bh, oh, eh, ch⟩ := (HE.out.below HOd.out.be).row.at hlt
   rw [eh] at b3
   have hl2 : (y.l k : Int) <= 200 := by have := HH.out.2.1 k hlt; omega
   clear hsum
   go_wp2
   go_roundw
   case rel => exact ⟨k + 1, by omega, by go_num, by simp only [sumL]; congr 1, by first | rfl | trivial⟩
   case measure => simp [intOf]; omega
  ·have hkn : k = y.n := by omega
   subst hkn
   clear hlt hk hsum b3
   have hlt' : ¬ ((y.n : Int) < (y.n : Int)) := by omega
   have hsumI : ∀ d : Nat -> Nat, y.Put d -> ((sumL y.l y.n : Nat) : Int) - ((sumL d y.n : Nat) : Int) = ((sumL y.l y.n - sumL d y.n : Nat) : Int) := fun d hd => by
    have := sumL_le hd.le y.n
    omega
   have HSI : Hid (∀ d : Nat -> Nat, y.Put d -> ((sumL y.l y.n : Nat) : Int) - ((sumL d y.n : Nat) : Int) = ((sumL y.l y.n - sumL d y.n : Nat) : Int)) := hsumI
   have HSM : Hid (((sumL y.l y.n : Nat) : Int) <= 1000) := hsum'
   clear hsumI hsum'
   go_wp2_with fail
   go_loopg [5, 6] (2 * (sumL y.l y.n) + 1) (fun gn m s wr => ∃ (t : Bool) (d : Nat -> Nat), m = .bool t /\ s = .int .i64 ((sumL y.l y.n - sumL d y.n : Nat) : Int) /\ gn = 2 * (sumL y.l y.n - sumL d y.n) + (if t = true then 1 else 0) /\ Hid (Od w wr w.heap.size D ha hc y d /\ D < wr.heap.size /\ (t = false -> ∀ p, p < y.n -> ¬ y.Can d p)))
   case atStart => exact ⟨true, fun _ => 0, rfl, by rw [sumL_zero]; rfl, by rw [sumL_zero]; rfl, HOd.out, HD.out, fun h => by cases h⟩
   case round =>
    clear HOd HD
    obtain ⟨t, d, rfl, rfl, hgn, HI⟩ := hrel
    rcases zK t with rfl | rfl
    ·have HGN : Hid (gk = 2 * (sumL y.l y.n - sumL d y.n) + 1) := hgn
     clear hgn
     go_wp2_with fail
     go_loopw [5, 6, 8] (fun m s i wr => ∃ (k : Nat) (t' : Bool) (d' : Nat -> Nat), k <= y.n /\ i = .int .i64 k /\ m = .bool t' /\ s = .int .i64 ((sumL y.l y.n - sumL d' y.n : Nat) : Int) /\ Hid (Od w wr w.heap.size D ha hc y d' /\ D < wr.heap.size /\ (t' = true -> sumL d y.n < sumL d' y.n) /\ (t' = false -> d' = d /\ ∀ p, p < k -> ¬ y.Can d p))) (fun _ _ i _ => y.n - (intOf i).toNat)
     case atStart => exact ⟨0, false, d, Nat.zero_le _, rfl, rfl, rfl, HI.out.1, HI.out.2.1, (fun h => by cases h), fun _ => ⟨rfl, fun p hp => by omega⟩⟩
     case round =>
      clear HI
      obtain ⟨k, t', d', hk, rfl, rfl, rfl, HJ⟩ := hrel
      by_cases hlt : k < y.n
      ·have hlt' : (k : Int) < (y.n : Int) := by omega
       have hdk : d' k <= y.l k := HJ.out.1.pu.le k
       have hl2 : (y.l k : Int) <= 200 := by have := HH.out.2.1 k hlt; omega
       have dk := HJ.out.1.od.c k hlt
       have b3 := HJ.out.1.bx
       obtain ⟨bh, oh, eh, ch⟩ := (HE.out.below HJ.out.1.be).row.at hlt
       rw [eh] at b3
       by_cases he : d' k = y.l k
       ·have HNo : Hid (¬ y.Can d' k) := fun h => by have := h.1; omega
        have HJ' : ∀ nq, Hid (Od w (wr.drewN nq) w.heap.size D ha hc y d' ∧ D < (wr.drewN nq).heap.size ∧ (t' = true → sumL d y.n < sumL d' y.n) ∧ (t' = false → d' = d ∧ ∀ p, p < k + 1 → ¬ y.Can d p)) := fun nq => ⟨HJ.out.1.below (yB (Below.refl _ _) _) HJ.out.2.1, HJ.out.2.1, HJ.out.2.2.1, fun h => ⟨(HJ.out.2.2.2 h).1, fun p hp => by
         have h5 := HJ.out.2.2.2 h
         by_cases e : p = k
         ·subst e
          rw [<- h5.1]
          exact HNo.out
         ·exact h5.2 p (by omega)⟩⟩
        rw [he] at dk
        have HJQ : Hid (∀ nq, Hid (Od w (wr.drewN nq) w.heap.size D ha hc y d' /\ D < (wr.drewN nq).heap.size /\ (t' = true -> sumL d y.n < sumL d' y.n) /\ (t' = false -> d' = d /\ ∀ p, p < k + 1 -> ¬ y.Can d p))) := HJ'
        clear HJ HJ' he hdk
        go_wp2_with fail
        go_quiet (fail)
        go_wp2
        go_roundw
        case rel => exact ⟨k + 1, t', d', by omega, by go_num, rfl, rfl, HJQ.out _⟩
        case measure => simp [intOf]; omega
       ·have hkl : d' k < y.l k := by omega
        have hkl' : (d' k : Int) < (y.l k : Int) := by omega
        have hne : ((d' k : Int) == (y.l k : Int)) = false := by
         have : ¬ (d' k : Int) = (y.l k : Int) := by omega
         simpa using this
        clear he hdk
        go_wp2_with fail
        go_quiet (fail)
        go_wp2_with fail
        have OD : Hid (Od w (wr.drewN nq) w.heap.size D ha hc y d' /\ D < (wr.drewN nq).heap.size /\ (t' = true -> sumL d y.n < sumL d' y.n) /\ (t' = false -> d' = d /\ ∀ p, p < k -> ¬ y.Can d p)) := ⟨HJ.out.1.below (yB (Below.refl _ _) _) HJ.out.2.1, HJ.out.2.1, HJ.out.2.2⟩
        clear HJ dk b3 ch
        generalize wr.drewN nq = wd at *
        have dk := OD.out.1.od.c k hlt
        have b3 := OD.out.1.bx
        obtain ⟨bh', oh', eh', ch⟩ := (HE.out.below OD.out.1.be).row.at hlt
        rw [eh'] at b3
        obtain ⟨b, off, ea, zb, e0, e1, e2⟩ := ((HE.out.below OD.out.1.be).ev k hlt).at hkl
        rw [ea] at ch
        have n1 : wd.heap.size ≠ D := by have := OD.out.2.1; omega
        have n2 : wd.heap.size ≠ b := by omega
        have n3 : wd.heap.size ≠ bh' := by have := zJ wd _ ch; simp at this; omega
        have dk' := cell_allocs dk
        have b3' := cell_allocs b3
        have ch' := cell_allocs ch
        have e0' := cell_allocs e0
        have e1' := cell_allocs e1
        have e2' := cell_allocs e2
        clear zb
        go_region
        all_goals
         have OZ : Hid (Od w (wd.alloc (oQ0 (y.e k (d' k)).k (y.e k (d' k)).q (y.e k (d' k)).v)).drew w.heap.size D ha hc y d' /\ D < (wd.alloc (oQ0 (y.e k (d' k)).k (y.e k (d' k)).q (y.e k (d' k)).v)).drew.heap.size /\ (t' = true -> sumL d y.n < sumL d' y.n) /\ (t' = false -> d' = d /\ ∀ p, p < k -> ¬ y.Can d p)) := ⟨OD.out.1.below (zS _ _).drew OD.out.2.1, zL OD.out.2.1 (zS _ _).drew.size, OD.out.2.2⟩
         have z0 : (wd.alloc (oQ0 (y.e k (d' k)).k (y.e k (d' k)).q (y.e k (d' k)).v)).drew.cell? ⟨wd.heap.size, 0, none⟩ = some (.int .i64 (y.e k (d' k)).k) := zV wd _ _ 0 rfl
         have z1 : (wd.alloc (oQ0 (y.e k (d' k)).k (y.e k (d' k)).q (y.e k (d' k)).v)).drew.cell? ⟨wd.heap.size, 1, none⟩ = some (.int .i64 (y.e k (d' k)).q) := zV wd _ _ 1 rfl
         go_wp2_with fail
         clear dk b3 ch e0 e1 e2 dk' b3' ch' e0' e1' e2' n1 n2 n3 OD eh eh' ea
         generalize (wd.alloc (oQ0 (y.e k (d' k)).k (y.e k (d' k)).q (y.e k (d' k)).v)).drew = wz at *
         generalize wd.heap.size = M at *
         rcases zK ((y.e k (d' k)).k == 3) with t3 | t3
         case inr =>
          have HK3 : Hid (¬ (y.e k (d' k)).k = 3) := by
           show ¬ (y.e k (d' k)).k = 3
           simpa using t3
          go_quiet (fail)
          have OQ : Hid (Od w (wz.drewN nq) w.heap.size D ha hc y d' /\ D < (wz.drewN nq).heap.size /\ (t' = true -> sumL d y.n < sumL d' y.n) /\ (t' = false -> d' = d /\ ∀ p, p < k -> ¬ y.Can d p)) := ⟨OZ.out.1.below (yB (Below.refl _ _) _) OZ.out.2.1, OZ.out.2.1, OZ.out.2.2⟩
          clear z0 z1 OZ
          generalize wz.drewN nq = wq at *
          have HCn : Hid (y.Can d' k) := ⟨hkl, fun h => absurd h HK3.out⟩
          have HPu : Hid (y.Put (up d' k)) := .next OQ.out.1.pu hlt HCn.out
          have hsu := sumL_up (d := d') hlt
          have hsl := sumL_le HPu.out.le y.n
          have HLE : Hid (((sumL y.l y.n - sumL d' y.n : Nat) : Int) - 1 = ((sumL y.l y.n - sumL (up d' k) y.n : Nat) : Int)) := by
           show ((sumL y.l y.n - sumL d' y.n : Nat) : Int) - 1 = ((sumL y.l y.n - sumL (up d' k) y.n : Nat) : Int)
           omega
          have hA1 : ((sumL y.l y.n - sumL d' y.n : Nat) : Int) <= 1000 := by have := HSM.out; omega
          have hA0 : (1 : Int) <= ((sumL y.l y.n - sumL d' y.n : Nat) : Int) := by omega
          have HNx : Hid (Od w (wq.setCell ⟨D, k, none⟩ (.int .i64 ((d' k : Int) + 1))) w.heap.size D ha hc y (up d' k) ∧ D < (wq.setCell ⟨D, k, none⟩ (.int .i64 ((d' k : Int) + 1))).heap.size ∧ (true = true → sumL d y.n < sumL (up d' k) y.n) ∧ (true = false → up d' k = d ∧ ∀ p, p < k + 1 → ¬ y.Can d p)) := ⟨OQ.out.1.set hlt HCn.out (by have := HDW.out; omega) (by have := HDW.out; omega), by simpa [World.setCell] using OQ.out.2.1, (fun _ => by
           rcases zK t' with h5 | h5
           ·have := OQ.out.2.2.1 h5
            omega
           ·have := (OQ.out.2.2.2 h5).1
            rw [this] at hsu ⊢
            omega), (fun h => by cases h)⟩
          have dkq := OQ.out.1.od.c k hlt
          have frq := OQ.out.1.od.fr
          clear hsu hsl OQ
          generalize hAA : ((sumL y.l y.n - sumL d' y.n : Nat) : Int) = AA at *
          clear hAA
          go_wp2
          go_roundw
          case rel => exact ⟨k + 1, true, up d' k, by omega, by go_num, rfl, by rw [HLE.out], HNx.out⟩
          case measure => simp [intOf]; omega
         case inl =>
          have hk3 : (y.e k (d' k)).k = 3 := by simpa using t3
          have HK3 : Hid ((y.e k (d' k)).k = 3) := hk3
          have hq := HH.out.1 k hlt (d' k) hkl
          obtain ⟨q, hqe⟩ : ∃ q : Nat, (y.e k (d' k)).q = (q : Int) := ⟨(y.e k (d' k)).q.toNat, by omega⟩
          have HQE : Hid ((y.e k (d' k)).q = (q : Int)) := hqe
          have hqn : q < y.n := by omega
          have hqn' : (q : Int) < (y.n : Int) := by omega
          rw [hk3] at z0
          rw [hqe] at z1
          have dk := OZ.out.1.od.c k hlt
          have dq := OZ.out.1.od.c q hqn
          have b3 := OZ.out.1.bx
          obtain ⟨bz, oz, ez, ch⟩ := (HE.out.below OZ.out.1.be).row.at hlt
          obtain ⟨bz', oz', ez', cq⟩ := (HE.out.below OZ.out.1.be).row.at hqn
          rw [ez] at b3 ez'
          simp only [Option.some.injEq, Addr.mk.injEq] at ez'
          obtain ⟨rfl, rfl, -⟩ := ez'
          have ks := slice_to (hA k) (y.l k) (hC k) (d' k) (by have := HH.out.2.2 k hlt; omega)
          have qs := slice_to (hA q) (y.l q) (hC q) (d' q) (by have := HH.out.2.2 q hqn; have := OZ.out.1.pu.le q; omega)
          have HCk : Hid (∀ dd os, Calls Tryz.prog 141 #[.slice (hA k) (d' k) (hC k), .int .i64 3, .int .i64 q] (grow (redrawn wz dd) os) fun e w' => e = .returned (.int .i64 (cnt (y.e k) 3 q (d' k) : Nat)) /\ Below (grow (redrawn wz dd) os).heap.size (grow (redrawn wz dd) os) w') := fun dd os => specCount_l (hA k) (d' k) (hC k) (y.e k) 3 q _ (by have := HH.out.2.1 k hlt; omega) (((HE.out.below OZ.out.1.be).below (below_regrown wz dd os)).ev k hlt |>.take (by omega))
          have HCq : Hid (∀ dd os, Calls Tryz.prog 141 #[.slice (hA q) (d' q) (hC q), .int .i64 2, .int .i64 k] (grow (redrawn wz dd) os) fun e w' => e = .returned (.int .i64 (cnt (y.e q) 2 k (d' q) : Nat)) /\ Below (grow (redrawn wz dd) os).heap.size (grow (redrawn wz dd) os) w') := fun dd os => specCount_l (hA q) (d' q) (hC q) (y.e q) 2 k _ (by have := HH.out.2.1 q hqn; have := OZ.out.1.pu.le q; omega) (((HE.out.below OZ.out.1.be).below (below_regrown wz dd os)).ev q hqn |>.take (OZ.out.1.pu.le q))
          have z0' := cell_regrown z0
          have z1' := cell_regrown z1
          have dk' := cell_regrown dk
          have dq' := cell_regrown dq
          have b3' := cell_regrown b3
          have ch' := cell_regrown ch
          have cq' := cell_regrown cq
          clear ez hq hqe hk3 t3
          refine wp_region_quiet_below (by kernel_rfl) (by kernel_rfl) ?_
          repeat (quiet_step (first | (go_at_call_of 141 (hA k); exact Calls.regrown_of (HCk.out _ _)) | (go_at_call_of 141 (hA q); exact Calls.regrown_of (HCq.out _ _))))
          refine wpQuiet_nil ?_
          intro _ hw'
          obtain ⟨⟨dd, os⟩, hw''⟩ := hw'
          subst hw''
          have OQ : Hid (Od w (grow (redrawn wz dd) os) w.heap.size D ha hc y d' /\ D < (grow (redrawn wz dd) os).heap.size /\ (t' = true -> sumL d y.n < sumL d' y.n) /\ (t' = false -> d' = d /\ ∀ p, p < k -> ¬ y.Can d p)) := ⟨OZ.out.1.below (below_regrown wz dd os) OZ.out.2.1, zL OZ.out.2.1 (below_regrown wz dd os).size, OZ.out.2.2⟩
          clear z0' z1' dk' dq' b3' ch' cq' z0 z1 dk dq b3 ch cq ks qs HCk HCq OZ
          generalize grow (redrawn wz dd) os = wq at *
          have HCan : Hid (y.Can d' k ↔ cnt (y.e k) 3 q (d' k) < cnt (y.e q) 2 k (d' q)) := by
           show y.Can d' k ↔ _
           unfold Hs.Can
           rw [HQE.out]
           rw [show ((q : Int)).toNat = q by omega]
           exact ⟨fun h => h.2 HK3.out, fun h => ⟨hkl, fun _ => h⟩⟩
          generalize cnt (y.e k) 3 q (d' k) = c1 at *
          generalize cnt (y.e q) 2 k (d' q) = c2 at *
          by_cases hcc : (c2 : Int) <= (c1 : Int)
          ·have HNo : Hid (¬ y.Can d' k) := fun h => by have := HCan.out.1 h; omega
           have HJ2 : Hid (Od w wq w.heap.size D ha hc y d' ∧ D < wq.heap.size ∧ (t' = true → sumL d y.n < sumL d' y.n) ∧ (t' = false → d' = d ∧ ∀ p, p < k + 1 → ¬ y.Can d p)) := ⟨OQ.out.1, OQ.out.2.1, OQ.out.2.2.1, fun h => ⟨(OQ.out.2.2.2 h).1, fun p hp => by
            have h5 := OQ.out.2.2.2 h
            by_cases e : p = k
            ·subst e
             rw [<- h5.1]
             exact HNo.out
            ·exact h5.2 p (by omega)⟩⟩
           clear OQ HCan
           go_wp2
           go_roundw
           case rel => exact ⟨k + 1, t', d', by omega, by go_num, rfl, rfl, HJ2.out⟩
           case measure => simp [intOf]; omega
          ·have HCx : Hid (y.Can d' k) := HCan.out.2 (by omega)
           clear HCan
           have HCn : Hid (y.Can d' k) := HCx.out
           have HPu : Hid (y.Put (up d' k)) := .next OQ.out.1.pu hlt HCn.out
           have hsu := sumL_up (d := d') hlt
           have hsl := sumL_le HPu.out.le y.n
           have HLE : Hid (((sumL y.l y.n - sumL d' y.n : Nat) : Int) - 1 = ((sumL y.l y.n - sumL (up d' k) y.n : Nat) : Int)) := by
            show ((sumL y.l y.n - sumL d' y.n : Nat) : Int) - 1 = ((sumL y.l y.n - sumL (up d' k) y.n : Nat) : Int)
            omega
           have hA1 : ((sumL y.l y.n - sumL d' y.n : Nat) : Int) <= 1000 := by have := HSM.out; omega
           have hA0 : (1 : Int) <= ((sumL y.l y.n - sumL d' y.n : Nat) : Int) := by omega
           have HNx : Hid (Od w (wq.setCell ⟨D, k, none⟩ (.int .i64 ((d' k : Int) + 1))) w.heap.size D ha hc y (up d' k) ∧ D < (wq.setCell ⟨D, k, none⟩ (.int .i64 ((d' k : Int) + 1))).heap.size ∧ (true = true → sumL d y.n < sumL (up d' k) y.n) ∧ (true = false → up d' k = d ∧ ∀ p, p < k + 1 → ¬ y.Can d p)) := ⟨OQ.out.1.set hlt HCn.out (by have := HDW.out; omega) (by have := HDW.out; omega), by simpa [World.setCell] using OQ.out.2.1, (fun _ => by
            rcases zK t' with h5 | h5
            ·have := OQ.out.2.2.1 h5
             omega
            ·have := (OQ.out.2.2.2 h5).1
             rw [this] at hsu ⊢
             omega), (fun h => by cases h)⟩
           have dkq := OQ.out.1.od.c k hlt
           have frq := OQ.out.1.od.fr
           clear hsu hsl OQ
           generalize hAA : ((sumL y.l y.n - sumL d' y.n : Nat) : Int) = AA at *
           clear hAA
           go_wp2
           go_roundw
           case rel => exact ⟨k + 1, true, up d' k, by omega, by go_num, rfl, by rw [HLE.out], HNx.out⟩
           case measure => simp [intOf]; omega
      ·have hkn : k = y.n := by omega
       subst hkn
       have HF : Hid (2 * (sumL y.l y.n - sumL d' y.n) + (if t' = true then 1 else 0) < gk) := by
        have h2 := HGN.out
        have h3 := sumL_le HJ.out.1.pu.le y.n
        show _ < gk
        cases t' with
        | true =>
         have h4 := HJ.out.2.2.1 rfl
         simp only [if_true]
         omega
        | false =>
         have h4 := (HJ.out.2.2.2 rfl).1
         rw [h4]
         simp only [Bool.false_eq_true, if_false]
         omega
       have HG2 : Hid (Od w wr w.heap.size D ha hc y d' ∧ D < wr.heap.size ∧ (t' = false → ∀ p, p < y.n → ¬ y.Can d' p)) := ⟨HJ.out.1, HJ.out.2.1, fun h p hp => by
        have := HJ.out.2.2.2 h
        rw [this.1]
        exact this.2 p hp⟩
       clear HJ
       go_wp2
       go_roundg (2 * (sumL y.l y.n - sumL d' y.n) + (if t' = true then 1 else 0))
       case measure => exact HF.out
       case rel => exact ⟨t', d', rfl, rfl, rfl, HG2.out⟩
    ·have HR : Hid ((((sumL y.l y.n - sumL d y.n : Nat) : Int) == 0) = qB y.Row) := by
      show (((sumL y.l y.n - sumL d y.n : Nat) : Int) == 0) = qB y.Row
      have hi := Hs.row_iff HI.out.1.pu HH.out.1 (HI.out.2.2 rfl)
      have hle := HI.out.1.pu.le
      by_cases hr : y.Row
      ·have : sumL d y.n = sumL y.l y.n := sumL_same fun i hi' => hi.1 hr i hi'
       rw [qB_true hr, this]
       simp
      ·rw [qB_false hr]
       have : sumL y.l y.n - sumL d y.n ≠ 0 := fun e => hr (hi.2 (sumL_all hle _ (by have := sumL_le hle y.n; omega)))
       have h2 : ((sumL y.l y.n - sumL d y.n : Nat) : Int) ≠ 0 := by omega
       simpa using h2
     have HB : Hid (Below w.heap.size w wr) := HI.out.1.be
     clear HI hgn
     go_wp2
     go_ret
     rw [HR.out]
     exact ⟨rfl, HB.out⟩
def flW (h : Nat -> Wo2) : Nat -> List Value
 | 0 => []
 | n + 1 => flW h n ++ [.int .i64 (h n).m, .int .i64 (h n).v]
theorem flW_length (h : Nat -> Wo2) : ∀ n, (flW h n).length = n * 2
 | 0 => rfl
 | n + 1 => by
  rw [flW, List.length_append, flW_length h n]
  simp
  omega
theorem flW_at (h : Nat -> Wo2) : ∀ n i, i < n -> (flW h n)[i * 2]? = some (.int .i64 (h i).m) /\ (flW h n)[i * 2 + 1]? = some (.int .i64 (h i).v)
 | 0, i, hi => by omega
 | n + 1, i, hi => by
  have hl := flW_length h n
  by_cases e : i = n
  ·subst e
   rw [flW, List.getElem?_append_right (by omega), List.getElem?_append_right (by omega), hl]
   simp
  ·obtain ⟨h0, h1⟩ := flW_at h n i (by omega)
   rw [flW, List.getElem?_append_left (by omega), List.getElem?_append_left (by omega)]
   exact ⟨h0, h1⟩
def OwR (w : World) (B : Nat) (v : Value) (n : Nat) (h : Nat -> Wo2) : Prop := w.ownsRow B 57 2 v n (flW h n) /\ v ≠ .slice none 0 0
theorem OwR.form {w : World} {B n : Nat} {v : Value} {h : Nat -> Wo2} (o : OwR w B v n h) : ∃ g cap, v = .slice (some ⟨g, 0, none⟩) n cap /\ B <= g /\ g < w.heap.size /\ WoAt w g 0 n h /\ ∀ j, w.frozen? ⟨g, j, none⟩ = false := by
 obtain ⟨ho, hv⟩ := o
 rcases ho.2 with ⟨h0, _⟩ | ⟨g, cap, cur, rfl, hb, _⟩
 ·exact absurd h0 hv
 ·refine ⟨g, cap, rfl, hb, (ho.lt g rfl).2, fun i hi => ?_, fun j => ho.frozenAt j⟩
  obtain ⟨f0, f1⟩ := flW_at h n i hi
  rw [Nat.zero_add, ho.cellAt _ (by omega), ho.cellAt _ (by omega)]
  exact ⟨f0, f1⟩
theorem OwR.ofBlock {w w' : World} {B n : Nat} {v : Value} {h : Nat -> Wo2} (o : OwR w B v n h) (ha : ∀ k, v.ownBlock = some k -> w'.heap[k]? = w.heap[k]?) : OwR w' B v n h := by
 obtain ⟨ho, hv⟩ := o
 refine ⟨?_, hv⟩
 rcases ho.2 with ⟨rfl, h0⟩ | ⟨g, cap, cur, rfl, hb, hg, hr⟩
 ·exact absurd rfl hv
 ·refine ⟨ho.1, .inr ⟨g, cap, cur, rfl, hb, ?_, hr⟩⟩
  rw [ha g rfl]
  exact hg
theorem OwR.lt {w : World} {B n : Nat} {v : Value} {h : Nat -> Wo2} (o : OwR w B v n h) : ∀ j, v.ownBlock = some j -> B <= j /\ j < w.heap.size := fun j hj => o.1.lt j hj
theorem OwR.mono {w : World} {B B' n : Nat} {v : Value} {h : Nat -> Wo2} (o : OwR w B v n h) (hb : B' <= B) : OwR w B' v n h := ⟨o.1.mono hb, o.2⟩
theorem OwR.below {w w' : World} {B n : Nat} {v : Value} {h : Nat -> Wo2} (o : OwR w B v n h) (hb : Below w.heap.size w w') : OwR w' B v n h := o.ofBlock fun k hk => hb.block k (o.lt k hk).2
theorem OwR.touch {w w' : World} {B n : Nat} {v : Value} {h : Nat -> Wo2} {P : Nat -> Prop} (o : OwR w B v n h) (ht : Touch P w w') (hp : ∀ g, v.ownBlock = some g -> ¬ P g) : OwR w' B v n h := o.ofBlock fun k hk => ht.block k (o.lt k hk).2 (hp k hk)
theorem OwR.empty (w : World) (h : Nat -> Wo2) : OwR (w.alloc (.cells #[] 57)) w.heap.size (.slice (some ⟨w.heap.size, 0, none⟩) 0 0) 0 h := ⟨World.ownsRow_lit w #[] 0 (Nat.le_refl _) (by unfold maxLen; omega) rfl, by simp⟩
theorem info_who : ∃ i, Tryz.prog.info? 57 = some i /\ i.zero = some (woV 0 0) /\ i.size = 2 /\ i.bytes = 16 := by
 have hinfo := infoWo
 cases hi : Tryz.prog.info? 57 with
 | none => rw [hi] at hinfo; cases hinfo
 | some i =>
  rw [hi] at hinfo
  simp only [Option.map_some, Option.some.injEq, Prod.mk.injEq] at hinfo
  exact ⟨i, rfl, hinfo⟩
def markW (k : Int) (i : Nat) : Wo2 := ⟨k + 2 * i, k + 2 * i + 1⟩
theorem markWhoS_own (b len cap : Nat) (k : Int) (w : World) (hlen : len <= 1048576) (k0 : 0 <= k) (k1 : k <= 100000000) (h : RoomWo w b len) :
  Calls Tryz.prog 14 #[.slice (some ⟨b, 0, none⟩) len cap, .int .i64 k] w fun e w' => e = .returned (.int .i64 (k + 2 * len)) /\ w.grownBy w' (some b) /\ WoAt w' b 0 len (markW k) := by
 have hl' : (len : Int) <= 1048576 := by omega
 have HO : Hid (RoomWo w b len) := h
 clear h
 go_enter Tryz.func14, Tryz.ntmps14
 go_wp2_with fail
 go_loopw [1, 5] (fun q i wr => ∃ j : Nat, j <= len /\ i = .int .i64 j /\ q = .int .i64 (k + 2 * j) /\ Hid (RoomWo wr b len /\ w.grownBy wr (some b) /\ WoAt wr b 0 j (markW k))) (fun _ i _ => len - (intOf i).toNat)
 case atStart => exact ⟨0, Nat.zero_le _, rfl, by simp, HO.out, World.grownBy.refl _ _, fun i hi => by omega⟩
 case round =>
  clear HO
  obtain ⟨j, hj, rfl, rfl, HR⟩ := hrel
  by_cases hlt : j < len
  ·have hlt' : (j : Int) < (len : Int) := by omega
   obtain ⟨u0, c0⟩ := HR.out.1.1 (j * 2) (by omega)
   obtain ⟨u1, c1⟩ := HR.out.1.1 (j * 2 + 1) (by omega)
   have fz := HR.out.1.2
   go_wp2
   go_roundw
   case rel =>
    refine ⟨j + 1, by omega, by go_num, by go_num, ?_⟩
    have hc : ∀ (o : Nat) (u : Value) (W : World) (t : Nat), o ≠ t -> (W.setCell ⟨b, o, none⟩ u).cell? ⟨b, t, none⟩ = W.cell? ⟨b, t, none⟩ := fun o u W t hne => World.cell?_setCell_other _ _ _ _ fun e => hne (by injection e)
    refine ⟨?_, ?_, fun i hi => ?_⟩
    ·repeat (refine RoomWo.set ?_ _ _)
     exact HR.out.1
    ·repeat (refine zU ?_ (.inl rfl) _)
     exact HR.out.2.1
    ·rw [Nat.zero_add]
     by_cases e : i = j
     ·subst e
      refine ⟨?_, ?_⟩
      ·rw [hc _ _ _ _ (by omega)]
       exact World.cell?_setCell_same _ _ _ c0
      ·exact World.cell?_setCell_same _ _ _ ((hc _ _ _ _ (by omega)).trans c1)
     ·obtain ⟨d0, d1⟩ := HR.out.2.2 i (by omega)
      rw [Nat.zero_add] at d0 d1
      exact ⟨(hc _ _ _ _ (by omega)).trans ((hc _ _ _ _ (by omega)).trans d0), (hc _ _ _ _ (by omega)).trans ((hc _ _ _ _ (by omega)).trans d1)⟩
   case measure => simp [intOf]; omega
  ·have hlt' : ¬ (j : Int) < (len : Int) := by omega
   have hjl : j = len := by omega
   subst hjl
   have HF : Hid (w.grownBy wr (some b) /\ WoAt wr b 0 j (markW k)) := HR.out.2
   clear HR
   go_wp2
   go_ret
   exact ⟨rfl, HF.out⟩
theorem heldWhoS_marks (b len cap : Nat) (k : Int) (w : World) (hlen : len <= 1048576) (k0 : 0 <= k) (k1 : k <= 100000000) (h : WoAt w b 0 len (markW k)) :
  Calls Tryz.prog 18 #[.slice (some ⟨b, 0, none⟩) len cap, .int .i64 k] w fun e w' => e = .returned (.int .i64 (k + 2 * len)) /\ Below w.heap.size w w' := by
 have hl' : (len : Int) <= 1048576 := by omega
 have HO : Hid (WoAt w b 0 len (markW k)) := h
 clear h
 go_enter Tryz.func18, Tryz.ntmps18
 go_wp2_with fail
 go_loopw [1, 5] (fun q i wr => ∃ j : Nat, j <= len /\ i = .int .i64 j /\ q = .int .i64 (k + 2 * j) /\ Below w.heap.size w wr) (fun _ i _ => len - (intOf i).toNat)
 case atStart => exact ⟨0, Nat.zero_le _, rfl, by simp, Below.refl _ _⟩
 case round =>
  obtain ⟨j, hj, rfl, rfl, hbw⟩ := hrel
  by_cases hlt : j < len
  ·have hlt' : (j : Int) < (len : Int) := by omega
   obtain ⟨c0, c1⟩ := HO.out j hlt
   rw [Nat.zero_add] at c0 c1
   have hb : b < w.heap.size := cell_lt c0
   have c0' : wr.cell? ⟨b, j * 2, none⟩ = some (.int .i64 (k + 2 * (j : Int))) := (hbw.cell (p := ⟨b, j * 2, none⟩) hb).trans c0
   have c1' : wr.cell? ⟨b, j * 2 + 1, none⟩ = some (.int .i64 (k + 2 * (j : Int) + 1)) := (hbw.cell (p := ⟨b, j * 2 + 1, none⟩) hb).trans c1
   clear c0 c1 hb
   go_wp2_with fail
   exact ⟨⟨j + 1, by omega, by go_num, by go_num, hbw⟩, by simp [intOf]; omega⟩
  ·have hlt' : ¬ (j : Int) < (len : Int) := by omega
   have hjl : j = len := by omega
   subst hjl
   go_wp2
   go_ret
   exact ⟨rfl, hbw⟩
theorem markSys_le (x : SysIn) (lo hi : Nat) (v : Value) (w : World) (hs : x.size <= 1048576) (o : IsSys w lo hi x v) :
  Calls Tryz.prog 13 #[v, .int .i64 1] w fun e w' => (∃ z : Int, e = .returned (.int .i64 z) /\ ¬ z < 0 /\ z <= 30000000) /\ Touch (fun b => lo <= b /\ b < hi) w w' := by
 obtain ⟨D1, D2, D3, D4, b1, vs, b3, b4, h1, h2, h3, o⟩ := o
 have HS : Hid (x.size <= 1048576) := hs
 obtain ⟨q1, q2, q3, q4, -⟩ := o.hi
 have OO : Hid (OutSys w lo hi x v D1 D2 D3 D4 b1 vs b3 b4 h1 h2 h3) := o
 have QQ : Hid (h1 <= hi /\ h2 <= hi /\ h3 <= hi /\ hi <= w.heap.size) := ⟨q1, q2, q3, q4⟩
 obtain ⟨rfl, p1, s1, w1, i1, y1, y2, y3, y4⟩ := o
 have Y : Hid (lo <= D1 /\ h1 <= D2 /\ h2 <= D3 /\ h3 <= D4 /\ D1 < h1 /\ D2 < h2 /\ D3 < h3 /\ D4 < hi) := ⟨y1, y2, y3, y4, p1.lt, s1.lt, w1.lt, i1.lt⟩
 have P1 : Hid (OutIns w D1 h1 x.pn x.pL b1 x.pH) := p1
 have S1 : Hid (OutState w D2 h2 x.sn x.sS vs) := s1
 have W1 : Hid (OutItem w D3 h3 x.wn x.wL b3 x.wH) := w1
 have I1 : Hid (OutEvent w D4 hi x.hn x.hL b4 x.hH) := i1
 clear p1 s1 w1 i1 y1 y2 y3 y4 q1 q2 q3 q4 hs OO
 have X0 : Hid (MkY w (w.alloc (oQ4 (some ⟨D1, 0, none⟩) x.pn x.pn (some ⟨D2, 0, none⟩) x.sn x.sn (some ⟨D3, 0, none⟩) x.wn x.wn (some ⟨D4, 0, none⟩) x.hn x.hn)) lo hi D1 D2 D3 D4 x) := ⟨Touch.of_below (below_allocS _ _), BoxC.new w (.slice (some ⟨D1, 0, none⟩) x.pn x.pn) (.slice (some ⟨D2, 0, none⟩) x.sn x.sn) (.slice (some ⟨D3, 0, none⟩) x.wn x.wn) (.slice (some ⟨D4, 0, none⟩) x.hn x.hn) 36, by simp⟩
 have BA : Hid (Below w.heap.size w (w.alloc (oQ4 (some ⟨D1, 0, none⟩) x.pn x.pn (some ⟨D2, 0, none⟩) x.sn x.sn (some ⟨D3, 0, none⟩) x.wn x.wn (some ⟨D4, 0, none⟩) x.hn x.hn))) := below_allocS _ _
 go_enter Tryz.func13, Tryz.ntmps13
 go_wp2_with fail
 generalize w.alloc (oQ4 (some ⟨D1, 0, none⟩) x.pn x.pn (some ⟨D2, 0, none⟩) x.sn x.sn (some ⟨D3, 0, none⟩) x.wn x.wn (some ⟨D4, 0, none⟩) x.hn x.hn) = wA at *
 refine (markInsSS_any D1 h1 x.pn x.pn x.pL b1 x.pH 1 wA (SysIn.lens HS.out).1.1 (SysIn.lens HS.out).1.2 (by omega) (by omega) (P1.out.below BA.out (by have := QQ.out; omega))).mono ?_
 rintro e w1 ⟨rfl, t1⟩
 have X1 : Hid (MkY w w1 lo hi D1 D2 D3 D4 x) := X0.out.step (by have := QQ.out; omega) t1 fun b hb => by have := QQ.out; have := Y.out; omega
 have KS : Hid (OutState w1 D2 h2 x.sn x.sS vs) := (S1.out.below BA.out (by have := QQ.out; omega)).keep t1.size fun k hk1 hk2 => t1.block k (by have := BA.out.size; have := QQ.out; omega) (fun e => by have := Y.out; omega)
 have KW : Hid (OutItem w1 D3 h3 x.wn x.wL b3 x.wH) := (W1.out.below BA.out (by have := QQ.out; omega)).keep t1.size fun k hk1 hk2 => t1.block k (by have := BA.out.size; have := QQ.out; omega) (fun e => by have := Y.out; omega)
 have KI : Hid (OutEvent w1 D4 hi x.hn x.hL b4 x.hH) := (I1.out.below BA.out (by have := QQ.out; omega)).keep t1.size fun k hk1 hk2 => t1.block k (by have := BA.out.size; have := QQ.out; omega) (fun e => by have := Y.out; omega)
 have z1 : 0 <= (1 : Int) + 5 * (sumL x.pL x.pn : Nat) /\ (1 : Int) + 5 * (sumL x.pL x.pn : Nat) <= 6000000 := by have := (SysIn.lens HS.out).1.2; omega
 generalize (1 : Int) + 5 * (sumL x.pL x.pn : Nat) = Z1 at *
 have HZ1 : Hid (0 <= Z1 /\ Z1 <= 6000000) := z1
 clear t1 X0 P1 S1 W1 I1 BA z1
 obtain ⟨-, ⟨p0, p1, p2, p3⟩, lt⟩ := X1.out
 go_wp2_with fail
 clear p0 p1 p2 p3 lt
 refine (markStateS_any D2 h2 x.sn x.sn x.sS vs Z1 w1 (SysIn.lens HS.out).2.1.1 (SysIn.lens HS.out).2.1.2 HZ1.out.1 (by have := HZ1.out; omega) KS.out).mono ?_
 rintro e w2 ⟨rfl, t2⟩
 have X2 : Hid (MkY w w2 lo hi D1 D2 D3 D4 x) := X1.out.step (by have := QQ.out; omega) t2 fun b hb => by have := QQ.out; have := Y.out; omega
 have KW2 : Hid (OutItem w2 D3 h3 x.wn x.wL b3 x.wH) := KW.out.keep t2.size fun k hk1 hk2 => t2.block k (zL hk2 KW.out.le) (fun e => by have := Y.out; omega)
 have KI2 : Hid (OutEvent w2 D4 hi x.hn x.hL b4 x.hH) := KI.out.keep t2.size fun k hk1 hk2 => t2.block k (zL hk2 KI.out.le) (fun e => by have := Y.out; omega)
 have z2 : 0 <= Z1 + (2 * x.sn + sumL (lenS x.sS) x.sn : Nat) /\ Z1 + (2 * x.sn + sumL (lenS x.sS) x.sn : Nat) <= 12000000 := by have := (SysIn.lens HS.out).2.1; have := HZ1.out; omega
 generalize Z1 + (2 * x.sn + sumL (lenS x.sS) x.sn : Nat) = Z2 at *
 have HZ2 : Hid (0 <= Z2 /\ Z2 <= 12000000) := z2
 clear t2 X1 KS KW KI z2 HZ1
 obtain ⟨-, ⟨p0, p1, p2, p3⟩, lt⟩ := X2.out
 go_wp2_with fail
 clear p0 p1 p2 p3 lt
 refine (markItemSS_any D3 h3 x.wn x.wn x.wL b3 x.wH Z2 w2 (SysIn.lens HS.out).2.2.1.1 (SysIn.lens HS.out).2.2.1.2 HZ2.out.1 (by have := HZ2.out; omega) KW2.out).mono ?_
 rintro e w3 ⟨rfl, t3⟩
 have X3 : Hid (MkY w w3 lo hi D1 D2 D3 D4 x) := X2.out.step (by have := QQ.out; omega) t3 fun b hb => by have := QQ.out; have := Y.out; omega
 have KI3 : Hid (OutEvent w3 D4 hi x.hn x.hL b4 x.hH) := KI2.out.keep t3.size fun k hk1 hk2 => t3.block k (zL hk2 KI2.out.le) (fun e => by have := Y.out; omega)
 have z3 : 0 <= Z2 + 2 * (sumL x.wL x.wn : Nat) /\ Z2 + 2 * (sumL x.wL x.wn : Nat) <= 18000000 := by have := (SysIn.lens HS.out).2.2.1; have := HZ2.out; omega
 generalize Z2 + 2 * (sumL x.wL x.wn : Nat) = Z3 at *
 have HZ3 : Hid (0 <= Z3 /\ Z3 <= 18000000) := z3
 clear t3 X2 KW2 KI2 z3 HZ2
 obtain ⟨-, ⟨p0, p1, p2, p3⟩, lt⟩ := X3.out
 go_wp2_with fail
 clear p0 p1 p2 p3 lt
 refine (markEventSS_any D4 hi x.hn x.hn x.hL b4 x.hH Z3 w3 (SysIn.lens HS.out).2.2.2.1 (SysIn.lens HS.out).2.2.2.2 HZ3.out.1 (by have := HZ3.out; omega) KI3.out).mono ?_
 rintro e w4 ⟨rfl, t4⟩
 have X4 : Hid (MkY w w4 lo hi D1 D2 D3 D4 x) := X3.out.step (by have := QQ.out; omega) t4 fun b hb => by have := QQ.out; have := Y.out; omega
 have HZ4 : Hid (¬ Z3 + 3 * (sumL x.hL x.hn : Nat) < 0 /\ Z3 + 3 * (sumL x.hL x.hn : Nat) <= 30000000) := by
  show ¬ Z3 + 3 * (sumL x.hL x.hn : Nat) < 0 /\ Z3 + 3 * (sumL x.hL x.hn : Nat) <= 30000000
  have := HZ3.out
  have := (SysIn.lens HS.out).2.2.2.2
  omega
 generalize Z3 + 3 * (sumL x.hL x.hn : Nat) = Z4 at *
 clear t4 X3 KI3 HZ3
 go_wp2
 go_ret
 exact ⟨⟨_, rfl, HZ4.out⟩, X4.out.tch⟩
end Go.Proofs.YthdaejgmfognbabGreatDoor
