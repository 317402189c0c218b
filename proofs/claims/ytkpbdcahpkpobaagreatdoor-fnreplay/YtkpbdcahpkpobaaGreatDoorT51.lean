/- The walk of the law on a run done once more: FnReplay. -/
import Derived.Test.YtkpbdcahpkpobaaGreatDoorT39
import Derived.Deep.RegionLaw
import Derived.Laws.IdiomCopy
import Derived.Test.YtkpbdcahpkpobaaGreatDoorT32
import Derived.Test.YtkpbdcahpkpobaaGreatDoorT20
import Derived.Lib.QuietBelow
import Derived.Test.YtkpbdcahpkpobaaGreatDoorT48
import Derived.Test.YtkpbdcahpkpobaaGreatDoorT37
import Derived.Deep.RegionWith
import Derived.Deep.CutRange
namespace Go.Proofs.YtkpbdcahpkpobaaGreatDoor
open Go.RowKit

set_option maxRecDepth 100000 in
set_option maxHeartbeats 8000000 in
theorem l3DrawEvents_any (W0 c len cap : Nat) (a0 : Option Addr) (gb n gc : Nat) (g : Nat → I5) (w : World) (hc : Cur w W0 c a0 len cap) (hn : n ≤ 31) (hg : gb < w.heap.size) (hgc : gb ≠ c) (hI : InsAt w gb 0 n g) :
    Calls Tryz.prog 56 #[.pointer (some ⟨c, 0, none⟩), .slice (some ⟨gb, 0, none⟩) n gc] w fun e w' => ∃ v k, e = .returned v ∧ k ≤ 25 ∧ LstE w' w.heap.size v k ∧ Cur w' W0 c a0 len cap ∧ w.grownBy w' (some c) := by
  have HC0 : Hid (Cur w W0 c a0 len cap) := hc
  have HI : Hid (InsAt w gb 0 n g) := hI
  have hcl := hc.lt
  have hcg := hc.ge
  have HL : Hid (n ≤ maxLen) := by
    show n ≤ maxLen
    unfold maxLen
    omega
  clear hc hI
  go_enter Tryz.func56, Tryz.ntmps56
  go_wp2_with fail
  refine (specStateNew_any _).mono ?_
  rintro e w1 ⟨v1, rfl, o1, b1⟩
  obtain ⟨ra1, rc1, oa1, oc1, rfl, -, -⟩ := o1.read
  have bA := below_alloc w (.cells #[] 36)
  have bB := below_alloc w1 (.cells #[.int .i64 0, .slice ra1 4 rc1, .slice oa1 0 oc1, .int .i64 0] 30)
  have z1 : w.heap.size < w1.heap.size := by have := b1.size; simp at this; omega
  have D1 : Hid (Dr w (w1.alloc (.cells #[.int .i64 0, .slice ra1 4 rc1, .slice oa1 0 oc1, .int .i64 0] 30)) (w1.heap.size + 1) W0 c len cap a0 w1.heap.size (.slice (some ⟨w.heap.size, 0, none⟩) 0 0) 0 0 0 ra1 rc1 oa1 oc1 [0, 0, 0, 0] []) := by
    have o1' : StOwn w1 w.heap.size (stV 0 ra1 4 rc1 oa1 0 oc1 0) 0 [0, 0, 0, 0] [] 0 := o1.mono (by simp)
    have bC : Below w.heap.size w (w1.alloc (.cells #[.int .i64 0, .slice ra1 4 rc1, .slice oa1 0 oc1, .int .i64 0] 30)) := bA.trans ((b1.trans (bB.mono b1.size)).mono bA.size)
    refine ⟨((LstE.empty w).below b1).below bB, HC0.out.kept (grown_of_below bC) (by simp) (fun k e => by cases e), grown_any (grown_of_below bC) _, Tl.of_alloc o1' (by omega) _, fun j => new_frozen _ _ _ j rfl, fun j hj => ?_, ?_, fun j hj => ?_, by simp, by simp⟩
    · simp [Value.ownBlock] at hj
      omega
    · simp [Value.ownBlock]
      omega
    · have hh := (o1.lt hj).1
      simp [Value.ownBlock] at hh ⊢
      omega
  clear o1 b1 bA bB HC0
  go_wp2_with fail
  generalize w1.alloc (.cells #[.int .i64 0, .slice ra1 4 rc1, .slice oa1 0 oc1, .int .i64 0] 30) = w2 at *
  refine (l1Below_any W0 c len cap a0 _ _ D1.out.cu (by omega) (by omega)).mono ?_
  rintro e w3 ⟨m', rfl, ⟨m0, m1⟩, hc3, hg3⟩
  obtain ⟨m, rfl⟩ : ∃ m : Nat, m' = m := ⟨m'.toNat, by omega⟩
  have D3 : Hid (Dr w w3 (w1.heap.size + 1) W0 c len cap a0 w1.heap.size (.slice (some ⟨w.heap.size, 0, none⟩) 0 0) 0 0 0 ra1 rc1 oa1 oc1 [0, 0, 0, 0] []) := D1.out.turn hcl hc3 hg3
  clear hc3 hg3 D1
  generalize w1.heap.size = Bs at *
  go_wp2_with fail
  go_loopw [5, 8] (fun o i wr => ∃ k : Nat, k ≤ m ∧ i = .int .i64 k ∧ Hid (∃ p code ra rc oa oc rs os, Dr w wr wr.heap.size W0 c len cap a0 Bs o k p code ra rc oa oc rs os)) (fun _ i _ => m - (intOf i).toNat)
  case atStart => exact ⟨0, Nat.zero_le _, rfl, _, _, _, _, _, _, _, _, D3.out.widen⟩
  case round =>
    clear D3
    obtain ⟨k, hk, rfl, HD⟩ := hrel
    obtain ⟨p, code, ra, rc, oa, oc, rs, os, hD⟩ := HD.out
    have DR : Hid (Dr w wr wr.heap.size W0 c len cap a0 Bs u5 k p code ra rc oa oc rs os) := hD
    clear HD hD
    by_cases hlt : k < m
    · have hlt' : (k : Int) < (m : Int) := by omega
      obtain ⟨c0, c1, c2, c3⟩ := DR.out.tl.box
      go_wp2_with fail
      refine (specNext_any _ _ _ _ g p code ra oa rc oc rs os _ HL.out (DR.out.ins HI.out hg hgc).2 (DR.out.ins HI.out hg hgc).1 DR.out.lr DR.out.lo DR.out.tl.sl.1 DR.out.tl.sl.2).mono ?_
      rintro e w4 ⟨rfl, b4⟩
      generalize nxK g n p rs os code = K at *
      generalize nxP g n p rs os code = P at *
      generalize nxW g n p rs os code = V at *
      have z4 : wr.heap.size ≤ w4.heap.size := b4.size
      have D5 : Hid (Dr w (w4.alloc (.cells #[.int .i64 K, .int .i64 P, .int .i64 V] 36)) wr.heap.size W0 c len cap a0 Bs u5 k p code ra rc oa oc rs os) := (DR.out.below b4).below (below_alloc _ _)
      have E5 : Hid (EvB (w4.alloc (.cells #[.int .i64 K, .int .i64 P, .int .i64 V] 36)) w4.heap.size K P V) := EvB.new w4 K P V _
      have dB : Bs ≠ w4.heap.size := by have := DR.out.tl.hi; omega
      have dB' : w4.heap.size ≠ Bs := fun e => dB e.symm
      have dc : w4.heap.size ≠ c := by have := DR.out.tl.lo; have := DR.out.tl.hi; omega
      clear b4 DR c0 c1 c2 c3
      obtain ⟨⟨e0, e1, e2⟩, ef⟩ := E5.out
      obtain ⟨c0, c1, c2, c3⟩ := D5.out.tl.box
      rcases Bool.eq_false_or_eq_true (K == 3) with tK | tK
      case inr =>
        go_wp2_with fail
        generalize w4.alloc (.cells #[.int .i64 K, .int .i64 P, .int .i64 V] 36) = wx at *
        have DX := D5
        have EX := E5
        clear D5 E5
        refine (specDo_any gb 0 n _ g p code ra oa rc oc rs os K P V _ HL.out (DX.out.ins HI.out hg hgc).2 (DX.out.ins HI.out hg hgc).1 DX.out.lr DX.out.lo DX.out.tl.sl.1 DX.out.tl.sl.2).mono ?_
        rintro e w11 hd
        have hSl := doS_len g n p rs os code K P V DX.out.lr DX.out.lo
        generalize doS g n p rs os code K P V = S at hd hSl
        generalize doB g n p rs os code K P V = T at hd
        obtain ⟨v11, rfl, o11, b11⟩ := hd
        obtain ⟨ra11, rc11, oa11, oc11, rfl, -, -⟩ := o11.read
        have SL : Hid (S.rs.length ≤ 1048576 ∧ S.os.length ≤ 1048576) := hSl
        have D12 : Hid (Dr w (w11.alloc (.cells #[.int .i64 S.p, .slice ra11 S.rs.length rc11, .slice oa11 S.os.length oc11, .int .i64 S.c] 30)) wr.heap.size W0 c len cap a0 Bs u5 k p code ra rc oa oc rs os) := (DX.out.below b11).below (below_alloc _ _)
        have E12 : Hid (EvB (w11.alloc (.cells #[.int .i64 S.p, .slice ra11 S.rs.length rc11, .slice oa11 S.os.length oc11, .int .i64 S.c] 30)) w4.heap.size K P V) := (EX.out.block (b11.block _ EX.out.lt)).block ((below_alloc _ _).block _ (Nat.lt_of_lt_of_le EX.out.lt b11.size))
        have O12 : Hid (StOwn (w11.alloc (.cells #[.int .i64 S.p, .slice ra11 S.rs.length rc11, .slice oa11 S.os.length oc11, .int .i64 S.c] 30)) wx.heap.size (stV S.p ra11 S.rs.length rc11 oa11 S.os.length oc11 S.c) S.p S.rs S.os S.c) := o11.below (below_alloc _ _)
        have N12 : Hid (BoxC (w11.alloc (.cells #[.int .i64 S.p, .slice ra11 S.rs.length rc11, .slice oa11 S.os.length oc11, .int .i64 S.c] 30)) w11.heap.size (.int .i64 S.p) (.slice ra11 S.rs.length rc11) (.slice oa11 S.os.length oc11) (.int .i64 S.c)) := BoxC.new w11 _ _ _ _ _
        have z11 : wx.heap.size ≤ w11.heap.size := b11.size
        have zX : wr.heap.size ≤ wx.heap.size := DX.out.tl.sz
        clear o11 b11 hSl c0 c1 c2 c3 e0 e1 e2 ef
        cases T
        case false =>
          go_wp2
          go_ret
          exact ⟨_, k, rfl, by omega, D12.out.ls, D12.out.cu, D12.out.gr⟩
        case true =>
          obtain ⟨⟨e0, e1, e2⟩, ef⟩ := E12.out
          go_wp2_with (at_builtin; refine append_stop rfl ?_)
          unfold STOP
          have zS : (w11.alloc (.cells #[.int .i64 S.p, .slice ra11 S.rs.length rc11, .slice oa11 S.os.length oc11, .int .i64 S.c] 30)).heap.size = w11.heap.size + 1 := by simp
          generalize w11.alloc (.cells #[.int .i64 S.p, .slice ra11 S.rs.length rc11, .slice oa11 S.os.length oc11, .int .i64 S.c] 30) = w12 at *
          have HZS : Hid (w12.heap.size = w11.heap.size + 1) := zS
          clear zS e0 e1 e2 ef
          refine append_evt w12 rfl _ _ rfl w.heap.size u5 k rfl D12.out.ls K P V (by simp [HZS.out, go_sem]) (by omega) (Nat.le_trans D12.out.tl.lo (Nat.le_of_lt (Nat.lt_of_lt_of_le D12.out.tl.hi D12.out.tl.sz))) ?_
          intro v' w13 l13 g13 a13
          have zB : Bs < w12.heap.size := Nat.lt_of_lt_of_le D12.out.tl.hi D12.out.tl.sz
          have yB := gcell g13 (b := Bs) zB (fun e => D12.out.nB e.symm)
          have yN := gcell g13 (b := w11.heap.size) (by rw [HZS.out]; exact Nat.lt_succ_self _) (fun e => by have := D12.out.oC _ e.symm; omega)
          obtain ⟨b0, b1, b2, b3⟩ := D12.out.tl.box
          obtain ⟨n0, n1, n2, n3⟩ := N12.out
          have s0 := (yB.1 0).trans b0
          have s1 := (yB.1 1).trans b1
          have s2 := (yB.1 2).trans b2
          have s3 := (yB.1 3).trans b3
          have sf := fun j => (yB.2 j).trans (D12.out.fz j)
          have t0 := (yN.1 0).trans n0
          have t1 := (yN.1 1).trans n1
          have t2 := (yN.1 2).trans n2
          have t3 := (yN.1 3).trans n3
          have L13 : Hid (LstE w13 w.heap.size v' (k + 1)) := l13
          have G13 : Hid (w12.grownBy w13 u5.ownBlock) := g13
          have A13 : Hid (∀ j, v'.ownBlock = some j → u5.ownBlock = some j ∨ w12.heap.size ≤ j) := a13
          clear yB yN b0 b1 b2 b3 n0 n1 n2 n3 l13 g13 a13
          go_wp2
          go_roundw
          case rel => exact ⟨k + 1, by omega, by go_num, _, _, _, _, _, _, _, _, (D12.out.next hcl hcg O12.out zX SL.out.1 SL.out.2 G13.out L13.out A13.out).widen⟩
          case measure => simp [intOf]; omega
      case inl =>
        rcases Bool.eq_false_or_eq_true (P == 9) with tP | tP
        case inl =>
          go_wp2_with fail
          generalize w4.alloc (.cells #[.int .i64 K, .int .i64 P, .int .i64 V] 36) = w5 at *
          refine (l1Below_any W0 c len cap a0 _ _ D5.out.cu (by omega) (by omega)).mono ?_
          rintro e w6 ⟨x, rfl, -, hc6, hg6⟩
          have D6 : Hid (Dr w (w6.setCell ⟨w4.heap.size, 1, none⟩ (.int .i64 x)) wr.heap.size W0 c len cap a0 Bs u5 k p code ra rc oa oc rs os) := (D5.out.turn hcl hc6 hg6).set hcl hcg z4 _ _
          have h6 := E5.out.block (hg6.block _ E5.out.lt (by simp [dc]))
          have E6 : Hid (EvB (w6.setCell ⟨w4.heap.size, 1, none⟩ (.int .i64 x)) w4.heap.size K x V) := h6.set1 x
          clear e0 e1 e2 ef c0 c1 c2 c3 D5 E5 hc6 hg6
          obtain ⟨⟨e0, e1, e2⟩, ef⟩ := h6
          go_wp2_with fail
          clear e0 e1 e2 ef
          generalize w6.setCell ⟨w4.heap.size, 1, none⟩ (.int .i64 x) = w7 at *
          refine (l1Below_any W0 c len cap a0 _ _ D6.out.cu (by omega) (by omega)).mono ?_
          rintro e w8 ⟨y, rfl, -, hc8, hg8⟩
          have h8 := E6.out.block (hg8.block _ E6.out.lt (by simp [dc]))
          have d8 := D6.out.turn hcl hc8 hg8
          have DX : Hid (Dr w (w8.setCell ⟨w4.heap.size, 2, none⟩ (.int .i64 y)) wr.heap.size W0 c len cap a0 Bs u5 k p code ra rc oa oc rs os) := d8.set hcl hcg z4 _ _
          have EX : Hid (EvB (w8.setCell ⟨w4.heap.size, 2, none⟩ (.int .i64 y)) w4.heap.size K x y) := h8.set2 y
          clear D6 E6 hc8 hg8
          obtain ⟨⟨e0, e1, e2⟩, ef⟩ := h8
          obtain ⟨c0, c1, c2, c3⟩ := d8.tl.box
          clear d8
          go_wp2_with fail
          generalize w8.setCell ⟨w4.heap.size, 2, none⟩ (.int .i64 y) = wx at *
          refine (specDo_any gb 0 n _ g p code ra oa rc oc rs os K x y _ HL.out (DX.out.ins HI.out hg hgc).2 (DX.out.ins HI.out hg hgc).1 DX.out.lr DX.out.lo DX.out.tl.sl.1 DX.out.tl.sl.2).mono ?_
          rintro e w11 hd
          have hSl := doS_len g n p rs os code K x y DX.out.lr DX.out.lo
          generalize doS g n p rs os code K x y = S at hd hSl
          generalize doB g n p rs os code K x y = T at hd
          obtain ⟨v11, rfl, o11, b11⟩ := hd
          obtain ⟨ra11, rc11, oa11, oc11, rfl, -, -⟩ := o11.read
          have SL : Hid (S.rs.length ≤ 1048576 ∧ S.os.length ≤ 1048576) := hSl
          have D12 : Hid (Dr w (w11.alloc (.cells #[.int .i64 S.p, .slice ra11 S.rs.length rc11, .slice oa11 S.os.length oc11, .int .i64 S.c] 30)) wr.heap.size W0 c len cap a0 Bs u5 k p code ra rc oa oc rs os) := (DX.out.below b11).below (below_alloc _ _)
          have E12 : Hid (EvB (w11.alloc (.cells #[.int .i64 S.p, .slice ra11 S.rs.length rc11, .slice oa11 S.os.length oc11, .int .i64 S.c] 30)) w4.heap.size K x y) := (EX.out.block (b11.block _ EX.out.lt)).block ((below_alloc _ _).block _ (Nat.lt_of_lt_of_le EX.out.lt b11.size))
          have O12 : Hid (StOwn (w11.alloc (.cells #[.int .i64 S.p, .slice ra11 S.rs.length rc11, .slice oa11 S.os.length oc11, .int .i64 S.c] 30)) wx.heap.size (stV S.p ra11 S.rs.length rc11 oa11 S.os.length oc11 S.c) S.p S.rs S.os S.c) := o11.below (below_alloc _ _)
          have N12 : Hid (BoxC (w11.alloc (.cells #[.int .i64 S.p, .slice ra11 S.rs.length rc11, .slice oa11 S.os.length oc11, .int .i64 S.c] 30)) w11.heap.size (.int .i64 S.p) (.slice ra11 S.rs.length rc11) (.slice oa11 S.os.length oc11) (.int .i64 S.c)) := BoxC.new w11 _ _ _ _ _
          have z11 : wx.heap.size ≤ w11.heap.size := b11.size
          have zX : wr.heap.size ≤ wx.heap.size := DX.out.tl.sz
          clear o11 b11 hSl c0 c1 c2 c3 e0 e1 e2 ef
          cases T
          case false =>
            go_wp2
            go_ret
            exact ⟨_, k, rfl, by omega, D12.out.ls, D12.out.cu, D12.out.gr⟩
          case true =>
            obtain ⟨⟨e0, e1, e2⟩, ef⟩ := E12.out
            go_wp2_with (at_builtin; refine append_stop rfl ?_)
            unfold STOP
            have zS : (w11.alloc (.cells #[.int .i64 S.p, .slice ra11 S.rs.length rc11, .slice oa11 S.os.length oc11, .int .i64 S.c] 30)).heap.size = w11.heap.size + 1 := by simp
            generalize w11.alloc (.cells #[.int .i64 S.p, .slice ra11 S.rs.length rc11, .slice oa11 S.os.length oc11, .int .i64 S.c] 30) = w12 at *
            have HZS : Hid (w12.heap.size = w11.heap.size + 1) := zS
            clear zS e0 e1 e2 ef
            refine append_evt w12 rfl _ _ rfl w.heap.size u5 k rfl D12.out.ls K x y (by simp [HZS.out, go_sem]) (by omega) (Nat.le_trans D12.out.tl.lo (Nat.le_of_lt (Nat.lt_of_lt_of_le D12.out.tl.hi D12.out.tl.sz))) ?_
            intro v' w13 l13 g13 a13
            have zB : Bs < w12.heap.size := Nat.lt_of_lt_of_le D12.out.tl.hi D12.out.tl.sz
            have yB := gcell g13 (b := Bs) zB (fun e => D12.out.nB e.symm)
            have yN := gcell g13 (b := w11.heap.size) (by rw [HZS.out]; exact Nat.lt_succ_self _) (fun e => by have := D12.out.oC _ e.symm; omega)
            obtain ⟨b0, b1, b2, b3⟩ := D12.out.tl.box
            obtain ⟨n0, n1, n2, n3⟩ := N12.out
            have s0 := (yB.1 0).trans b0
            have s1 := (yB.1 1).trans b1
            have s2 := (yB.1 2).trans b2
            have s3 := (yB.1 3).trans b3
            have sf := fun j => (yB.2 j).trans (D12.out.fz j)
            have t0 := (yN.1 0).trans n0
            have t1 := (yN.1 1).trans n1
            have t2 := (yN.1 2).trans n2
            have t3 := (yN.1 3).trans n3
            have L13 : Hid (LstE w13 w.heap.size v' (k + 1)) := l13
            have G13 : Hid (w12.grownBy w13 u5.ownBlock) := g13
            have A13 : Hid (∀ j, v'.ownBlock = some j → u5.ownBlock = some j ∨ w12.heap.size ≤ j) := a13
            clear yB yN b0 b1 b2 b3 n0 n1 n2 n3 l13 g13 a13
            go_wp2
            go_roundw
            case rel => exact ⟨k + 1, by omega, by go_num, _, _, _, _, _, _, _, _, (D12.out.next hcl hcg O12.out zX SL.out.1 SL.out.2 G13.out L13.out A13.out).widen⟩
            case measure => simp [intOf]; omega
        case inr =>
          go_wp2_with fail
          generalize w4.alloc (.cells #[.int .i64 K, .int .i64 P, .int .i64 V] 36) = w7 at *
          refine (l1Below_any W0 c len cap a0 _ _ D5.out.cu (by omega) (by omega)).mono ?_
          rintro e w8 ⟨y, rfl, -, hc8, hg8⟩
          have h8 := E5.out.block (hg8.block _ E5.out.lt (by simp [dc]))
          have d8 := D5.out.turn hcl hc8 hg8
          have DX : Hid (Dr w (w8.setCell ⟨w4.heap.size, 2, none⟩ (.int .i64 y)) wr.heap.size W0 c len cap a0 Bs u5 k p code ra rc oa oc rs os) := d8.set hcl hcg z4 _ _
          have EX : Hid (EvB (w8.setCell ⟨w4.heap.size, 2, none⟩ (.int .i64 y)) w4.heap.size K P y) := h8.set2 y
          clear D5 E5 hc8 hg8 e0 e1 e2 ef c0 c1 c2 c3
          obtain ⟨⟨e0, e1, e2⟩, ef⟩ := h8
          obtain ⟨c0, c1, c2, c3⟩ := d8.tl.box
          clear d8
          go_wp2_with fail
          generalize w8.setCell ⟨w4.heap.size, 2, none⟩ (.int .i64 y) = wx at *
          refine (specDo_any gb 0 n _ g p code ra oa rc oc rs os K P y _ HL.out (DX.out.ins HI.out hg hgc).2 (DX.out.ins HI.out hg hgc).1 DX.out.lr DX.out.lo DX.out.tl.sl.1 DX.out.tl.sl.2).mono ?_
          rintro e w11 hd
          have hSl := doS_len g n p rs os code K P y DX.out.lr DX.out.lo
          generalize doS g n p rs os code K P y = S at hd hSl
          generalize doB g n p rs os code K P y = T at hd
          obtain ⟨v11, rfl, o11, b11⟩ := hd
          obtain ⟨ra11, rc11, oa11, oc11, rfl, -, -⟩ := o11.read
          have SL : Hid (S.rs.length ≤ 1048576 ∧ S.os.length ≤ 1048576) := hSl
          have D12 : Hid (Dr w (w11.alloc (.cells #[.int .i64 S.p, .slice ra11 S.rs.length rc11, .slice oa11 S.os.length oc11, .int .i64 S.c] 30)) wr.heap.size W0 c len cap a0 Bs u5 k p code ra rc oa oc rs os) := (DX.out.below b11).below (below_alloc _ _)
          have E12 : Hid (EvB (w11.alloc (.cells #[.int .i64 S.p, .slice ra11 S.rs.length rc11, .slice oa11 S.os.length oc11, .int .i64 S.c] 30)) w4.heap.size K P y) := (EX.out.block (b11.block _ EX.out.lt)).block ((below_alloc _ _).block _ (Nat.lt_of_lt_of_le EX.out.lt b11.size))
          have O12 : Hid (StOwn (w11.alloc (.cells #[.int .i64 S.p, .slice ra11 S.rs.length rc11, .slice oa11 S.os.length oc11, .int .i64 S.c] 30)) wx.heap.size (stV S.p ra11 S.rs.length rc11 oa11 S.os.length oc11 S.c) S.p S.rs S.os S.c) := o11.below (below_alloc _ _)
          have N12 : Hid (BoxC (w11.alloc (.cells #[.int .i64 S.p, .slice ra11 S.rs.length rc11, .slice oa11 S.os.length oc11, .int .i64 S.c] 30)) w11.heap.size (.int .i64 S.p) (.slice ra11 S.rs.length rc11) (.slice oa11 S.os.length oc11) (.int .i64 S.c)) := BoxC.new w11 _ _ _ _ _
          have z11 : wx.heap.size ≤ w11.heap.size := b11.size
          have zX : wr.heap.size ≤ wx.heap.size := DX.out.tl.sz
          clear o11 b11 hSl c0 c1 c2 c3 e0 e1 e2 ef
          cases T
          case false =>
            go_wp2
            go_ret
            exact ⟨_, k, rfl, by omega, D12.out.ls, D12.out.cu, D12.out.gr⟩
          case true =>
            obtain ⟨⟨e0, e1, e2⟩, ef⟩ := E12.out
            go_wp2_with (at_builtin; refine append_stop rfl ?_)
            unfold STOP
            have zS : (w11.alloc (.cells #[.int .i64 S.p, .slice ra11 S.rs.length rc11, .slice oa11 S.os.length oc11, .int .i64 S.c] 30)).heap.size = w11.heap.size + 1 := by simp
            generalize w11.alloc (.cells #[.int .i64 S.p, .slice ra11 S.rs.length rc11, .slice oa11 S.os.length oc11, .int .i64 S.c] 30) = w12 at *
            have HZS : Hid (w12.heap.size = w11.heap.size + 1) := zS
            clear zS e0 e1 e2 ef
            refine append_evt w12 rfl _ _ rfl w.heap.size u5 k rfl D12.out.ls K P y (by simp [HZS.out, go_sem]) (by omega) (Nat.le_trans D12.out.tl.lo (Nat.le_of_lt (Nat.lt_of_lt_of_le D12.out.tl.hi D12.out.tl.sz))) ?_
            intro v' w13 l13 g13 a13
            have zB : Bs < w12.heap.size := Nat.lt_of_lt_of_le D12.out.tl.hi D12.out.tl.sz
            have yB := gcell g13 (b := Bs) zB (fun e => D12.out.nB e.symm)
            have yN := gcell g13 (b := w11.heap.size) (by rw [HZS.out]; exact Nat.lt_succ_self _) (fun e => by have := D12.out.oC _ e.symm; omega)
            obtain ⟨b0, b1, b2, b3⟩ := D12.out.tl.box
            obtain ⟨n0, n1, n2, n3⟩ := N12.out
            have s0 := (yB.1 0).trans b0
            have s1 := (yB.1 1).trans b1
            have s2 := (yB.1 2).trans b2
            have s3 := (yB.1 3).trans b3
            have sf := fun j => (yB.2 j).trans (D12.out.fz j)
            have t0 := (yN.1 0).trans n0
            have t1 := (yN.1 1).trans n1
            have t2 := (yN.1 2).trans n2
            have t3 := (yN.1 3).trans n3
            have L13 : Hid (LstE w13 w.heap.size v' (k + 1)) := l13
            have G13 : Hid (w12.grownBy w13 u5.ownBlock) := g13
            have A13 : Hid (∀ j, v'.ownBlock = some j → u5.ownBlock = some j ∨ w12.heap.size ≤ j) := a13
            clear yB yN b0 b1 b2 b3 n0 n1 n2 n3 l13 g13 a13
            go_wp2
            go_roundw
            case rel => exact ⟨k + 1, by omega, by go_num, _, _, _, _, _, _, _, _, (D12.out.next hcl hcg O12.out zX SL.out.1 SL.out.2 G13.out L13.out A13.out).widen⟩
            case measure => simp [intOf]; omega
    · have hkl : k = m := by omega
      go_wp2
      go_ret
      exact ⟨_, k, rfl, by omega, DR.out.ls, DR.out.cu, DR.out.gr⟩

end Go.Proofs.YtkpbdcahpkpobaaGreatDoor

namespace Go.Proofs.YtkpbdcahpkpobaaGreatDoor
open Go.RowKit Go.Deep

theorem Way.factsR {w wr : World} {W0 c len cap g n gc : Nat} {a0 : Option Addr} (h : Way w wr W0 c len cap a0 g n gc) : w.heap.size ≤ g ∧ g < wr.heap.size ∧ ∃ G, InsAt wr g 0 n G := by
  refine ⟨h.1.own g rfl, ?_, h.1.at⟩
  obtain ⟨xs, ho, _⟩ := h.1
  exact (ho.lt g rfl).2
theorem grown_newR {w w1 w2 : World} {c : Nat} (h : w.grownBy w1 none) (k : w1.grownBy w2 (some c)) (hc : w.heap.size ≤ c) : w.grownBy w2 none :=
  h.andThen k (fun j hj => by cases hj; exact .inl hc)
theorem LstE.capR {w : World} {B n g cap : Nat} (h : LstE w B (.slice (some ⟨g, 0, none⟩) n cap) n) : n ≤ cap ∧ cap ≤ maxLen ∧ ∀ j, w.frozen? ⟨g, j, none⟩ = false := by
  obtain ⟨xs, ho, -, -⟩ := h
  refine ⟨?_, ?_, fun j => ho.frozenAt j⟩
  · rcases ho.2 with ⟨h0, _⟩ | ⟨g', cap', cur, e, _, _, h1, h2, _⟩
    · cases h0
    · simp only [Value.slice.injEq] at e
      obtain ⟨-, -, rfl⟩ := e
      exact h1
  · rcases ho.2 with ⟨h0, _⟩ | ⟨g', cap', cur, e, _, _, h1, h2, _⟩
    · cases h0
    · simp only [Value.slice.injEq] at e
      obtain ⟨-, -, rfl⟩ := e
      exact h2
/-- A number is put into a cell of a row of events. -/
theorem EvAt.put {w : World} {g n : Nat} {E : Nat → E3} (h : EvAt w g 0 n E) (t : Nat) (z : Int) : ∃ E', EvAt (w.setCell ⟨g, t, none⟩ (.int .i64 z)) g 0 n E' := by
  have key : ∀ (o : Nat) (x : Int), w.cell? ⟨g, o, none⟩ = some (.int .i64 x) → (w.setCell ⟨g, t, none⟩ (.int .i64 z)).cell? ⟨g, o, none⟩ = some (.int .i64 (if o = t then z else x)) := by
    intro o x hx
    by_cases e : o = t
    · subst e
      rw [if_pos rfl]
      exact World.cell?_setCell_same _ _ _ hx
    · rw [if_neg e]
      exact (World.cell?_setCell_other _ _ _ _ fun e' => e (by injection e' with _ e2; exact e2.symm)).trans hx
  refine ⟨fun i => ⟨if 0 + i * 3 = t then z else (E i).k, if 0 + i * 3 + 1 = t then z else (E i).q, if 0 + i * 3 + 2 = t then z else (E i).v⟩, fun i hi => ?_⟩
  obtain ⟨h0, h1, h2⟩ := h i hi
  exact ⟨key _ _ h0, key _ _ h1, key _ _ h2⟩

/-- The cells of the first n events. -/
def flatE (E : Nat → E3) : Nat → List Value
  | 0 => []
  | n + 1 => flatE E n ++ [.int .i64 (E n).k, .int .i64 (E n).q, .int .i64 (E n).v]
theorem flatE_length (E : Nat → E3) : ∀ n, (flatE E n).length = n * 3
  | 0 => rfl
  | n + 1 => by
    rw [flatE, List.length_append, flatE_length E n]
    simp
    omega
theorem flatE_at (E : Nat → E3) : ∀ n i, i < n → (flatE E n)[i * 3]? = some (.int .i64 (E i).k) ∧ (flatE E n)[i * 3 + 1]? = some (.int .i64 (E i).q) ∧ (flatE E n)[i * 3 + 2]? = some (.int .i64 (E i).v)
  | 0, i, hi => by omega
  | n + 1, i, hi => by
    have hl := flatE_length E n
    by_cases e : i = n
    · subst e
      rw [flatE, List.getElem?_append_right (by omega), List.getElem?_append_right (by omega), List.getElem?_append_right (by omega), hl]
      simp
    · obtain ⟨h0, h1, h2⟩ := flatE_at E n i (by omega)
      rw [flatE, List.getElem?_append_left (by omega), List.getElem?_append_left (by omega), List.getElem?_append_left (by omega)]
      exact ⟨h0, h1, h2⟩
theorem flatE_one (E : Nat → E3) : ∀ n, ∀ u ∈ flatE E n, u.oneCell' = true
  | 0, u, hu => by simp [flatE] at hu
  | n + 1, u, hu => by
    rw [flatE, List.mem_append] at hu
    rcases hu with hu | hu
    · exact flatE_one E n u hu
    · simp at hu
      rcases hu with rfl | rfl | rfl <;> rfl
theorem flatE_cell {w : World} {g o n : Nat} {E : Nat → E3} (h : EvAt w g o n E) : ∀ t u, (flatE E n)[t]? = some u → w.cell? ⟨g, o + t, none⟩ = some u := by
  intro t u ht
  have hl : t < (flatE E n).length := by
    rcases Nat.lt_or_ge t (flatE E n).length with h | h
    · exact h
    · rw [List.getElem?_eq_none h] at ht
      cases ht
  rw [flatE_length] at hl
  obtain ⟨c0, c1, c2⟩ := h (t / 3) (by omega)
  obtain ⟨f0, f1, f2⟩ := flatE_at E n (t / 3) (by omega)
  have he : t = t / 3 * 3 ∨ t = t / 3 * 3 + 1 ∨ t = t / 3 * 3 + 2 := by omega
  rcases he with e | e | e
  · rw [← e] at f0 c0
    rw [ht] at f0
    rw [c0, f0]
  · rw [← e] at f1
    rw [show o + t / 3 * 3 + 1 = o + t from by omega] at c1
    rw [ht] at f1
    rw [c1, f1]
  · rw [← e] at f2
    rw [show o + t / 3 * 3 + 2 = o + t from by omega] at c2
    rw [ht] at f2
    rw [c2, f2]
/-- Behind event j all have moved by one. -/
theorem EvAt.cut {w : World} {g k j : Nat} {E : Nat → E3} (h : EvAt w g 0 k E) (hj : j < k) : EvAt (w.setCells g (j * 3) (flatE (fun i => E (j + 1 + i)) (k - (j + 1)))) g 0 (j + (k - (j + 1))) (fun i => if i < j then E i else E (i + 1)) := by
  intro i hi
  have hl := flatE_length (fun i => E (j + 1 + i)) (k - (j + 1))
  by_cases e : i < j
  · have hout : ∀ t, t < j * 3 → (w.setCells g (j * 3) (flatE (fun i => E (j + 1 + i)) (k - (j + 1)))).cell? ⟨g, t, none⟩ = w.cell? ⟨g, t, none⟩ := fun t ht => World.cell?_setCells_out g _ _ _ _ fun _ _ => .inl ht
    obtain ⟨h0, h1, h2⟩ := h i (by omega)
    simp only [if_pos e]
    exact ⟨(hout _ (by omega)).trans h0, (hout _ (by omega)).trans h1, (hout _ (by omega)).trans h2⟩
  · simp only [if_neg e]
    have hall : ∀ t, t < (flatE (fun i => E (j + 1 + i)) (k - (j + 1))).length → (w.cell? ⟨g, j * 3 + t, none⟩).isSome = true := by
      intro t ht
      rw [hl] at ht
      obtain ⟨h0, h1, h2⟩ := h (j + t / 3) (by omega)
      have he : t = t / 3 * 3 ∨ t = t / 3 * 3 + 1 ∨ t = t / 3 * 3 + 2 := by omega
      rcases he with e | e | e
      · rw [show j * 3 + t = 0 + (j + t / 3) * 3 from by omega, h0]; rfl
      · rw [show j * 3 + t = 0 + (j + t / 3) * 3 + 1 from by omega, h1]; rfl
      · rw [show j * 3 + t = 0 + (j + t / 3) * 3 + 2 from by omega, h2]; rfl
    have hin := fun t ht => World.cell?_setCells_in g (flatE (fun i => E (j + 1 + i)) (k - (j + 1))) (j * 3) w hall t ht
    obtain ⟨f0, f1, f2⟩ := flatE_at (fun i => E (j + 1 + i)) (k - (j + 1)) (i - j) (by omega)
    have hE : E (j + 1 + (i - j)) = E (i + 1) := by rw [show j + 1 + (i - j) = i + 1 from by omega]
    rw [hE] at f0 f1 f2
    refine ⟨?_, ?_, ?_⟩
    · rw [show 0 + i * 3 = j * 3 + (i - j) * 3 from by omega, hin _ (by omega), ← f0, List.getElem?_eq_getElem (by omega)]
    · rw [show 0 + i * 3 + 1 = j * 3 + ((i - j) * 3 + 1) from by omega, hin _ (by omega), ← f1, List.getElem?_eq_getElem (by omega)]
    · rw [show 0 + i * 3 + 2 = j * 3 + ((i - j) * 3 + 2) from by omega, hin _ (by omega), ← f2, List.getElem?_eq_getElem (by omega)]

/-- What was drawn: a program in block gl, events in block ge. -/
def DrawnE (w : World) (e : Ending) (w' : World) : Prop := ∃ gl n gc ge k ec G E, e = .returned (.tuple #[.slice (some ⟨gl, 0, none⟩) n gc, .slice (some ⟨ge, 0, none⟩) k ec]) ∧ (n ≤ 31 ∧ k ≤ 25 ∧ k ≤ ec) ∧ (gl < w'.heap.size ∧ InsAt w' gl 0 n G) ∧ (ge < w'.heap.size ∧ EvAt w' ge 0 k E) ∧ Below w.heap.size w w'

set_option maxRecDepth 100000 in
set_option maxHeartbeats 4000000 in
theorem DrawReplay_any (W0 len cap : Nat) (a0 : Option Addr) (w : World) (hB : BytesAt w W0 a0 len) (hW : W0 ≤ w.heap.size) (ln : len ≤ 1048576) :
    Calls Tryz.prog 10 #[.slice a0 len cap] w (DrawnE w) := by
  have HB : Hid (BytesAt w W0 a0 len) := hB
  clear hB
  go_enter Tryz.func10, Tryz.ntmps10
  go_wp2_with fail
  refine (l1New_any W0 len cap a0 _ HB.out hW ln).mono ?_
  rintro e w1 ⟨rfl, hc1, hg1⟩
  have HC1 : Hid (Cur w1 W0 w.heap.size a0 len cap) := hc1
  have HG1 : Hid (w.grownBy w1 none) := hg1
  have hcl := hc1.lt
  clear hc1 hg1 HB
  go_wp2_with fail
  refine (l1DrawAny_any W0 w.heap.size len cap a0 _ HC1.out).mono ?_
  rintro e w2 ⟨g, n, gc, rfl, hn, hw2⟩
  obtain ⟨f1, f2, G, f3⟩ := hw2.factsR
  have hs2 := hw2.2.2.size
  have HI2 : Hid (InsAt w2 g 0 n G) := f3
  have HC2 : Hid (Cur w2 W0 w.heap.size a0 len cap ∧ w.grownBy w2 none) := ⟨hw2.2.1, grown_newR HG1.out hw2.2.2 (Nat.le_refl _)⟩
  clear hw2 HC1 HG1 f3
  go_wp2_with fail
  refine (l3DrawEvents_any W0 w.heap.size len cap a0 g n gc G _ HC2.out.1 hn f2 (by omega) HI2.out).mono ?_
  rintro e w3 ⟨v, k, rfl, hk, l3, c3, g3⟩
  obtain ⟨eg, ec, rfl, hg1, hg2⟩ := l3.form
  have L3 : Hid (LstE w3 w.heap.size (.slice (some ⟨eg, 0, none⟩) k ec) k) := l3.mono (by omega)
  have HC3 : Hid (Cur w3 W0 w.heap.size a0 len cap ∧ w.grownBy w3 none) := ⟨c3, grown_newR HC2.out.2 g3 (Nat.le_refl _)⟩
  have HI3 : Hid (InsAt w3 g 0 n G) := by
    have hb := g3.block g f2 (by simp; omega)
    intro i hi
    have := HI2.out i hi
    have hc : ∀ j, w3.cell? ⟨g, j, none⟩ = w2.cell? ⟨g, j, none⟩ := fun j => World.cell?_of_block hb
    simp only [hc]
    exact this
  have neg : eg ≠ w.heap.size := by omega
  have ngc : g ≠ w.heap.size := by omega
  have neg2 : g ≠ eg := by omega
  have weg : w.heap.size ≤ eg := by omega
  have s3 : w2.heap.size ≤ w3.heap.size := g3.size
  clear l3 c3 g3 HC2 HI2
  have tailK : (k : Int) ≤ 25 := by omega
  have HNG : Hid (n ≤ 31) := hn
  -- what a later world must keep
  have keep : ∀ (wx wy : World), Cur wy W0 w.heap.size a0 len cap → wx.grownBy wy (some w.heap.size) → (LstE wx w.heap.size (.slice (some ⟨eg, 0, none⟩) k ec) k ∧ w.grownBy wx none ∧ InsAt wx g 0 n G ∧ g < wx.heap.size) → (LstE wy w.heap.size (.slice (some ⟨eg, 0, none⟩) k ec) k ∧ w.grownBy wy none ∧ InsAt wy g 0 n G ∧ g < wy.heap.size) := by
    intro wx wy _ hg ⟨a1, a2, a3, a4⟩
    refine ⟨a1.kept hg (fun j e => by cases e; simp [Value.ownBlock]; exact neg), grown_newR a2 hg (Nat.le_refl _), fun i hi => ?_, Nat.lt_of_lt_of_le a4 hg.size⟩
    have hb := hg.block g a4 (by simp; omega)
    have hc : ∀ j, wy.cell? ⟨g, j, none⟩ = wx.cell? ⟨g, j, none⟩ := fun j => World.cell?_of_block hb
    have := a3 i hi
    simp only [hc]
    exact this
  have KP : Hid (∀ (wx wy : World), Cur wy W0 w.heap.size a0 len cap → wx.grownBy wy (some w.heap.size) → (LstE wx w.heap.size (.slice (some ⟨eg, 0, none⟩) k ec) k ∧ w.grownBy wx none ∧ InsAt wx g 0 n G ∧ g < wx.heap.size) → (LstE wy w.heap.size (.slice (some ⟨eg, 0, none⟩) k ec) k ∧ w.grownBy wy none ∧ InsAt wy g 0 n G ∧ g < wy.heap.size)) := keep
  have K3 : Hid (LstE w3 w.heap.size (.slice (some ⟨eg, 0, none⟩) k ec) k ∧ w.grownBy w3 none ∧ InsAt w3 g 0 n G ∧ g < w3.heap.size) := ⟨L3.out, HC3.out.2, HI3.out, by omega⟩
  have C3 : Hid (Cur w3 W0 w.heap.size a0 len cap) := HC3.out.1
  clear keep L3 HC3 HI3 s3 hs2 f2 hg1 hg2 hn
  have fin : ∀ (wx : World), (LstE wx w.heap.size (.slice (some ⟨eg, 0, none⟩) k ec) k ∧ w.grownBy wx none ∧ InsAt wx g 0 n G ∧ g < wx.heap.size) → DrawnE w (.returned (.tuple #[.slice (some ⟨g, 0, none⟩) n gc, .slice (some ⟨eg, 0, none⟩) k ec])) wx := by
    rintro wx ⟨a1, a2, a3, a4⟩
    obtain ⟨E, hE⟩ := a1.at
    exact ⟨g, n, gc, eg, k, ec, G, E, rfl, ⟨HNG.out, hk, a1.capR.1⟩, ⟨a4, a3⟩, ⟨(a1.lt eg rfl).2, hE⟩, below_of_grown a2⟩
  have FIN : Hid (∀ (wx : World), (LstE wx w.heap.size (.slice (some ⟨eg, 0, none⟩) k ec) k ∧ w.grownBy wx none ∧ InsAt wx g 0 n G ∧ g < wx.heap.size) → DrawnE w (.returned (.tuple #[.slice (some ⟨g, 0, none⟩) n gc, .slice (some ⟨eg, 0, none⟩) k ec])) wx) := fin
  have put : ∀ (wx : World) (t : Nat) (z : Int), (LstE wx w.heap.size (.slice (some ⟨eg, 0, none⟩) k ec) k ∧ w.grownBy wx none ∧ InsAt wx g 0 n G ∧ g < wx.heap.size) → DrawnE w (.returned (.tuple #[.slice (some ⟨g, 0, none⟩) n gc, .slice (some ⟨eg, 0, none⟩) k ec])) (wx.setCell ⟨eg, t, none⟩ (.int .i64 z)) := by
    rintro wx t z ⟨a1, a2, a3, a4⟩
    obtain ⟨E, hE⟩ := a1.at
    obtain ⟨E', hE'⟩ := hE.put t z
    refine ⟨g, n, gc, eg, k, ec, G, E', rfl, ⟨HNG.out, hk, a1.capR.1⟩, ⟨by simp; exact a4, fun i hi => ?_⟩, ⟨by simp; exact (a1.lt eg rfl).2, hE'⟩, (below_of_grown a2).setCell weg _⟩
    have hc : ∀ j, (wx.setCell ⟨eg, t, none⟩ (.int .i64 z)).cell? ⟨g, j, none⟩ = wx.cell? ⟨g, j, none⟩ := fun j => World.cell?_setCell_other _ _ _ _ fun e => neg2 (by injection e with e1 _; exact e1.symm)
    have := a3 i hi
    simp only [hc]
    exact this
  have PUT : Hid (∀ (wx : World) (t : Nat) (z : Int), (LstE wx w.heap.size (.slice (some ⟨eg, 0, none⟩) k ec) k ∧ w.grownBy wx none ∧ InsAt wx g 0 n G ∧ g < wx.heap.size) → DrawnE w (.returned (.tuple #[.slice (some ⟨g, 0, none⟩) n gc, .slice (some ⟨eg, 0, none⟩) k ec])) (wx.setCell ⟨eg, t, none⟩ (.int .i64 z))) := put
  clear fin put
  by_cases h0 : 0 < k
  · have h0' : (0 : Int) < (k : Int) := by omega
    go_wp2_with fail
    refine (l1Below_any W0 w.heap.size len cap a0 _ _ C3.out (by omega) (by omega)).mono ?_
    rintro e w4 ⟨x, rfl, ⟨x0, x1⟩, c4, g4⟩
    obtain ⟨j, rfl⟩ : ∃ j : Nat, x = j := ⟨x.toNat, by omega⟩
    have K4 := KP.out _ _ c4 g4 K3.out
    have HK4 : Hid (LstE w4 w.heap.size (.slice (some ⟨eg, 0, none⟩) k ec) k ∧ w.grownBy w4 none ∧ InsAt w4 g 0 n G ∧ g < w4.heap.size) := K4
    have C4 : Hid (Cur w4 W0 w.heap.size a0 len cap) := c4
    clear c4 g4 K4 K3 C3 x0
    have hjk : j < k := by omega
    go_wp2_with fail
    refine (l1Below_any W0 w.heap.size len cap a0 _ _ C4.out (by omega) (by omega)).mono ?_
    rintro e w5 ⟨y, rfl, ⟨y0, y1⟩, c5, g5⟩
    have K5 := KP.out _ _ c5 g5 HK4.out
    have HK5 : Hid (LstE w5 w.heap.size (.slice (some ⟨eg, 0, none⟩) k ec) k ∧ w.grownBy w5 none ∧ InsAt w5 g 0 n G ∧ g < w5.heap.size) := K5
    have C5 : Hid (Cur w5 W0 w.heap.size a0 len cap) := c5
    clear c5 g5 K5 HK4 C4
    by_cases e0 : y = 0
    · subst e0
      go_wp2_with fail
      refine (l1Below_any W0 w.heap.size len cap a0 _ _ C5.out (by omega) (by omega)).mono ?_
      rintro e w6 ⟨z, rfl, -, c6, g6⟩
      have K6 := KP.out _ _ c6 g6 HK5.out
      obtain ⟨E, hE⟩ := K6.1.at
      obtain ⟨k0, k1, k2⟩ := hE j hjk
      rw [Nat.zero_add] at k0 k1 k2
      have fz := K6.1.capR.2.2
      have HK6 : Hid (LstE w6 w.heap.size (.slice (some ⟨eg, 0, none⟩) k ec) k ∧ w.grownBy w6 none ∧ InsAt w6 g 0 n G ∧ g < w6.heap.size) := K6
      clear c6 g6 K6 HK5 C5 hE
      go_wp2
      exact bodyPost_ret (v := .tuple #[.slice (some ⟨g, 0, none⟩) n gc, .slice (some ⟨eg, 0, none⟩) k ec]) (by simp [results, Tryz.results10, go_sem]) rfl (PUT.out _ _ _ HK6.out)
    · by_cases e1 : y = 1
      · subst e1
        go_wp2_with fail
        refine (l1Below_any W0 w.heap.size len cap a0 _ _ C5.out (by omega) (by omega)).mono ?_
        rintro e w6 ⟨z, rfl, -, c6, g6⟩
        have K6 := KP.out _ _ c6 g6 HK5.out
        obtain ⟨E, hE⟩ := K6.1.at
        obtain ⟨k0, k1, k2⟩ := hE j hjk
        rw [Nat.zero_add] at k0 k1 k2
        have fz := K6.1.capR.2.2
        have HK6 : Hid (LstE w6 w.heap.size (.slice (some ⟨eg, 0, none⟩) k ec) k ∧ w.grownBy w6 none ∧ InsAt w6 g 0 n G ∧ g < w6.heap.size) := K6
        clear c6 g6 K6 HK5 C5 hE
        go_wp2
        exact bodyPost_ret (v := .tuple #[.slice (some ⟨g, 0, none⟩) n gc, .slice (some ⟨eg, 0, none⟩) k ec]) (by simp [results, Tryz.results10, go_sem]) rfl (PUT.out _ _ _ HK6.out)
      · by_cases e2 : y = 2
        · subst e2
          obtain ⟨i0, hi0, hz0, hz1, hz2⟩ := info_ev
          obtain ⟨E, hE⟩ := HK5.out.1.at
          have hcap := HK5.out.1.capR
          obtain ⟨A, hA, hnews⟩ : ∃ A : Addr, (if ec = j + 1 then some (⟨eg, 0, none⟩ : Addr) else some ⟨eg, (j + 1) * 3, none⟩) = some A ∧ Hid (∀ t u, (flatE (fun i => E (j + 1 + i)) (k - (j + 1)))[t]? = some u → w5.drew.cell? (A.add t) = some u) := by
            by_cases h : ec = j + 1
            · refine ⟨⟨eg, 0, none⟩, by simp [h], fun t u hu => ?_⟩
              have h0 : k - (j + 1) = 0 := by omega
              rw [h0] at hu
              simp [flatE] at hu
            · refine ⟨⟨eg, (j + 1) * 3, none⟩, by simp [h], fun t u hu => ?_⟩
              rw [Addr.add_lit]
              have hEv : EvAt w5 eg ((j + 1) * 3) (k - (j + 1)) (fun i => E (j + 1 + i)) := by
                intro i hi
                obtain ⟨h0, h1, h2⟩ := hE (j + 1 + i) (by omega)
                rw [show 0 + (j + 1 + i) * 3 = (j + 1) * 3 + i * 3 from by omega] at h0 h1 h2
                exact ⟨h0, h1, h2⟩
              exact flatE_cell hEv t u hu
          have s1 : Hid ((flatE (fun i => E (j + 1 + i)) (k - (j + 1))).length = (k - (j + 1)) * 3) := flatE_length _ _
          have s2 : Hid (∀ u ∈ flatE (fun i => E (j + 1 + i)) (k - (j + 1)), u.oneCell' = true) := flatE_one _ _
          have s3 : Hid (∀ t, t < (flatE (fun i => E (j + 1 + i)) (k - (j + 1))).length → (w5.drew.cell? ⟨eg, 0 + j * 3 + t, none⟩).isSome = true ∧ w5.drew.frozen? ⟨eg, 0 + j * 3 + t, none⟩ = false) := by
            intro t ht
            rw [flatE_length] at ht
            refine ⟨?_, hcap.2.2 _⟩
            show (w5.cell? _).isSome = true
            obtain ⟨h0, h1, h2⟩ := hE (j + t / 3) (by omega)
            have he : t = t / 3 * 3 ∨ t = t / 3 * 3 + 1 ∨ t = t / 3 * 3 + 2 := by omega
            rcases he with e | e | e
            · rw [show 0 + j * 3 + t = 0 + (j + t / 3) * 3 from by omega, h0]; rfl
            · rw [show 0 + j * 3 + t = 0 + (j + t / 3) * 3 + 1 from by omega, h1]; rfl
            · rw [show 0 + j * 3 + t = 0 + (j + t / 3) * 3 + 2 from by omega, h2]; rfl
          have HF : Hid (DrawnE w (.returned (.tuple #[.slice (some ⟨g, 0, none⟩) n gc, .slice (some ⟨eg, 0, none⟩) (j + (k - (j + 1))) ec])) (w5.drew.setCells eg (j * 3) (flatE (fun i => E (j + 1 + i)) (k - (j + 1))))) := by
            obtain ⟨a1, a2, a3, a4⟩ := HK5.out
            have hsz : ∀ (vs : List Value) (o : Nat) (W : World), (W.setCells eg o vs).heap.size = W.heap.size ∧ ∀ b, b ≠ eg → (W.setCells eg o vs).heap[b]? = W.heap[b]? := by
              intro vs
              induction vs with
              | nil => exact fun o W => ⟨rfl, fun _ _ => rfl⟩
              | cons u us ih =>
                intro o W
                obtain ⟨i1, i2⟩ := ih (o + 1) (W.setCell ⟨eg, o, none⟩ u)
                refine ⟨i1.trans (by simp), fun b hb => (i2 b hb).trans (Below.heap_setCell _ _ _ _ hb)⟩
            obtain ⟨z1, z2⟩ := hsz (flatE (fun i => E (j + 1 + i)) (k - (j + 1))) (j * 3) w5.drew
            have bel := below_of_grown a2
            have hos : ∀ (vs : List Value) (o : Nat) (W : World), (W.setCells eg o vs).os = W.os ∧ (W.setCells eg o vs).tape = W.tape ∧ (W.setCells eg o vs).output = W.output := by
              intro vs
              induction vs with
              | nil => exact fun o W => ⟨rfl, rfl, rfl⟩
              | cons u us ih =>
                intro o W
                exact ih (o + 1) (W.setCell ⟨eg, o, none⟩ u)
            obtain ⟨y1, y2, y3⟩ := hos (flatE (fun i => E (j + 1 + i)) (k - (j + 1))) (j * 3) w5.drew
            have hcut := EvAt.cut (w := w5.drew) (g := eg) (k := k) (j := j) (E := E) hE hjk
            refine ⟨g, n, gc, eg, _, ec, G, _, rfl, ⟨HNG.out, by omega, by omega⟩, ⟨by rw [z1]; exact a4, fun i hi => ?_⟩, ⟨by rw [z1]; exact (a1.lt eg rfl).2, hcut⟩, ⟨y1.trans bel.os, y2.trans bel.tape, y3.trans bel.output, by rw [z1]; exact bel.size, fun b hb => (z2 b (by omega)).trans (bel.block b hb)⟩⟩
            have hc : ∀ t, (w5.drew.setCells eg (j * 3) (flatE (fun i => E (j + 1 + i)) (k - (j + 1)))).cell? ⟨g, t, none⟩ = w5.cell? ⟨g, t, none⟩ := fun t => World.cell?_of_block (z2 g neg2)
            have := a3 i hi
            simp only [hc]
            exact this
          have hroom : Hid (j + (k - (j + 1)) ≤ ec) := by show j + (k - (j + 1)) ≤ ec; omega
          have hic : j ≤ ec := by omega
          have hwr : IntKind.i64.wrap ((j : Int) + 1) = (j : Int) + 1 := by rw [IntKind.wrap_i64]; omega
          have hp0 : (0 : Int) ≤ (j : Int) + 1 := by omega
          have hp1 : (j : Int) + 1 ≤ (k : Int) := by omega
          have hp2 : ((j : Int) + 1).toNat = j + 1 := by omega
          clear hE hcap HK5 C5
          go_wp2_with fail
          go_region_law (refine step_append_room rfl (.tmp 44) (.tmp 48) 25 rfl 36 i0 3 Tryz.underlying25 hi0 hz1 eg 0 j ec (by simp [Act.eval, Act.put]) A (k - (j + 1)) (ec - (j + 1)) (flatE (fun i => E (j + 1 + i)) (k - (j + 1))) (by simp [Act.eval, Act.put]) s1.out hnews.out s2.out hroom.out s3.out ?_)
          go_wp2
          exact bodyPost_ret (v := .tuple #[.slice (some ⟨g, 0, none⟩) n gc, .slice (some ⟨eg, 0, none⟩) (j + (k - (j + 1))) ec]) (by simp [results, Tryz.results10, go_sem]) rfl HF.out
        · go_wp2
          exact bodyPost_ret (v := .tuple #[.slice (some ⟨g, 0, none⟩) n gc, .slice (some ⟨eg, 0, none⟩) k ec]) (by simp [results, Tryz.results10, go_sem]) rfl (FIN.out _ HK5.out)
  · have h0' : ¬ (0 : Int) < (k : Int) := by omega
    go_wp2
    exact bodyPost_ret (v := .tuple #[.slice (some ⟨g, 0, none⟩) n gc, .slice (some ⟨eg, 0, none⟩) k ec]) (by simp [results, Tryz.results10, go_sem]) rfl (FIN.out _ K3.out)

end Go.Proofs.YtkpbdcahpkpobaaGreatDoor

namespace Go.Proofs.YtkpbdcahpkpobaaGreatDoor
open Go.ChangeShapes Go.WideShapes Go.ChangeAt Go.RowKit Go.Deep Go.Sort

set_option maxRecDepth 100000 in
set_option maxHeartbeats 1000000 in
theorem sameInts_same (a0 a1 : Option Addr) (c0 c1 : Nat) (xs : List Int) (w : World) (hlen : xs.length ≤ 1048576) (h0 : Sl w a0 xs) (h1 : Sl w a1 xs) :
    Calls Tryz.prog 27 #[.slice a0 xs.length c0, .slice a1 xs.length c1] w fun e w' => e = .returned (.bool true) ∧ Below w.heap.size w w' := by
  have hl' : (xs.length : Int) ≤ 1048576 := by omega
  have H0 : Hid (Sl w a0 xs) := h0
  have H1 : Hid (Sl w a1 xs) := h1
  clear h0 h1
  go_enter Tryz.func27, Tryz.ntmps27
  go_wp2_with fail
  go_loopw [5] (fun i wr => ∃ k : Nat, k ≤ xs.length ∧ i = .int .i64 k ∧ Below w.heap.size w wr) (fun i _ => xs.length - (intOf i).toNat)
  case atStart => exact ⟨0, Nat.zero_le _, rfl, Below.refl _ _⟩
  case round =>
    obtain ⟨k, hk, rfl, hbw⟩ := hrel
    by_cases hlt : k < xs.length
    · obtain ⟨b, off, rfl, hbl, ck⟩ := (H0.out.below hbw).at hlt
      obtain ⟨b', off', rfl, hbl', ck'⟩ := (H1.out.below hbw).at hlt
      have hlt' : (k : Int) < (xs.length : Int) := by omega
      go_wp2_with fail
      go_quiet (fail)
      go_wp2
      go_roundw
      case rel => exact ⟨k + 1, by omega, by go_num, below_drewN hbw _⟩
      case measure => simp [intOf]; omega
    · go_wp2
      go_ret
      exact ⟨rfl, hbw⟩

set_option maxHeartbeats 400000 in
theorem big_any (a0 : Option Addr) (len cap : Nat) (w : World) :
    Calls Tryz.prog 9 #[.slice a0 len cap] w fun e w' => e = .returned (.bool (decide ((1048576 : Int) < len))) ∧ w' = w := by
  go_enter Tryz.func9, Tryz.ntmps9
  go_wp2
  go_ret
  exact ⟨rfl, rfl⟩

/-- Bytes that came in: as many as an int can count, each in memory that was there. -/
theorem open_bytes {H : Type} {enc : TypeId × Value → H} {w : World} {a0 : Option Addr} {len cap : Nat} {d : DataW H} {p : List MemPlace}
    (h : DataW.Trod enc Tryz.prog w 0 (fun _ => true) true 22 (.slice a0 len cap) d p) : len ≤ maxLen ∧ BytesAt w w.heap.size a0 len := by
  obtain ⟨fuel, hf⟩ := h
  rcases open_ints Tryz.underlying22 Tryz.underlying5 (by kernel_rfl) hf with ⟨hcs, _⟩ | ⟨x, l, c, zs, hcs, _, hl, hm, hz, _, hcell, hwz⟩
  · simp [Value.cells] at hcs
    obtain ⟨_, rfl, _⟩ := hcs
    exact ⟨Nat.zero_le _, .inl rfl⟩
  · simp [Value.cells] at hcs
    obtain ⟨rfl, rfl, rfl⟩ := hcs
    refine ⟨Nat.le_trans hl hm, ?_⟩
    by_cases h0 : len = 0
    · exact .inl h0
    right
    have hz' : zs.length = cap := by simpa using hz
    obtain ⟨b, off, rfl, hc⟩ := ints_at hcell (by omega)
    refine ⟨b, off, rfl, cell_lt (hc 0 (by omega)), fun j hj => ⟨zs.getD j 0, hc j (by omega), ?_⟩⟩
    have hmem : zs.getD j 0 ∈ zs := by
      rw [List.getD_eq_getElem?_getD, List.getElem?_eq_getElem (by omega)]
      exact List.getElem_mem _
    exact bounds_u8 (hwz _ hmem)

set_option maxRecDepth 100000 in
set_option maxHeartbeats 4000000 in
theorem sameState_same (p code : Int) (ra oa ra' oa' : Option Addr) (rc oc rc' oc' : Nat) (rs os : List Int) (w : World) (hr : rs.length ≤ 1048576) (ho : os.length ≤ 1048576) (h1 : Sl w ra rs) (h2 : Sl w oa os) (h1' : Sl w ra' rs) (h2' : Sl w oa' os) :
    Calls Tryz.prog 15 #[stV p ra rs.length rc oa os.length oc code, stV p ra' rs.length rc' oa' os.length oc' code] w fun e w' => e = .returned (.bool true) ∧ Below w.heap.size w w' := by
  have H1 : Hid (Sl w ra rs) := h1
  have H2 : Hid (Sl w oa os) := h2
  have H1' : Hid (Sl w ra' rs) := h1'
  have H2' : Hid (Sl w oa' os) := h2'
  clear h1 h2 h1' h2'
  go_enter Tryz.func15, Tryz.ntmps15
  go_wp2_with fail
  refine (sameInts_same ra ra' rc rc' rs _ hr (H1.out.below (by go_grown)) (H1'.out.below (by go_grown))).mono ?_
  rintro e w1 ⟨rfl, b1⟩
  have B1 : Hid (Below w.heap.size w w1) := below_up (by go_grown) b1 (by simp; omega)
  obtain ⟨hc1, hf1⟩ := bcell b1
  have l0 : w.heap.size < w.heap.size + 1 + 1 := by omega
  have l1 : w.heap.size + 1 < w.heap.size + 1 + 1 := by omega
  have k0 : w1.cell? ⟨w.heap.size, 2, none⟩ = some (.slice oa os.length oc) := (hc1 w.heap.size 2 (by simp; omega)).trans ((old_cell _ _ (by simp)).trans (new_cell _ _ _ 2 rfl))
  have k1 : w1.cell? ⟨w.heap.size + 1, 2, none⟩ = some (.slice oa' os.length oc') := (hc1 (w.heap.size + 1) 2 (by simp)).trans (new_cellB _ _ _ 2 (by simp))
  clear b1 hc1 hf1
  go_wp2_with fail
  refine (sameInts_same oa oa' oc oc' os _ ho (H2.out.below B1.out) (H2'.out.below B1.out)).mono ?_
  rintro e w2 ⟨rfl, b2⟩
  have B2 : Hid (Below w.heap.size w w2) := B1.out.trans (b2.mono B1.out.size)
  clear b2
  go_wp2
  go_ret
  exact ⟨rfl, B2.out⟩

set_option maxHeartbeats 1000000 in
theorem at_one (W0 : Nat) (a0 : Option Addr) (len cap : Nat) (w : World) (hB : BytesAt w W0 a0 len) (hl : len ≤ 1048576) :
    Calls Tryz.prog 13 #[.slice a0 len cap, .int .i64 1] w fun e w' => ∃ z : Int, e = .returned (.int .i64 z) ∧ (0 ≤ z ∧ z ≤ 255) ∧ w' = w := by
  have hl' : (len : Int) ≤ 1048576 := by omega
  by_cases h1 : 1 < len
  · have h1' : (1 : Int) < (len : Int) := by omega
    rcases hB with h0 | ⟨b, off, rfl, -, hc⟩
    · omega
    · obtain ⟨z, cz, z0, z1⟩ := hc 1 h1
      go_enter Tryz.func13, Tryz.ntmps13
      go_wp2
      go_ret
      exact ⟨z, rfl, ⟨z0, z1⟩, rfl⟩
  · have h1' : ¬ (1 : Int) < (len : Int) := by omega
    go_enter Tryz.func13, Tryz.ntmps13
    go_wp2
    go_ret
    exact ⟨_, rfl, by omega, rfl⟩

end Go.Proofs.YtkpbdcahpkpobaaGreatDoor

namespace Go.Proofs.YtkpbdcahpkpobaaGreatDoor
open Go.RowKit Go.Deep Go.Sort

/-- A state in its block X, its lists in memory of their own from B on. -/
structure Sx (w : World) (B X : Nat) (ra : Option Addr) (rc : Nat) (oa : Option Addr) (oc : Nat) (S : S4) : Prop where
  bx : BoxC w X (.int .i64 S.p) (.slice ra S.rs.length rc) (.slice oa S.os.length oc) (.int .i64 S.c)
  fz : ∀ j, w.frozen? ⟨X, j, none⟩ = false
  sl : Sl w ra S.rs ∧ Sl w oa S.os
  ge : B ≤ X
theorem Sx.below {w w' : World} {B X : Nat} {ra : Option Addr} {rc : Nat} {oa : Option Addr} {oc : Nat} {S : S4} (h : Sx w B X ra rc oa oc S) (hb : Below w.heap.size w w') : Sx w' B X ra rc oa oc S :=
  ⟨h.bx.below hb, fun j => (World.frozen?_of_block (hb.block X (World.block_lt_of_cell? w _ h.bx.1))).trans (h.fz j), ⟨h.sl.1.below hb, h.sl.2.below hb⟩, h.ge⟩
theorem Sx.new {w : World} {B : Nat} {ra oa : Option Addr} {rc oc : Nat} {S : S4} (h : StOwn w B (stV S.p ra S.rs.length rc oa S.os.length oc S.c) S.p S.rs S.os S.c) (hB : B ≤ w.heap.size) (t : TypeId) : Sx (w.alloc (.cells #[.int .i64 S.p, .slice ra S.rs.length rc, .slice oa S.os.length oc, .int .i64 S.c] t)) B w.heap.size ra rc oa oc S := by
  have h1 := (Tl.of_alloc h hB t).sl
  exact ⟨BoxC.new w _ _ _ _ _, fun j => new_frozen _ _ _ j rfl, h1, hB⟩
/-- Between the rounds: the first answer in block X, the state so far in block Y. -/
structure Rz (w1 wr : World) (X Y : Nat) (ra : Option Addr) (rc : Nat) (oa : Option Addr) (oc : Nat) (S T : S4) : Prop where
  be : Below w1.heap.size w1 wr
  sx : Tl wr w1.heap.size (X + 1) X S.p S.c ra S.rs.length rc oa S.os.length oc S.rs S.os
  ty : ∃ ra' rc' oa' oc', BoxC wr Y (.int .i64 T.p) (.slice ra' T.rs.length rc') (.slice oa' T.os.length oc') (.int .i64 T.c) ∧ Sl wr ra' T.rs ∧ Sl wr oa' T.os
  fz : ∀ j, wr.frozen? ⟨Y, j, none⟩ = false
  lt : X + 1 ≤ Y
theorem Rz.ylt {w1 wr : World} {X Y : Nat} {ra : Option Addr} {rc : Nat} {oa : Option Addr} {oc : Nat} {S T : S4} (h : Rz w1 wr X Y ra rc oa oc S T) : Y < wr.heap.size := by
  obtain ⟨_, _, _, _, b, -⟩ := h.ty
  exact World.block_lt_of_cell? wr _ b.1
theorem Rz.below {w1 wr w' : World} {X Y : Nat} {ra : Option Addr} {rc : Nat} {oa : Option Addr} {oc : Nat} {S T : S4} (h : Rz w1 wr X Y ra rc oa oc S T) (hb : Below wr.heap.size wr w') : Rz w1 w' X Y ra rc oa oc S T := by
  obtain ⟨ra', rc', oa', oc', b, s1, s2⟩ := h.ty
  exact ⟨h.be.trans (hb.mono h.be.size), h.sx.below hb, ⟨ra', rc', oa', oc', b.below hb, s1.below hb, s2.below hb⟩, fun j => (World.frozen?_of_block (hb.block Y h.ylt)).trans (h.fz j), h.lt⟩
theorem Rz.next {w1 wr w5 : World} {X Y : Nat} {ra : Option Addr} {rc : Nat} {oa : Option Addr} {oc : Nat} {S T T' : S4} (h : Rz w1 wr X Y ra rc oa oc S T) (hb : Below wr.heap.size wr w5) {ra7 oa7 : Option Addr} {rc7 oc7 : Nat} (o : StOwn w5 wr.heap.size (stV T'.p ra7 T'.rs.length rc7 oa7 T'.os.length oc7 T'.c) T'.p T'.rs T'.os T'.c) :
    Rz w1 ((((w5.setCell ⟨Y, 0, none⟩ (.int .i64 T'.p)).setCell ⟨Y, 1, none⟩ (.slice ra7 T'.rs.length rc7)).setCell ⟨Y, 2, none⟩ (.slice oa7 T'.os.length oc7)).setCell ⟨Y, 3, none⟩ (.int .i64 T'.c)) X Y ra rc oa oc S T' := by
  have h5 := h.below hb
  have gz := grown4 w5 Y (.int .i64 T'.p) (.slice ra7 T'.rs.length rc7) (.slice oa7 T'.os.length oc7) (.int .i64 T'.c)
  obtain ⟨_, _, _, _, b, -⟩ := h5.ty
  have hY := h.ylt
  have hlo := h.sx.lo
  have hlt := h.lt
  have hY2 : w1.heap.size ≤ Y := by omega
  have o' := o.put4 (N := Y) (B := wr.heap.size) (a := .int .i64 T'.p) (b := .slice ra7 T'.rs.length rc7) (c := .slice oa7 T'.os.length oc7) (d := .int .i64 T'.c) hY (Nat.le_refl _)
  refine ⟨(((h5.be.setCell hY2 _).setCell hY2 _).setCell hY2 _).setCell hY2 _, h5.sx.tu (Tu.of_row gz) (.inl hlt), ⟨ra7, rc7, oa7, oc7, BoxC.set4 b _ _ _ _, o'.parts.1.slOf, o'.parts.2.1.slOf⟩, fun j => ?_, hlt⟩
  rw [World.frozen?_setCell, World.frozen?_setCell, World.frozen?_setCell, World.frozen?_setCell]
  exact h5.fz j
theorem rp_some {g : Nat → I5} {n : Nat} {eh : Nat → E3} {k m : Nat} {S : S4} (h : rp g n eh m = some S) (hk : k ≤ m) : ∃ S', rp g n eh k = some S' := by
  cases hr : rp g n eh k with
  | none =>
    rw [rp_over hr hk] at h
    cases h
  | some S' => exact ⟨S', rfl⟩
theorem rp_ok {g : Nat → I5} {n : Nat} {eh : Nat → E3} (hp : progOkB g n 4 = true) : ∀ k S, rp g n eh k = some S → OkS n S := by
  intro k
  induction k with
  | zero =>
    intro S hS
    simp only [rp, Option.some.injEq] at hS
    rw [← hS]
    exact newS_ok hp
  | succ k ih =>
    intro S hS
    simp only [rp] at hS
    cases hr : rp g n eh k with
    | none => rw [hr] at hS; cases hS
    | some S0 =>
      rw [hr] at hS
      simp only [Option.bind_some, rpStep] at hS
      split at hS
      · rename_i hd
        simp only [Option.some.injEq] at hS
        rw [← hS]
        exact doS_ok hd
      · cases hS
theorem rp_next {g : Nat → I5} {n : Nat} {eh : Nat → E3} {k m : Nat} {S Sm : S4} (h : rp g n eh k = some S) (hm : rp g n eh m = some Sm) (hk : k < m) : doB g n S.p S.rs S.os S.c (eh k).k (eh k).q (eh k).v = true ∧ rp g n eh (k + 1) = some (doS g n S.p S.rs S.os S.c (eh k).k (eh k).q (eh k).v) := by
  rcases Bool.eq_false_or_eq_true (doB g n S.p S.rs S.os S.c (eh k).k (eh k).q (eh k).v) with t | t
  · exact ⟨t, rp_yes h t⟩
  · have := rp_over (rp_no h t) (show k + 1 ≤ m by omega)
    rw [hm] at this
    cases this

set_option maxRecDepth 100000 in
set_option maxHeartbeats 8000000 in
theorem replayDLaw_small (a0 : Option Addr) (len cap : Nat) (w : World) (hl : len ≤ 1048576) (hB : BytesAt w w.heap.size a0 len) (hV : w.cell? ⟨0, 0, none⟩ = some (.iface 190 (.agg #[.pointer (some ⟨1, 83, none⟩)]))) :
    Calls Tryz.prog 3 #[.slice a0 len cap] w fun e w' => e = .returned (.bool true) ∧ Below w.heap.size w w' := by
  have HB : Hid (BytesAt w w.heap.size a0 len) := hB
  have HV : Hid (w.cell? ⟨0, 0, none⟩ = some (.iface 190 (.agg #[.pointer (some ⟨1, 83, none⟩)]))) := hV
  have HV0 : Hid (0 < w.heap.size) := World.block_lt_of_cell? w _ hV
  clear hB hV
  go_enter Tryz.func3, Tryz.ntmps3
  go_wp2_with fail
  refine (big_any _ _ _ _).mono ?_
  rintro e w0 ⟨rfl, rfl⟩
  rw [show decide ((1048576 : Int) < (len : Int)) = false from decide_eq_false (by omega)]
  go_wp2_with fail
  refine (DrawReplay_any w0.heap.size len cap a0 w0 HB.out (Nat.le_refl _) hl).mono ?_
  rintro e w1 ⟨gl, n, gc, ge, k, ec, G, E, rfl, ⟨hn, hk, hkc⟩, ⟨zl, hI⟩, ⟨ze, hE⟩, b1⟩
  have B1 : Hid (Below w0.heap.size w0 w1) := b1
  have D1 : Hid ((gl < w1.heap.size ∧ InsAt w1 gl 0 n G) ∧ (ge < w1.heap.size ∧ EvAt w1 ge 0 k E)) := ⟨⟨zl, hI⟩, ze, hE⟩
  have HL : Hid (n ≤ maxLen) := by show n ≤ maxLen; unfold maxLen; omega
  have hk' : (k : Int) ≤ 25 := by omega
  have HKC : Hid (k ≤ ec) := hkc
  clear b1 zl hI ze hE hkc
  go_wp2_with fail
  refine (implReplay_any gl n gc ge 0 k ec G E w1 HL.out D1.out.1.1 D1.out.1.2 D1.out.2.1 D1.out.2.2 (by omega) ((B1.out.cell (p := ⟨0, 0, none⟩) HV0.out).trans HV.out)).mono ?_
  rintro e w2 ⟨v2, rfl, o2, b2⟩
  obtain ⟨ra, rc, oa, oc, rfl, -, -⟩ := o2.read
  generalize hO : repO G n E k = O at *
  have HO : Hid (repO G n E k = O) := hO
  have q3 : Below w1.heap.size w1 (w2.alloc (.cells #[.int .i64 (resS O).p, .slice ra (resS O).rs.length rc, .slice oa (resS O).os.length oc, .int .i64 (resS O).c] 30)) := b2.trans ((below_alloc _ _).mono b2.size)
  have S3 : Hid (Sx (w2.alloc (.cells #[.int .i64 (resS O).p, .slice ra (resS O).rs.length rc, .slice oa (resS O).os.length oc, .int .i64 (resS O).c] 30)) w1.heap.size w2.heap.size ra rc oa oc (resS O)) := Sx.new o2 b2.size _
  have L3 : Hid (Tl (w2.alloc (.cells #[.int .i64 (resS O).p, .slice ra (resS O).rs.length rc, .slice oa (resS O).os.length oc, .int .i64 (resS O).c] 30)) w1.heap.size (w2.heap.size + 1) w2.heap.size (resS O).p (resS O).c ra (resS O).rs.length rc oa (resS O).os.length oc (resS O).rs (resS O).os) := Tl.of_alloc o2 b2.size _
  have Q3 : Hid (Below w1.heap.size w1 (w2.alloc (.cells #[.int .i64 (resS O).p, .slice ra (resS O).rs.length rc, .slice oa (resS O).os.length oc, .int .i64 (resS O).c] 30))) := q3
  clear o2 b2 q3 hO
  go_wp2_with fail
  generalize w2.alloc (.cells #[.int .i64 (resS O).p, .slice ra (resS O).rs.length rc, .slice oa (resS O).os.length oc, .int .i64 (resS O).c] 30) = w3 at *
  generalize w2.heap.size = X at *
  refine (specReplay_any gl n gc ge 0 k ec G E w3 HL.out (Nat.lt_of_lt_of_le D1.out.1.1 Q3.out.size) (D1.out.1.2.below Q3.out D1.out.1.1) (Nat.lt_of_lt_of_le D1.out.2.1 Q3.out.size) (D1.out.2.2.below Q3.out D1.out.2.1) (by omega)).mono ?_
  rintro e w4 ⟨v4, rfl, o4, b4⟩
  obtain ⟨ra4, rc4, oa4, oc4, rfl, -, -⟩ := o4.read
  rw [HO.out] at o4 ⊢
  have q5 : Below w3.heap.size w3 (w4.alloc (.cells #[.int .i64 (resS O).p, .slice ra4 (resS O).rs.length rc4, .slice oa4 (resS O).os.length oc4, .int .i64 (resS O).c] 30)) := b4.trans ((below_alloc _ _).mono b4.size)
  have S4' : Hid (Sx (w4.alloc (.cells #[.int .i64 (resS O).p, .slice ra4 (resS O).rs.length rc4, .slice oa4 (resS O).os.length oc4, .int .i64 (resS O).c] 30)) w1.heap.size X ra rc oa oc (resS O)) := S3.out.below q5
  have L4' : Hid (Tl (w4.alloc (.cells #[.int .i64 (resS O).p, .slice ra4 (resS O).rs.length rc4, .slice oa4 (resS O).os.length oc4, .int .i64 (resS O).c] 30)) w1.heap.size (X + 1) X (resS O).p (resS O).c ra (resS O).rs.length rc oa (resS O).os.length oc (resS O).rs (resS O).os) := L3.out.below q5
  have Q4 : Hid (Below w1.heap.size w1 (w4.alloc (.cells #[.int .i64 (resS O).p, .slice ra4 (resS O).rs.length rc4, .slice oa4 (resS O).os.length oc4, .int .i64 (resS O).c] 30))) := Q3.out.trans (q5.mono Q3.out.size)
  clear o4 b4 S3 Q3 q5 L3
  go_upto_region 6 with fail
  generalize w4.alloc (.cells #[.int .i64 (resS O).p, .slice ra4 (resS O).rs.length rc4, .slice oa4 (resS O).os.length oc4, .int .i64 (resS O).c] 30) = w4' at *
  cases O with
  | none =>
    obtain ⟨⟨c0, c1, c2, c3⟩, -, -, -⟩ := S4'.out
    simp only [resS, Option.getD_none, List.length_nil] at c0 c1 c2 c3
    have BE : Hid (Below w0.heap.size w0 w4') := B1.out.trans (Q4.out.mono B1.out.size)
    go_wp2
    go_ret
    exact ⟨rfl, BE.out⟩
  | some S =>
    have hS : progOkB G n 4 = true ∧ rp G n E k = some S := by
      have := HO.out
      unfold repO at this
      split at this
      · rename_i h
        exact ⟨h.1, this⟩
      · cases this
    have HP : Hid (progOkB G n 4 = true ∧ rp G n E k = some S) := hS
    have hlen := OkS.len (rp_ok hS.1 k S hS.2)
    have HLn : Hid (S.rs.length ≤ 1048576 ∧ S.os.length ≤ 1048576) := ⟨by omega, by omega⟩
    have L4 : Hid (Tl w4' w1.heap.size (X + 1) X S.p S.c ra S.rs.length rc oa S.os.length oc S.rs S.os) := L4'.out
    have HOk : Hid (OkS n S) := rp_ok hS.1 k S hS.2
    clear hS hlen S4' L4'
    go_wp2_with fail
    refine (at_one w0.heap.size a0 len cap w4' ?_ hl).mono ?_
    · exact HB.out.kept (B1.out.trans (Q4.out.mono B1.out.size)).block
    rintro e w5 ⟨z, rfl, ⟨z0, z1⟩, rfl⟩
    obtain ⟨kk, hkk, hkk2⟩ : ∃ kk : Nat, z % ((k : Int) + 1) = (kk : Int) ∧ kk ≤ k := by
      have h1 := Int.emod_nonneg z (show (k : Int) + 1 ≠ 0 by omega)
      have h2 := Int.emod_lt_of_pos z (show (0 : Int) < (k : Int) + 1 by omega)
      exact ⟨(z % ((k : Int) + 1)).toNat, by omega, by omega⟩
    have hic : kk ≤ ec := Nat.le_trans hkk2 HKC.out
    have hic2 : (kk : Int) ≤ (k : Int) := by omega
    obtain ⟨S', hS'⟩ := rp_some HP.out.2 hkk2
    have HS' : Hid (repO G n E kk = some S') := by
      show repO G n E kk = some S'
      unfold repO
      rw [if_pos ⟨HP.out.1, by omega⟩]
      exact hS'
    have HR' : Hid (rp G n E kk = some S') := hS'
    clear hS'
    go_wp2_with fail
    have HQe : Hid (Below w0.heap.size w0 w5 ∧ Below w1.heap.size w1 w5) := ⟨B1.out.trans (Q4.out.mono B1.out.size), Q4.out⟩
    refine (implReplay_any gl n gc ge 0 kk ec G E w5 HL.out (Nat.lt_of_lt_of_le D1.out.1.1 Q4.out.size) (D1.out.1.2.below Q4.out D1.out.1.1) (Nat.lt_of_lt_of_le D1.out.2.1 Q4.out.size) (fun i hi => D1.out.2.2.below Q4.out D1.out.2.1 i (by omega)) (by omega) ((HQe.out.1.cell (p := ⟨0, 0, none⟩) HV0.out).trans HV.out)).mono ?_
    rintro e w6 hd
    rw [HS'.out] at hd
    have hd' : DoneR w5 S' true e w6 := hd
    clear hd
    obtain ⟨v6, rfl, o6, b6⟩ := hd'
    obtain ⟨ra6, rc6, oa6, oc6, rfl, -, -⟩ := o6.read
    have HRZ : Hid (Rz w1 (w6.alloc (.cells #[.int .i64 S'.p, .slice ra6 S'.rs.length rc6, .slice oa6 S'.os.length oc6, .int .i64 S'.c] 30)) X w6.heap.size ra rc oa oc S S') := by
      have hq := HQe.out.2.trans (b6.mono HQe.out.2.size)
      have hsz := L4.out.sz
      have hb6 := b6.size
      have t6 := Tl.of_alloc o6 b6.size 30
      exact ⟨hq.trans ((below_alloc _ _).mono hq.size), (L4.out.below b6).below (below_alloc _ _), ⟨ra6, rc6, oa6, oc6, BoxC.new w6 _ _ _ _ _, t6.sl.1, t6.sl.2⟩, fun j => new_frozen _ _ _ j rfl, by omega⟩
    clear o6 b6 L4 Q4 HS'
    go_wp2_with fail
    generalize (w6.alloc (.cells #[.int .i64 S'.p, .slice ra6 S'.rs.length rc6, .slice oa6 S'.os.length oc6, .int .i64 S'.c] 30)) = w7 at *
    generalize w6.heap.size = Y at *
    go_loopw [11, 12] (fun f i wr => ∃ j : Nat, kk ≤ j ∧ j ≤ k ∧ i = .int .i64 j ∧ f = .bool true ∧ Hid (∃ T, rp G n E j = some T ∧ Rz w1 wr X Y ra rc oa oc S T)) (fun _ i _ => k - (intOf i).toNat)
    case atStart => exact ⟨kk, Nat.le_refl _, hkk2, by first | rfl | rw [hkk], rfl, S', HR'.out, HRZ.out⟩
    case round =>
      clear HRZ HR'
      obtain ⟨j, hj1, hj2, rfl, rfl, HJ⟩ := hrel
      obtain ⟨T, hT, hz⟩ := HJ.out
      have HT : Hid (rp G n E j = some T) := hT
      have HZ : Hid (Rz w1 wr X Y ra rc oa oc S T) := hz
      clear HJ hT hz hkk
      obtain ⟨ra', rc', oa', oc', ⟨y0, y1, y2, y3⟩, s1, s2⟩ := HZ.out.ty
      have HSl : Hid (Sl wr ra' T.rs ∧ Sl wr oa' T.os) := ⟨s1, s2⟩
      clear s1 s2
      by_cases hjk : j < k
      · have hjk' : (j : Int) < (k : Int) := by omega
        obtain ⟨e0, e1, e2⟩ := D1.out.2.2.below HZ.out.be D1.out.2.1 j hjk
        rw [Nat.zero_add] at e0 e1 e2
        have yf := HZ.out.fz
        have hnx := rp_next HT.out HP.out.2 hjk
        have hlT := OkS.len (rp_ok HP.out.1 j T HT.out)
        have HLT : Hid (T.rs.length ≤ 1048576 ∧ T.os.length ≤ 1048576) := ⟨by omega, by omega⟩
        generalize hT' : doS G n T.p T.rs T.os T.c (E j).k (E j).q (E j).v = T' at hnx
        have HNx : Hid (doS G n T.p T.rs T.os T.c (E j).k (E j).q (E j).v = T' ∧ doB G n T.p T.rs T.os T.c (E j).k (E j).q (E j).v = true ∧ rp G n E (j + 1) = some T') := ⟨hT', hnx.1, hnx.2⟩
        have dN : ge ≠ Y := by
          have h1 := D1.out.2.1
          have h2 := HZ.out.sx.lo
          have h3 := HZ.out.lt
          omega
        clear hT' hnx hlT
        go_wp2_with fail
        first | (go_region_with (go_at_call 14; refine (implDo_any gl 0 n gc G T.p T.c ra' oa' rc' oc' T.rs T.os (E j).k (E j).q (E j).v _ HL.out (Nat.lt_of_lt_of_le D1.out.1.1 (by exact HZ.out.be.size)) (D1.out.1.2.below (by exact HZ.out.be.drew) D1.out.1.1) HLT.out.1 HLT.out.2 (by exact HSl.out.1.below (Below.refl _ _).drew) (by exact HSl.out.2.below (Below.refl _ _).drew)).mono ?_; rintro e w8 hd; rw [HNx.out.1, HNx.out.2.1] at hd; obtain ⟨v8, rfl, o8, b8⟩ := hd; obtain ⟨ra8, rc8, oa8, oc8, rfl, -, -⟩ := o8.read; have q8 : Below wr.heap.size wr w8 := (Below.refl wr.heap.size wr).drew.trans b8; have O8 : Hid (StOwn w8 wr.heap.size (stV T'.p ra8 T'.rs.length rc8 oa8 T'.os.length oc8 T'.c) T'.p T'.rs T'.os T'.c ∧ Below wr.heap.size wr w8) := ⟨o8, q8⟩; obtain ⟨r0, r1, r2, r3⟩ : BoxC w8 Y (.int .i64 T.p) (.slice ra' T.rs.length rc') (.slice oa' T.os.length oc') (.int .i64 T.c) := BoxC.below ⟨y0, y1, y2, y3⟩ q8; have rf : ∀ j, w8.frozen? ⟨Y, j, none⟩ = false := fun j => (World.frozen?_of_block (q8.block Y HZ.out.ylt)).trans (yf j); clear o8 b8 q8)) | fail
        all_goals
          have HNz : Hid (Rz w1 _ X Y ra rc oa oc S T') := HZ.out.next O8.out.2 O8.out.1
          clear r0 r1 r2 r3 rf y0 y1 y2 y3 e0 e1 e2 yf O8
          go_wp2
          go_roundw
          case rel => exact ⟨j + 1, by omega, by omega, by go_num, rfl, T', HNx.out.2.2, HNz.out⟩
          case measure => simp [intOf]; omega
      · have hjk2 : j = k := by omega
        subst hjk2
        have hTS : T = S := by
          have h1 := HT.out
          rw [HP.out.2] at h1
          exact (Option.some.inj h1).symm
        subst hTS
        have HX : Hid (BoxC wr X (.int .i64 T.p) (.slice ra T.rs.length rc) (.slice oa T.os.length oc) (.int .i64 T.c) ∧ Sl wr ra T.rs ∧ Sl wr oa T.os) := ⟨HZ.out.sx.box, HZ.out.sx.sl⟩
        obtain ⟨⟨x0, x1, x2, x3⟩, -⟩ := HX.out
        have hjk' : ¬ (j : Int) < (j : Int) := by omega
        have HBe : Hid (Below w0.heap.size w0 wr) := B1.out.trans (HZ.out.be.mono B1.out.size)
        go_wp2_with fail
        refine (sameState_same T.p T.c ra oa ra' oa' rc oc rc' oc' T.rs T.os wr HLn.out.1 HLn.out.2 HX.out.2.1 HX.out.2.2 HSl.out.1 HSl.out.2).mono ?_
        rintro e w8 ⟨rfl, b8⟩
        obtain ⟨x0', x1', x2', x3'⟩ := HX.out.1.below b8
        have H8 : Hid (Below w0.heap.size w0 w8 ∧ Sl w8 ra T.rs ∧ Sl w8 oa T.os) := ⟨HBe.out.trans (b8.mono HBe.out.size), HX.out.2.1.below b8, HX.out.2.2.below b8⟩
        clear b8 x0 x1 x2 x3 y0 y1 y2 y3
        go_wp2_with fail
        refine (implStateOk_any _ n _ T.p T.c ra oa rc oc T.rs T.os w8 HLn.out.2 H8.out.2.1 H8.out.2.2).mono ?_
        rintro e w9 ⟨rfl, b9⟩
        have HB9 : Hid (Below w0.heap.size w0 w9) := H8.out.1.trans (b9.mono H8.out.1.size)
        have hok : stOkB n T.p T.rs T.os T.c = true := HOk.out
        rw [hok]
        clear b9 x0' x1' x2' x3' hok
        go_wp2
        go_ret
        exact ⟨rfl, HB9.out⟩

set_option maxHeartbeats 1000000 in
theorem replayDLaw_great (a0 : Option Addr) (len cap : Nat) (w : World) (_hm : len ≤ maxLen) (hs : 1048576 < len) :
    Calls Tryz.prog 3 #[.slice a0 len cap] w fun e w' => e = .returned (.bool true) ∧ Below w.heap.size w w' := by
  go_enter Tryz.func3, Tryz.ntmps3
  go_wp2_with fail
  refine (big_any _ _ _ _).mono ?_
  rintro e w0 ⟨rfl, rfl⟩
  rw [show decide ((1048576 : Int) < (len : Int)) = true from decide_eq_true (by omega)]
  go_wp2
  go_ret
  exact ⟨rfl, Below.refl _ _⟩

end Go.Proofs.YtkpbdcahpkpobaaGreatDoor
