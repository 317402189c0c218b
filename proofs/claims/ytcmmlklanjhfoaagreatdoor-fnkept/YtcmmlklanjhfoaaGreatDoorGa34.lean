/- The last kept state within a number of events; the walk of the program's lastWithin. -/
import Derived.Test.YtcmmlklanjhfoaaGreatDoorGa21
import Derived.Deep.RegionLaw
import Derived.Laws.IdiomCopy
import Derived.Test.YtcmmlklanjhfoaaGreatDoorGa33
namespace Go.Proofs.YtcmmlklanjhfoaaGreatDoor
open Go.RowKit

set_option maxRecDepth 100000 in
set_option maxHeartbeats 8000000 in
theorem l3DrawEvents_any (W0 c len cap : Nat) (a0 : Option Addr) (gb n gc : Nat) (g : Nat → I5) (w : World) (hc : Cur w W0 c a0 len cap) (hn : n ≤ 31) (hg : gb < w.heap.size) (hgc : gb ≠ c) (hI : InsAt w gb 0 n g) :
    Calls Tryz.prog 37 #[.pointer (some ⟨c, 0, none⟩), .slice (some ⟨gb, 0, none⟩) n gc] w fun e w' => ∃ v k, e = .returned v ∧ k ≤ 25 ∧ LstE w' w.heap.size v k ∧ Cur w' W0 c a0 len cap ∧ w.grownBy w' (some c) := by
  have HC0 : Hid (Cur w W0 c a0 len cap) := hc
  have HI : Hid (InsAt w gb 0 n g) := hI
  have hcl := hc.lt
  have hcg := hc.ge
  have HL : Hid (n ≤ maxLen) := by
    show n ≤ maxLen
    unfold maxLen
    omega
  clear hc hI
  go_enter Tryz.func37, Tryz.ntmps37
  go_wp2_with fail
  refine (specStateNew_any _).mono ?_
  rintro e w1 ⟨v1, rfl, o1, b1⟩
  obtain ⟨ra1, rc1, oa1, oc1, rfl, -, -⟩ := o1.read
  have bA := below_alloc w (.cells #[] 62)
  have bB := below_alloc w1 (.cells #[.int .i64 0, .slice ra1 4 rc1, .slice oa1 0 oc1, .int .i64 0] 32)
  have z1 : w.heap.size < w1.heap.size := by have := b1.size; simp at this; omega
  have D1 : Hid (Dr w (w1.alloc (.cells #[.int .i64 0, .slice ra1 4 rc1, .slice oa1 0 oc1, .int .i64 0] 32)) (w1.heap.size + 1) W0 c len cap a0 w1.heap.size (.slice (some ⟨w.heap.size, 0, none⟩) 0 0) 0 0 0 ra1 rc1 oa1 oc1 [0, 0, 0, 0] []) := by
    have o1' : StOwn w1 w.heap.size (stV 0 ra1 4 rc1 oa1 0 oc1 0) 0 [0, 0, 0, 0] [] 0 := o1.mono (by simp)
    have bC : Below w.heap.size w (w1.alloc (.cells #[.int .i64 0, .slice ra1 4 rc1, .slice oa1 0 oc1, .int .i64 0] 32)) := bA.trans ((b1.trans (bB.mono b1.size)).mono bA.size)
    refine ⟨((LstE.empty w).below b1).below bB, HC0.out.kept (grown_of_below bC) (by simp) (fun k e => by cases e), grown_any (grown_of_below bC) _, Tl.of_alloc o1' (by omega) _, fun j => new_frozen _ _ _ j rfl, fun j hj => ?_, ?_, fun j hj => ?_, by simp, by simp⟩
    · simp [Value.ownBlock] at hj
      omega
    · simp [Value.ownBlock]
      omega
    · have hh := (o1.lt hj).1
      simp [Value.ownBlock] at hh ⊢
      omega
  clear o1 b1 bA bB HC0
  go_wp2_with fail
  generalize w1.alloc (.cells #[.int .i64 0, .slice ra1 4 rc1, .slice oa1 0 oc1, .int .i64 0] 32) = w2 at *
  refine (l1Below_any W0 c len cap a0 _ _ D1.out.cu (by omega) (by omega)).mono ?_
  rintro e w3 ⟨m', rfl, ⟨m0, m1⟩, hc3, hg3⟩
  obtain ⟨m, rfl⟩ : ∃ m : Nat, m' = m := ⟨m'.toNat, by omega⟩
  have D3 : Hid (Dr w w3 (w1.heap.size + 1) W0 c len cap a0 w1.heap.size (.slice (some ⟨w.heap.size, 0, none⟩) 0 0) 0 0 0 ra1 rc1 oa1 oc1 [0, 0, 0, 0] []) := D1.out.turn hcl hc3 hg3
  clear hc3 hg3 D1
  generalize w1.heap.size = Bs at *
  go_wp2_with fail
  go_loopw [5, 8] (fun o i wr => ∃ k : Nat, k ≤ m ∧ i = .int .i64 k ∧ Hid (∃ p code ra rc oa oc rs os, Dr w wr wr.heap.size W0 c len cap a0 Bs o k p code ra rc oa oc rs os)) (fun _ i _ => m - (intOf i).toNat)
  case atStart => exact ⟨0, Nat.zero_le _, rfl, _, _, _, _, _, _, _, _, D3.out.widen⟩
  case round =>
    clear D3
    obtain ⟨k, hk, rfl, HD⟩ := hrel
    obtain ⟨p, code, ra, rc, oa, oc, rs, os, hD⟩ := HD.out
    have DRh : Hid (Dr w wr wr.heap.size W0 c len cap a0 Bs u5 k p code ra rc oa oc rs os) := hD
    clear HD hD
    by_cases hlt : k < m
    · have hlt' : (k : Int) < (m : Int) := by omega
      obtain ⟨c0, c1, c2, c3⟩ := DRh.out.tl.box
      go_wp2_with fail
      refine (specNext_any _ _ _ _ g p code ra oa rc oc rs os _ HL.out (DRh.out.ins HI.out hg hgc).2 (DRh.out.ins HI.out hg hgc).1 DRh.out.lr DRh.out.lo DRh.out.tl.sl.1 DRh.out.tl.sl.2).mono ?_
      rintro e w4 ⟨rfl, b4⟩
      generalize nxK g n p rs os code = K at *
      generalize nxP g n p rs os code = P at *
      generalize nxW g n p rs os code = V at *
      have z4 : wr.heap.size ≤ w4.heap.size := b4.size
      have D5 : Hid (Dr w (w4.alloc (.cells #[.int .i64 K, .int .i64 P, .int .i64 V] 62)) wr.heap.size W0 c len cap a0 Bs u5 k p code ra rc oa oc rs os) := (DRh.out.below b4).below (below_alloc _ _)
      have E5 : Hid (EvB (w4.alloc (.cells #[.int .i64 K, .int .i64 P, .int .i64 V] 62)) w4.heap.size K P V) := EvB.new w4 K P V _
      have dB : Bs ≠ w4.heap.size := by have := DRh.out.tl.hi; omega
      have dB' : w4.heap.size ≠ Bs := fun e => dB e.symm
      have dc : w4.heap.size ≠ c := by have := DRh.out.tl.lo; have := DRh.out.tl.hi; omega
      clear b4 DRh c0 c1 c2 c3
      obtain ⟨⟨e0, e1, e2⟩, ef⟩ := E5.out
      obtain ⟨c0, c1, c2, c3⟩ := D5.out.tl.box
      rcases Bool.eq_false_or_eq_true (K == 3) with tK | tK
      case inr =>
        go_wp2_with fail
        generalize w4.alloc (.cells #[.int .i64 K, .int .i64 P, .int .i64 V] 62) = wx at *
        have DX := D5
        have EX := E5
        clear D5 E5
        refine (specDo_any gb 0 n _ g p code ra oa rc oc rs os K P V _ HL.out (DX.out.ins HI.out hg hgc).2 (DX.out.ins HI.out hg hgc).1 DX.out.lr DX.out.lo DX.out.tl.sl.1 DX.out.tl.sl.2).mono ?_
        rintro e w11 hd
        have hSl := doS_len g n p rs os code K P V DX.out.lr DX.out.lo
        generalize doS g n p rs os code K P V = S at hd hSl
        generalize doB g n p rs os code K P V = T at hd
        obtain ⟨v11, rfl, o11, b11⟩ := hd
        obtain ⟨ra11, rc11, oa11, oc11, rfl, -, -⟩ := o11.read
        have SL : Hid (S.rs.length ≤ 1048576 ∧ S.os.length ≤ 1048576) := hSl
        have D12 : Hid (Dr w (w11.alloc (.cells #[.int .i64 S.p, .slice ra11 S.rs.length rc11, .slice oa11 S.os.length oc11, .int .i64 S.c] 32)) wr.heap.size W0 c len cap a0 Bs u5 k p code ra rc oa oc rs os) := (DX.out.below b11).below (below_alloc _ _)
        have E12 : Hid (EvB (w11.alloc (.cells #[.int .i64 S.p, .slice ra11 S.rs.length rc11, .slice oa11 S.os.length oc11, .int .i64 S.c] 32)) w4.heap.size K P V) := (EX.out.block (b11.block _ EX.out.lt)).block ((below_alloc _ _).block _ (Nat.lt_of_lt_of_le EX.out.lt b11.size))
        have O12 : Hid (StOwn (w11.alloc (.cells #[.int .i64 S.p, .slice ra11 S.rs.length rc11, .slice oa11 S.os.length oc11, .int .i64 S.c] 32)) wx.heap.size (stV S.p ra11 S.rs.length rc11 oa11 S.os.length oc11 S.c) S.p S.rs S.os S.c) := o11.below (below_alloc _ _)
        have N12 : Hid (BoxC (w11.alloc (.cells #[.int .i64 S.p, .slice ra11 S.rs.length rc11, .slice oa11 S.os.length oc11, .int .i64 S.c] 32)) w11.heap.size (.int .i64 S.p) (.slice ra11 S.rs.length rc11) (.slice oa11 S.os.length oc11) (.int .i64 S.c)) := BoxC.new w11 _ _ _ _ _
        have z11 : wx.heap.size ≤ w11.heap.size := b11.size
        have zX : wr.heap.size ≤ wx.heap.size := DX.out.tl.sz
        clear o11 b11 hSl c0 c1 c2 c3 e0 e1 e2 ef
        cases T
        case false =>
          go_wp2
          go_ret
          exact ⟨_, k, rfl, by omega, D12.out.ls, D12.out.cu, D12.out.gr⟩
        case true =>
          obtain ⟨⟨e0, e1, e2⟩, ef⟩ := E12.out
          go_wp2_with (at_builtin; refine append_stop rfl ?_)
          unfold STOP
          have zS : (w11.alloc (.cells #[.int .i64 S.p, .slice ra11 S.rs.length rc11, .slice oa11 S.os.length oc11, .int .i64 S.c] 32)).heap.size = w11.heap.size + 1 := by simp
          generalize w11.alloc (.cells #[.int .i64 S.p, .slice ra11 S.rs.length rc11, .slice oa11 S.os.length oc11, .int .i64 S.c] 32) = w12 at *
          have HZS : Hid (w12.heap.size = w11.heap.size + 1) := zS
          clear zS e0 e1 e2 ef
          refine append_evt w12 rfl _ _ rfl w.heap.size u5 k rfl D12.out.ls K P V (by simp [HZS.out, go_sem]) (by omega) (Nat.le_trans D12.out.tl.lo (Nat.le_of_lt (Nat.lt_of_lt_of_le D12.out.tl.hi D12.out.tl.sz))) ?_
          intro v' w13 l13 g13 a13
          have zB : Bs < w12.heap.size := Nat.lt_of_lt_of_le D12.out.tl.hi D12.out.tl.sz
          have yB := gcell g13 (b := Bs) zB (fun e => D12.out.nB e.symm)
          have yN := gcell g13 (b := w11.heap.size) (by rw [HZS.out]; exact Nat.lt_succ_self _) (fun e => by have := D12.out.oC _ e.symm; omega)
          obtain ⟨b0, b1, b2, b3⟩ := D12.out.tl.box
          obtain ⟨n0, n1, n2, n3⟩ := N12.out
          have s0 := (yB.1 0).trans b0
          have s1 := (yB.1 1).trans b1
          have s2 := (yB.1 2).trans b2
          have s3 := (yB.1 3).trans b3
          have sf := fun j => (yB.2 j).trans (D12.out.fz j)
          have t0 := (yN.1 0).trans n0
          have t1 := (yN.1 1).trans n1
          have t2 := (yN.1 2).trans n2
          have t3 := (yN.1 3).trans n3
          have L13 : Hid (LstE w13 w.heap.size v' (k + 1)) := l13
          have G13 : Hid (w12.grownBy w13 u5.ownBlock) := g13
          have A13 : Hid (∀ j, v'.ownBlock = some j → u5.ownBlock = some j ∨ w12.heap.size ≤ j) := a13
          clear yB yN b0 b1 b2 b3 n0 n1 n2 n3 l13 g13 a13
          go_wp2
          go_roundw
          case rel => exact ⟨k + 1, by omega, by go_num, _, _, _, _, _, _, _, _, (D12.out.next hcl hcg O12.out zX SL.out.1 SL.out.2 G13.out L13.out A13.out).widen⟩
          case measure => simp [intOf]; omega
      case inl =>
        rcases Bool.eq_false_or_eq_true (P == 9) with tP | tP
        case inl =>
          go_wp2_with fail
          generalize w4.alloc (.cells #[.int .i64 K, .int .i64 P, .int .i64 V] 62) = w5 at *
          refine (l1Below_any W0 c len cap a0 _ _ D5.out.cu (by omega) (by omega)).mono ?_
          rintro e w6 ⟨x, rfl, -, hc6, hg6⟩
          have D6 : Hid (Dr w (w6.setCell ⟨w4.heap.size, 1, none⟩ (.int .i64 x)) wr.heap.size W0 c len cap a0 Bs u5 k p code ra rc oa oc rs os) := (D5.out.turn hcl hc6 hg6).set hcl hcg z4 _ _
          have h6 := E5.out.block (hg6.block _ E5.out.lt (by simp [dc]))
          have E6 : Hid (EvB (w6.setCell ⟨w4.heap.size, 1, none⟩ (.int .i64 x)) w4.heap.size K x V) := h6.set1 x
          clear e0 e1 e2 ef c0 c1 c2 c3 D5 E5 hc6 hg6
          obtain ⟨⟨e0, e1, e2⟩, ef⟩ := h6
          go_wp2_with fail
          clear e0 e1 e2 ef
          generalize w6.setCell ⟨w4.heap.size, 1, none⟩ (.int .i64 x) = w7 at *
          refine (l1Below_any W0 c len cap a0 _ _ D6.out.cu (by omega) (by omega)).mono ?_
          rintro e w8 ⟨y, rfl, -, hc8, hg8⟩
          have h8 := E6.out.block (hg8.block _ E6.out.lt (by simp [dc]))
          have d8 := D6.out.turn hcl hc8 hg8
          have DX : Hid (Dr w (w8.setCell ⟨w4.heap.size, 2, none⟩ (.int .i64 y)) wr.heap.size W0 c len cap a0 Bs u5 k p code ra rc oa oc rs os) := d8.set hcl hcg z4 _ _
          have EX : Hid (EvB (w8.setCell ⟨w4.heap.size, 2, none⟩ (.int .i64 y)) w4.heap.size K x y) := h8.set2 y
          clear D6 E6 hc8 hg8
          obtain ⟨⟨e0, e1, e2⟩, ef⟩ := h8
          obtain ⟨c0, c1, c2, c3⟩ := d8.tl.box
          clear d8
          go_wp2_with fail
          generalize w8.setCell ⟨w4.heap.size, 2, none⟩ (.int .i64 y) = wx at *
          refine (specDo_any gb 0 n _ g p code ra oa rc oc rs os K x y _ HL.out (DX.out.ins HI.out hg hgc).2 (DX.out.ins HI.out hg hgc).1 DX.out.lr DX.out.lo DX.out.tl.sl.1 DX.out.tl.sl.2).mono ?_
          rintro e w11 hd
          have hSl := doS_len g n p rs os code K x y DX.out.lr DX.out.lo
          generalize doS g n p rs os code K x y = S at hd hSl
          generalize doB g n p rs os code K x y = T at hd
          obtain ⟨v11, rfl, o11, b11⟩ := hd
          obtain ⟨ra11, rc11, oa11, oc11, rfl, -, -⟩ := o11.read
          have SL : Hid (S.rs.length ≤ 1048576 ∧ S.os.length ≤ 1048576) := hSl
          have D12 : Hid (Dr w (w11.alloc (.cells #[.int .i64 S.p, .slice ra11 S.rs.length rc11, .slice oa11 S.os.length oc11, .int .i64 S.c] 32)) wr.heap.size W0 c len cap a0 Bs u5 k p code ra rc oa oc rs os) := (DX.out.below b11).below (below_alloc _ _)
          have E12 : Hid (EvB (w11.alloc (.cells #[.int .i64 S.p, .slice ra11 S.rs.length rc11, .slice oa11 S.os.length oc11, .int .i64 S.c] 32)) w4.heap.size K x y) := (EX.out.block (b11.block _ EX.out.lt)).block ((below_alloc _ _).block _ (Nat.lt_of_lt_of_le EX.out.lt b11.size))
          have O12 : Hid (StOwn (w11.alloc (.cells #[.int .i64 S.p, .slice ra11 S.rs.length rc11, .slice oa11 S.os.length oc11, .int .i64 S.c] 32)) wx.heap.size (stV S.p ra11 S.rs.length rc11 oa11 S.os.length oc11 S.c) S.p S.rs S.os S.c) := o11.below (below_alloc _ _)
          have N12 : Hid (BoxC (w11.alloc (.cells #[.int .i64 S.p, .slice ra11 S.rs.length rc11, .slice oa11 S.os.length oc11, .int .i64 S.c] 32)) w11.heap.size (.int .i64 S.p) (.slice ra11 S.rs.length rc11) (.slice oa11 S.os.length oc11) (.int .i64 S.c)) := BoxC.new w11 _ _ _ _ _
          have z11 : wx.heap.size ≤ w11.heap.size := b11.size
          have zX : wr.heap.size ≤ wx.heap.size := DX.out.tl.sz
          clear o11 b11 hSl c0 c1 c2 c3 e0 e1 e2 ef
          cases T
          case false =>
            go_wp2
            go_ret
            exact ⟨_, k, rfl, by omega, D12.out.ls, D12.out.cu, D12.out.gr⟩
          case true =>
            obtain ⟨⟨e0, e1, e2⟩, ef⟩ := E12.out
            go_wp2_with (at_builtin; refine append_stop rfl ?_)
            unfold STOP
            have zS : (w11.alloc (.cells #[.int .i64 S.p, .slice ra11 S.rs.length rc11, .slice oa11 S.os.length oc11, .int .i64 S.c] 32)).heap.size = w11.heap.size + 1 := by simp
            generalize w11.alloc (.cells #[.int .i64 S.p, .slice ra11 S.rs.length rc11, .slice oa11 S.os.length oc11, .int .i64 S.c] 32) = w12 at *
            have HZS : Hid (w12.heap.size = w11.heap.size + 1) := zS
            clear zS e0 e1 e2 ef
            refine append_evt w12 rfl _ _ rfl w.heap.size u5 k rfl D12.out.ls K x y (by simp [HZS.out, go_sem]) (by omega) (Nat.le_trans D12.out.tl.lo (Nat.le_of_lt (Nat.lt_of_lt_of_le D12.out.tl.hi D12.out.tl.sz))) ?_
            intro v' w13 l13 g13 a13
            have zB : Bs < w12.heap.size := Nat.lt_of_lt_of_le D12.out.tl.hi D12.out.tl.sz
            have yB := gcell g13 (b := Bs) zB (fun e => D12.out.nB e.symm)
            have yN := gcell g13 (b := w11.heap.size) (by rw [HZS.out]; exact Nat.lt_succ_self _) (fun e => by have := D12.out.oC _ e.symm; omega)
            obtain ⟨b0, b1, b2, b3⟩ := D12.out.tl.box
            obtain ⟨n0, n1, n2, n3⟩ := N12.out
            have s0 := (yB.1 0).trans b0
            have s1 := (yB.1 1).trans b1
            have s2 := (yB.1 2).trans b2
            have s3 := (yB.1 3).trans b3
            have sf := fun j => (yB.2 j).trans (D12.out.fz j)
            have t0 := (yN.1 0).trans n0
            have t1 := (yN.1 1).trans n1
            have t2 := (yN.1 2).trans n2
            have t3 := (yN.1 3).trans n3
            have L13 : Hid (LstE w13 w.heap.size v' (k + 1)) := l13
            have G13 : Hid (w12.grownBy w13 u5.ownBlock) := g13
            have A13 : Hid (∀ j, v'.ownBlock = some j → u5.ownBlock = some j ∨ w12.heap.size ≤ j) := a13
            clear yB yN b0 b1 b2 b3 n0 n1 n2 n3 l13 g13 a13
            go_wp2
            go_roundw
            case rel => exact ⟨k + 1, by omega, by go_num, _, _, _, _, _, _, _, _, (D12.out.next hcl hcg O12.out zX SL.out.1 SL.out.2 G13.out L13.out A13.out).widen⟩
            case measure => simp [intOf]; omega
        case inr =>
          go_wp2_with fail
          generalize w4.alloc (.cells #[.int .i64 K, .int .i64 P, .int .i64 V] 62) = w7 at *
          refine (l1Below_any W0 c len cap a0 _ _ D5.out.cu (by omega) (by omega)).mono ?_
          rintro e w8 ⟨y, rfl, -, hc8, hg8⟩
          have h8 := E5.out.block (hg8.block _ E5.out.lt (by simp [dc]))
          have d8 := D5.out.turn hcl hc8 hg8
          have DX : Hid (Dr w (w8.setCell ⟨w4.heap.size, 2, none⟩ (.int .i64 y)) wr.heap.size W0 c len cap a0 Bs u5 k p code ra rc oa oc rs os) := d8.set hcl hcg z4 _ _
          have EX : Hid (EvB (w8.setCell ⟨w4.heap.size, 2, none⟩ (.int .i64 y)) w4.heap.size K P y) := h8.set2 y
          clear D5 E5 hc8 hg8 e0 e1 e2 ef c0 c1 c2 c3
          obtain ⟨⟨e0, e1, e2⟩, ef⟩ := h8
          obtain ⟨c0, c1, c2, c3⟩ := d8.tl.box
          clear d8
          go_wp2_with fail
          generalize w8.setCell ⟨w4.heap.size, 2, none⟩ (.int .i64 y) = wx at *
          refine (specDo_any gb 0 n _ g p code ra oa rc oc rs os K P y _ HL.out (DX.out.ins HI.out hg hgc).2 (DX.out.ins HI.out hg hgc).1 DX.out.lr DX.out.lo DX.out.tl.sl.1 DX.out.tl.sl.2).mono ?_
          rintro e w11 hd
          have hSl := doS_len g n p rs os code K P y DX.out.lr DX.out.lo
          generalize doS g n p rs os code K P y = S at hd hSl
          generalize doB g n p rs os code K P y = T at hd
          obtain ⟨v11, rfl, o11, b11⟩ := hd
          obtain ⟨ra11, rc11, oa11, oc11, rfl, -, -⟩ := o11.read
          have SL : Hid (S.rs.length ≤ 1048576 ∧ S.os.length ≤ 1048576) := hSl
          have D12 : Hid (Dr w (w11.alloc (.cells #[.int .i64 S.p, .slice ra11 S.rs.length rc11, .slice oa11 S.os.length oc11, .int .i64 S.c] 32)) wr.heap.size W0 c len cap a0 Bs u5 k p code ra rc oa oc rs os) := (DX.out.below b11).below (below_alloc _ _)
          have E12 : Hid (EvB (w11.alloc (.cells #[.int .i64 S.p, .slice ra11 S.rs.length rc11, .slice oa11 S.os.length oc11, .int .i64 S.c] 32)) w4.heap.size K P y) := (EX.out.block (b11.block _ EX.out.lt)).block ((below_alloc _ _).block _ (Nat.lt_of_lt_of_le EX.out.lt b11.size))
          have O12 : Hid (StOwn (w11.alloc (.cells #[.int .i64 S.p, .slice ra11 S.rs.length rc11, .slice oa11 S.os.length oc11, .int .i64 S.c] 32)) wx.heap.size (stV S.p ra11 S.rs.length rc11 oa11 S.os.length oc11 S.c) S.p S.rs S.os S.c) := o11.below (below_alloc _ _)
          have N12 : Hid (BoxC (w11.alloc (.cells #[.int .i64 S.p, .slice ra11 S.rs.length rc11, .slice oa11 S.os.length oc11, .int .i64 S.c] 32)) w11.heap.size (.int .i64 S.p) (.slice ra11 S.rs.length rc11) (.slice oa11 S.os.length oc11) (.int .i64 S.c)) := BoxC.new w11 _ _ _ _ _
          have z11 : wx.heap.size ≤ w11.heap.size := b11.size
          have zX : wr.heap.size ≤ wx.heap.size := DX.out.tl.sz
          clear o11 b11 hSl c0 c1 c2 c3 e0 e1 e2 ef
          cases T
          case false =>
            go_wp2
            go_ret
            exact ⟨_, k, rfl, by omega, D12.out.ls, D12.out.cu, D12.out.gr⟩
          case true =>
            obtain ⟨⟨e0, e1, e2⟩, ef⟩ := E12.out
            go_wp2_with (at_builtin; refine append_stop rfl ?_)
            unfold STOP
            have zS : (w11.alloc (.cells #[.int .i64 S.p, .slice ra11 S.rs.length rc11, .slice oa11 S.os.length oc11, .int .i64 S.c] 32)).heap.size = w11.heap.size + 1 := by simp
            generalize w11.alloc (.cells #[.int .i64 S.p, .slice ra11 S.rs.length rc11, .slice oa11 S.os.length oc11, .int .i64 S.c] 32) = w12 at *
            have HZS : Hid (w12.heap.size = w11.heap.size + 1) := zS
            clear zS e0 e1 e2 ef
            refine append_evt w12 rfl _ _ rfl w.heap.size u5 k rfl D12.out.ls K P y (by simp [HZS.out, go_sem]) (by omega) (Nat.le_trans D12.out.tl.lo (Nat.le_of_lt (Nat.lt_of_lt_of_le D12.out.tl.hi D12.out.tl.sz))) ?_
            intro v' w13 l13 g13 a13
            have zB : Bs < w12.heap.size := Nat.lt_of_lt_of_le D12.out.tl.hi D12.out.tl.sz
            have yB := gcell g13 (b := Bs) zB (fun e => D12.out.nB e.symm)
            have yN := gcell g13 (b := w11.heap.size) (by rw [HZS.out]; exact Nat.lt_succ_self _) (fun e => by have := D12.out.oC _ e.symm; omega)
            obtain ⟨b0, b1, b2, b3⟩ := D12.out.tl.box
            obtain ⟨n0, n1, n2, n3⟩ := N12.out
            have s0 := (yB.1 0).trans b0
            have s1 := (yB.1 1).trans b1
            have s2 := (yB.1 2).trans b2
            have s3 := (yB.1 3).trans b3
            have sf := fun j => (yB.2 j).trans (D12.out.fz j)
            have t0 := (yN.1 0).trans n0
            have t1 := (yN.1 1).trans n1
            have t2 := (yN.1 2).trans n2
            have t3 := (yN.1 3).trans n3
            have L13 : Hid (LstE w13 w.heap.size v' (k + 1)) := l13
            have G13 : Hid (w12.grownBy w13 u5.ownBlock) := g13
            have A13 : Hid (∀ j, v'.ownBlock = some j → u5.ownBlock = some j ∨ w12.heap.size ≤ j) := a13
            clear yB yN b0 b1 b2 b3 n0 n1 n2 n3 l13 g13 a13
            go_wp2
            go_roundw
            case rel => exact ⟨k + 1, by omega, by go_num, _, _, _, _, _, _, _, _, (D12.out.next hcl hcg O12.out zX SL.out.1 SL.out.2 G13.out L13.out A13.out).widen⟩
            case measure => simp [intOf]; omega
    · have hkl : k = m := by omega
      go_wp2
      go_ret
      exact ⟨_, k, rfl, by omega, DRh.out.ls, DRh.out.cu, DRh.out.gr⟩

end Go.Proofs.YtcmmlklanjhfoaaGreatDoor

namespace Go.Proofs.YtcmmlklanjhfoaaGreatDoor
open Go.RowKit Go.Deep

theorem Way.factsR {w wr : World} {W0 c len cap g n gc : Nat} {a0 : Option Addr} (h : Way w wr W0 c len cap a0 g n gc) : w.heap.size ≤ g ∧ g < wr.heap.size ∧ ∃ G, InsAt wr g 0 n G := by
  refine ⟨h.1.own g rfl, ?_, h.1.at⟩
  obtain ⟨xs, ho, _⟩ := h.1
  exact (ho.lt g rfl).2
theorem grown_newR {w w1 w2 : World} {c : Nat} (h : w.grownBy w1 none) (k : w1.grownBy w2 (some c)) (hc : w.heap.size ≤ c) : w.grownBy w2 none :=
  h.andThen k (fun j hj => by cases hj; exact .inl hc)
theorem LstE.capR {w : World} {B n g cap : Nat} (h : LstE w B (.slice (some ⟨g, 0, none⟩) n cap) n) : n ≤ cap ∧ cap ≤ maxLen ∧ ∀ j, w.frozen? ⟨g, j, none⟩ = false := by
  obtain ⟨xs, ho, -, -⟩ := h
  refine ⟨?_, ?_, fun j => ho.frozenAt j⟩
  · rcases ho.2 with ⟨h0, _⟩ | ⟨g', cap', cur, e, _, _, h1, h2, _⟩
    · cases h0
    · simp only [Value.slice.injEq] at e
      obtain ⟨-, -, rfl⟩ := e
      exact h1
  · rcases ho.2 with ⟨h0, _⟩ | ⟨g', cap', cur, e, _, _, h1, h2, _⟩
    · cases h0
    · simp only [Value.slice.injEq] at e
      obtain ⟨-, -, rfl⟩ := e
      exact h2
/-- A number is put into a cell of a row of events. -/
theorem EvAt.put {w : World} {g n : Nat} {E : Nat → E3} (h : EvAt w g 0 n E) (t : Nat) (z : Int) : ∃ E', EvAt (w.setCell ⟨g, t, none⟩ (.int .i64 z)) g 0 n E' := by
  have key : ∀ (o : Nat) (x : Int), w.cell? ⟨g, o, none⟩ = some (.int .i64 x) → (w.setCell ⟨g, t, none⟩ (.int .i64 z)).cell? ⟨g, o, none⟩ = some (.int .i64 (if o = t then z else x)) := by
    intro o x hx
    by_cases e : o = t
    · subst e
      rw [if_pos rfl]
      exact World.cell?_setCell_same _ _ _ hx
    · rw [if_neg e]
      exact (World.cell?_setCell_other _ _ _ _ fun e' => e (by injection e' with _ e2; exact e2.symm)).trans hx
  refine ⟨fun i => ⟨if 0 + i * 3 = t then z else (E i).k, if 0 + i * 3 + 1 = t then z else (E i).q, if 0 + i * 3 + 2 = t then z else (E i).v⟩, fun i hi => ?_⟩
  obtain ⟨h0, h1, h2⟩ := h i hi
  exact ⟨key _ _ h0, key _ _ h1, key _ _ h2⟩

/-- The cells of the first n events. -/
def flatE (E : Nat → E3) : Nat → List Value
  | 0 => []
  | n + 1 => flatE E n ++ [.int .i64 (E n).k, .int .i64 (E n).q, .int .i64 (E n).v]
theorem flatE_length (E : Nat → E3) : ∀ n, (flatE E n).length = n * 3
  | 0 => rfl
  | n + 1 => by
    rw [flatE, List.length_append, flatE_length E n]
    simp
    omega
theorem flatE_at (E : Nat → E3) : ∀ n i, i < n → (flatE E n)[i * 3]? = some (.int .i64 (E i).k) ∧ (flatE E n)[i * 3 + 1]? = some (.int .i64 (E i).q) ∧ (flatE E n)[i * 3 + 2]? = some (.int .i64 (E i).v)
  | 0, i, hi => by omega
  | n + 1, i, hi => by
    have hl := flatE_length E n
    by_cases e : i = n
    · subst e
      rw [flatE, List.getElem?_append_right (by omega), List.getElem?_append_right (by omega), List.getElem?_append_right (by omega), hl]
      simp
    · obtain ⟨h0, h1, h2⟩ := flatE_at E n i (by omega)
      rw [flatE, List.getElem?_append_left (by omega), List.getElem?_append_left (by omega), List.getElem?_append_left (by omega)]
      exact ⟨h0, h1, h2⟩
theorem flatE_one (E : Nat → E3) : ∀ n, ∀ u ∈ flatE E n, u.oneCell' = true
  | 0, u, hu => by simp [flatE] at hu
  | n + 1, u, hu => by
    rw [flatE, List.mem_append] at hu
    rcases hu with hu | hu
    · exact flatE_one E n u hu
    · simp at hu
      rcases hu with rfl | rfl | rfl <;> rfl
theorem flatE_cell {w : World} {g o n : Nat} {E : Nat → E3} (h : EvAt w g o n E) : ∀ t u, (flatE E n)[t]? = some u → w.cell? ⟨g, o + t, none⟩ = some u := by
  intro t u ht
  have hl : t < (flatE E n).length := by
    rcases Nat.lt_or_ge t (flatE E n).length with h | h
    · exact h
    · rw [List.getElem?_eq_none h] at ht
      cases ht
  rw [flatE_length] at hl
  obtain ⟨c0, c1, c2⟩ := h (t / 3) (by omega)
  obtain ⟨f0, f1, f2⟩ := flatE_at E n (t / 3) (by omega)
  have he : t = t / 3 * 3 ∨ t = t / 3 * 3 + 1 ∨ t = t / 3 * 3 + 2 := by omega
  rcases he with e | e | e
  · rw [← e] at f0 c0
    rw [ht] at f0
    rw [c0, f0]
  · rw [← e] at f1
    rw [show o + t / 3 * 3 + 1 = o + t from by omega] at c1
    rw [ht] at f1
    rw [c1, f1]
  · rw [← e] at f2
    rw [show o + t / 3 * 3 + 2 = o + t from by omega] at c2
    rw [ht] at f2
    rw [c2, f2]
/-- Behind event j all have moved by one. -/
theorem EvAt.cut {w : World} {g k j : Nat} {E : Nat → E3} (h : EvAt w g 0 k E) (hj : j < k) : EvAt (w.setCells g (j * 3) (flatE (fun i => E (j + 1 + i)) (k - (j + 1)))) g 0 (j + (k - (j + 1))) (fun i => if i < j then E i else E (i + 1)) := by
  intro i hi
  have hl := flatE_length (fun i => E (j + 1 + i)) (k - (j + 1))
  by_cases e : i < j
  · have hout : ∀ t, t < j * 3 → (w.setCells g (j * 3) (flatE (fun i => E (j + 1 + i)) (k - (j + 1)))).cell? ⟨g, t, none⟩ = w.cell? ⟨g, t, none⟩ := fun t ht => World.cell?_setCells_out g _ _ _ _ fun _ _ => .inl ht
    obtain ⟨h0, h1, h2⟩ := h i (by omega)
    simp only [if_pos e]
    exact ⟨(hout _ (by omega)).trans h0, (hout _ (by omega)).trans h1, (hout _ (by omega)).trans h2⟩
  · simp only [if_neg e]
    have hall : ∀ t, t < (flatE (fun i => E (j + 1 + i)) (k - (j + 1))).length → (w.cell? ⟨g, j * 3 + t, none⟩).isSome = true := by
      intro t ht
      rw [hl] at ht
      obtain ⟨h0, h1, h2⟩ := h (j + t / 3) (by omega)
      have he : t = t / 3 * 3 ∨ t = t / 3 * 3 + 1 ∨ t = t / 3 * 3 + 2 := by omega
      rcases he with e | e | e
      · rw [show j * 3 + t = 0 + (j + t / 3) * 3 from by omega, h0]; rfl
      · rw [show j * 3 + t = 0 + (j + t / 3) * 3 + 1 from by omega, h1]; rfl
      · rw [show j * 3 + t = 0 + (j + t / 3) * 3 + 2 from by omega, h2]; rfl
    have hin := fun t ht => World.cell?_setCells_in g (flatE (fun i => E (j + 1 + i)) (k - (j + 1))) (j * 3) w hall t ht
    obtain ⟨f0, f1, f2⟩ := flatE_at (fun i => E (j + 1 + i)) (k - (j + 1)) (i - j) (by omega)
    have hE : E (j + 1 + (i - j)) = E (i + 1) := by rw [show j + 1 + (i - j) = i + 1 from by omega]
    rw [hE] at f0 f1 f2
    refine ⟨?_, ?_, ?_⟩
    · rw [show 0 + i * 3 = j * 3 + (i - j) * 3 from by omega, hin _ (by omega), ← f0, List.getElem?_eq_getElem (by omega)]
    · rw [show 0 + i * 3 + 1 = j * 3 + ((i - j) * 3 + 1) from by omega, hin _ (by omega), ← f1, List.getElem?_eq_getElem (by omega)]
    · rw [show 0 + i * 3 + 2 = j * 3 + ((i - j) * 3 + 2) from by omega, hin _ (by omega), ← f2, List.getElem?_eq_getElem (by omega)]

/-- What was drawn: a program in block gl, events in block ge. -/
def DrawnE (w : World) (e : Ending) (w' : World) : Prop := ∃ gl n gc ge k ec G E, e = .returned (.tuple #[.slice (some ⟨gl, 0, none⟩) n gc, .slice (some ⟨ge, 0, none⟩) k ec]) ∧ (n ≤ 31 ∧ k ≤ 25 ∧ k ≤ ec) ∧ (gl < w'.heap.size ∧ InsAt w' gl 0 n G) ∧ (ge < w'.heap.size ∧ EvAt w' ge 0 k E) ∧ Below w.heap.size w w'

set_option maxRecDepth 100000 in
set_option maxHeartbeats 4000000 in
theorem DrawReplay_any (W0 len cap : Nat) (a0 : Option Addr) (w : World) (hB : BytesAt w W0 a0 len) (hW : W0 ≤ w.heap.size) (ln : len ≤ 1048576) :
    Calls Tryz.prog 17 #[.slice a0 len cap] w (DrawnE w) := by
  have HB : Hid (BytesAt w W0 a0 len) := hB
  clear hB
  go_enter Tryz.func17, Tryz.ntmps17
  go_wp2_with fail
  refine (l1New_any W0 len cap a0 _ HB.out hW ln).mono ?_
  rintro e w1 ⟨rfl, hc1, hg1⟩
  have HC1 : Hid (Cur w1 W0 w.heap.size a0 len cap) := hc1
  have HG1 : Hid (w.grownBy w1 none) := hg1
  have hcl := hc1.lt
  clear hc1 hg1 HB
  go_wp2_with fail
  refine (l1DrawAny_any W0 w.heap.size len cap a0 _ HC1.out).mono ?_
  rintro e w2 ⟨g, n, gc, rfl, hn, hw2⟩
  obtain ⟨f1, f2, G, f3⟩ := hw2.factsR
  have hs2 := hw2.2.2.size
  have HI2 : Hid (InsAt w2 g 0 n G) := f3
  have HC2 : Hid (Cur w2 W0 w.heap.size a0 len cap ∧ w.grownBy w2 none) := ⟨hw2.2.1, grown_newR HG1.out hw2.2.2 (Nat.le_refl _)⟩
  clear hw2 HC1 HG1 f3
  go_wp2_with fail
  refine (l3DrawEvents_any W0 w.heap.size len cap a0 g n gc G _ HC2.out.1 hn f2 (by omega) HI2.out).mono ?_
  rintro e w3 ⟨v, k, rfl, hk, l3, c3, g3⟩
  obtain ⟨eg, ec, rfl, hg1, hg2⟩ := l3.form
  have L3 : Hid (LstE w3 w.heap.size (.slice (some ⟨eg, 0, none⟩) k ec) k) := l3.mono (by omega)
  have HC3 : Hid (Cur w3 W0 w.heap.size a0 len cap ∧ w.grownBy w3 none) := ⟨c3, grown_newR HC2.out.2 g3 (Nat.le_refl _)⟩
  have HI3 : Hid (InsAt w3 g 0 n G) := by
    have hb := g3.block g f2 (by simp; omega)
    intro i hi
    have := HI2.out i hi
    have hc : ∀ j, w3.cell? ⟨g, j, none⟩ = w2.cell? ⟨g, j, none⟩ := fun j => World.cell?_of_block hb
    simp only [hc]
    exact this
  have neg : eg ≠ w.heap.size := by omega
  have ngc : g ≠ w.heap.size := by omega
  have neg2 : g ≠ eg := by omega
  have weg : w.heap.size ≤ eg := by omega
  have s3 : w2.heap.size ≤ w3.heap.size := g3.size
  clear l3 c3 g3 HC2 HI2
  have tailK : (k : Int) ≤ 25 := by omega
  have HNG : Hid (n ≤ 31) := hn
  -- what a later world must keep
  have keep : ∀ (wx wy : World), Cur wy W0 w.heap.size a0 len cap → wx.grownBy wy (some w.heap.size) → (LstE wx w.heap.size (.slice (some ⟨eg, 0, none⟩) k ec) k ∧ w.grownBy wx none ∧ InsAt wx g 0 n G ∧ g < wx.heap.size) → (LstE wy w.heap.size (.slice (some ⟨eg, 0, none⟩) k ec) k ∧ w.grownBy wy none ∧ InsAt wy g 0 n G ∧ g < wy.heap.size) := by
    intro wx wy _ hg ⟨a1, a2, a3, a4⟩
    refine ⟨a1.kept hg (fun j e => by cases e; simp [Value.ownBlock]; exact neg), grown_newR a2 hg (Nat.le_refl _), fun i hi => ?_, Nat.lt_of_lt_of_le a4 hg.size⟩
    have hb := hg.block g a4 (by simp; omega)
    have hc : ∀ j, wy.cell? ⟨g, j, none⟩ = wx.cell? ⟨g, j, none⟩ := fun j => World.cell?_of_block hb
    have := a3 i hi
    simp only [hc]
    exact this
  have KP : Hid (∀ (wx wy : World), Cur wy W0 w.heap.size a0 len cap → wx.grownBy wy (some w.heap.size) → (LstE wx w.heap.size (.slice (some ⟨eg, 0, none⟩) k ec) k ∧ w.grownBy wx none ∧ InsAt wx g 0 n G ∧ g < wx.heap.size) → (LstE wy w.heap.size (.slice (some ⟨eg, 0, none⟩) k ec) k ∧ w.grownBy wy none ∧ InsAt wy g 0 n G ∧ g < wy.heap.size)) := keep
  have K3 : Hid (LstE w3 w.heap.size (.slice (some ⟨eg, 0, none⟩) k ec) k ∧ w.grownBy w3 none ∧ InsAt w3 g 0 n G ∧ g < w3.heap.size) := ⟨L3.out, HC3.out.2, HI3.out, by omega⟩
  have C3 : Hid (Cur w3 W0 w.heap.size a0 len cap) := HC3.out.1
  clear keep L3 HC3 HI3 s3 hs2 f2 hg1 hg2 hn
  have fin : ∀ (wx : World), (LstE wx w.heap.size (.slice (some ⟨eg, 0, none⟩) k ec) k ∧ w.grownBy wx none ∧ InsAt wx g 0 n G ∧ g < wx.heap.size) → DrawnE w (.returned (.tuple #[.slice (some ⟨g, 0, none⟩) n gc, .slice (some ⟨eg, 0, none⟩) k ec])) wx := by
    rintro wx ⟨a1, a2, a3, a4⟩
    obtain ⟨E, hE⟩ := a1.at
    exact ⟨g, n, gc, eg, k, ec, G, E, rfl, ⟨HNG.out, hk, a1.capR.1⟩, ⟨a4, a3⟩, ⟨(a1.lt eg rfl).2, hE⟩, below_of_grown a2⟩
  have FIN : Hid (∀ (wx : World), (LstE wx w.heap.size (.slice (some ⟨eg, 0, none⟩) k ec) k ∧ w.grownBy wx none ∧ InsAt wx g 0 n G ∧ g < wx.heap.size) → DrawnE w (.returned (.tuple #[.slice (some ⟨g, 0, none⟩) n gc, .slice (some ⟨eg, 0, none⟩) k ec])) wx) := fin
  have put : ∀ (wx : World) (t : Nat) (z : Int), (LstE wx w.heap.size (.slice (some ⟨eg, 0, none⟩) k ec) k ∧ w.grownBy wx none ∧ InsAt wx g 0 n G ∧ g < wx.heap.size) → DrawnE w (.returned (.tuple #[.slice (some ⟨g, 0, none⟩) n gc, .slice (some ⟨eg, 0, none⟩) k ec])) (wx.setCell ⟨eg, t, none⟩ (.int .i64 z)) := by
    rintro wx t z ⟨a1, a2, a3, a4⟩
    obtain ⟨E, hE⟩ := a1.at
    obtain ⟨E', hE'⟩ := hE.put t z
    refine ⟨g, n, gc, eg, k, ec, G, E', rfl, ⟨HNG.out, hk, a1.capR.1⟩, ⟨by simp; exact a4, fun i hi => ?_⟩, ⟨by simp; exact (a1.lt eg rfl).2, hE'⟩, (below_of_grown a2).setCell weg _⟩
    have hc : ∀ j, (wx.setCell ⟨eg, t, none⟩ (.int .i64 z)).cell? ⟨g, j, none⟩ = wx.cell? ⟨g, j, none⟩ := fun j => World.cell?_setCell_other _ _ _ _ fun e => neg2 (by injection e with e1 _; exact e1.symm)
    have := a3 i hi
    simp only [hc]
    exact this
  have PUT : Hid (∀ (wx : World) (t : Nat) (z : Int), (LstE wx w.heap.size (.slice (some ⟨eg, 0, none⟩) k ec) k ∧ w.grownBy wx none ∧ InsAt wx g 0 n G ∧ g < wx.heap.size) → DrawnE w (.returned (.tuple #[.slice (some ⟨g, 0, none⟩) n gc, .slice (some ⟨eg, 0, none⟩) k ec])) (wx.setCell ⟨eg, t, none⟩ (.int .i64 z))) := put
  clear fin put
  by_cases h0 : 0 < k
  · have h0' : (0 : Int) < (k : Int) := by omega
    go_wp2_with fail
    refine (l1Below_any W0 w.heap.size len cap a0 _ _ C3.out (by omega) (by omega)).mono ?_
    rintro e w4 ⟨x, rfl, ⟨x0, x1⟩, c4, g4⟩
    obtain ⟨j, rfl⟩ : ∃ j : Nat, x = j := ⟨x.toNat, by omega⟩
    have K4 := KP.out _ _ c4 g4 K3.out
    have HK4 : Hid (LstE w4 w.heap.size (.slice (some ⟨eg, 0, none⟩) k ec) k ∧ w.grownBy w4 none ∧ InsAt w4 g 0 n G ∧ g < w4.heap.size) := K4
    have C4 : Hid (Cur w4 W0 w.heap.size a0 len cap) := c4
    clear c4 g4 K4 K3 C3 x0
    have hjk : j < k := by omega
    go_wp2_with fail
    refine (l1Below_any W0 w.heap.size len cap a0 _ _ C4.out (by omega) (by omega)).mono ?_
    rintro e w5 ⟨y, rfl, ⟨y0, y1⟩, c5, g5⟩
    have K5 := KP.out _ _ c5 g5 HK4.out
    have HK5 : Hid (LstE w5 w.heap.size (.slice (some ⟨eg, 0, none⟩) k ec) k ∧ w.grownBy w5 none ∧ InsAt w5 g 0 n G ∧ g < w5.heap.size) := K5
    have C5 : Hid (Cur w5 W0 w.heap.size a0 len cap) := c5
    clear c5 g5 K5 HK4 C4
    by_cases e0 : y = 0
    · subst e0
      go_wp2_with fail
      refine (l1Below_any W0 w.heap.size len cap a0 _ _ C5.out (by omega) (by omega)).mono ?_
      rintro e w6 ⟨z, rfl, -, c6, g6⟩
      have K6 := KP.out _ _ c6 g6 HK5.out
      obtain ⟨E, hE⟩ := K6.1.at
      obtain ⟨k0, k1, k2⟩ := hE j hjk
      rw [Nat.zero_add] at k0 k1 k2
      have fz := K6.1.capR.2.2
      have HK6 : Hid (LstE w6 w.heap.size (.slice (some ⟨eg, 0, none⟩) k ec) k ∧ w.grownBy w6 none ∧ InsAt w6 g 0 n G ∧ g < w6.heap.size) := K6
      clear c6 g6 K6 HK5 C5 hE
      go_wp2
      exact bodyPost_ret (v := .tuple #[.slice (some ⟨g, 0, none⟩) n gc, .slice (some ⟨eg, 0, none⟩) k ec]) (by simp [results, Tryz.results17, go_sem]) rfl (PUT.out _ _ _ HK6.out)
    · by_cases e1 : y = 1
      · subst e1
        go_wp2_with fail
        refine (l1Below_any W0 w.heap.size len cap a0 _ _ C5.out (by omega) (by omega)).mono ?_
        rintro e w6 ⟨z, rfl, -, c6, g6⟩
        have K6 := KP.out _ _ c6 g6 HK5.out
        obtain ⟨E, hE⟩ := K6.1.at
        obtain ⟨k0, k1, k2⟩ := hE j hjk
        rw [Nat.zero_add] at k0 k1 k2
        have fz := K6.1.capR.2.2
        have HK6 : Hid (LstE w6 w.heap.size (.slice (some ⟨eg, 0, none⟩) k ec) k ∧ w.grownBy w6 none ∧ InsAt w6 g 0 n G ∧ g < w6.heap.size) := K6
        clear c6 g6 K6 HK5 C5 hE
        go_wp2
        exact bodyPost_ret (v := .tuple #[.slice (some ⟨g, 0, none⟩) n gc, .slice (some ⟨eg, 0, none⟩) k ec]) (by simp [results, Tryz.results17, go_sem]) rfl (PUT.out _ _ _ HK6.out)
      · by_cases e2 : y = 2
        · subst e2
          obtain ⟨i0, hi0, hz0, hz1, hz2⟩ := info_ev
          obtain ⟨E, hE⟩ := HK5.out.1.at
          have hcap := HK5.out.1.capR
          obtain ⟨A, hA, hnews⟩ : ∃ A : Addr, (if ec = j + 1 then some (⟨eg, 0, none⟩ : Addr) else some ⟨eg, (j + 1) * 3, none⟩) = some A ∧ Hid (∀ t u, (flatE (fun i => E (j + 1 + i)) (k - (j + 1)))[t]? = some u → w5.drew.cell? (A.add t) = some u) := by
            by_cases h : ec = j + 1
            · refine ⟨⟨eg, 0, none⟩, by simp [h], fun t u hu => ?_⟩
              have h0 : k - (j + 1) = 0 := by omega
              rw [h0] at hu
              simp [flatE] at hu
            · refine ⟨⟨eg, (j + 1) * 3, none⟩, by simp [h], fun t u hu => ?_⟩
              rw [Addr.add_lit]
              have hEv : EvAt w5 eg ((j + 1) * 3) (k - (j + 1)) (fun i => E (j + 1 + i)) := by
                intro i hi
                obtain ⟨h0, h1, h2⟩ := hE (j + 1 + i) (by omega)
                rw [show 0 + (j + 1 + i) * 3 = (j + 1) * 3 + i * 3 from by omega] at h0 h1 h2
                exact ⟨h0, h1, h2⟩
              exact flatE_cell hEv t u hu
          have s1 : Hid ((flatE (fun i => E (j + 1 + i)) (k - (j + 1))).length = (k - (j + 1)) * 3) := flatE_length _ _
          have s2 : Hid (∀ u ∈ flatE (fun i => E (j + 1 + i)) (k - (j + 1)), u.oneCell' = true) := flatE_one _ _
          have s3 : Hid (∀ t, t < (flatE (fun i => E (j + 1 + i)) (k - (j + 1))).length → (w5.drew.cell? ⟨eg, 0 + j * 3 + t, none⟩).isSome = true ∧ w5.drew.frozen? ⟨eg, 0 + j * 3 + t, none⟩ = false) := by
            intro t ht
            rw [flatE_length] at ht
            refine ⟨?_, hcap.2.2 _⟩
            show (w5.cell? _).isSome = true
            obtain ⟨h0, h1, h2⟩ := hE (j + t / 3) (by omega)
            have he : t = t / 3 * 3 ∨ t = t / 3 * 3 + 1 ∨ t = t / 3 * 3 + 2 := by omega
            rcases he with e | e | e
            · rw [show 0 + j * 3 + t = 0 + (j + t / 3) * 3 from by omega, h0]; rfl
            · rw [show 0 + j * 3 + t = 0 + (j + t / 3) * 3 + 1 from by omega, h1]; rfl
            · rw [show 0 + j * 3 + t = 0 + (j + t / 3) * 3 + 2 from by omega, h2]; rfl
          have HF : Hid (DrawnE w (.returned (.tuple #[.slice (some ⟨g, 0, none⟩) n gc, .slice (some ⟨eg, 0, none⟩) (j + (k - (j + 1))) ec])) (w5.drew.setCells eg (j * 3) (flatE (fun i => E (j + 1 + i)) (k - (j + 1))))) := by
            obtain ⟨a1, a2, a3, a4⟩ := HK5.out
            have hsz : ∀ (vs : List Value) (o : Nat) (W : World), (W.setCells eg o vs).heap.size = W.heap.size ∧ ∀ b, b ≠ eg → (W.setCells eg o vs).heap[b]? = W.heap[b]? := by
              intro vs
              induction vs with
              | nil => exact fun o W => ⟨rfl, fun _ _ => rfl⟩
              | cons u us ih =>
                intro o W
                obtain ⟨i1, i2⟩ := ih (o + 1) (W.setCell ⟨eg, o, none⟩ u)
                refine ⟨i1.trans (by simp), fun b hb => (i2 b hb).trans (Below.heap_setCell _ _ _ _ hb)⟩
            obtain ⟨z1, z2⟩ := hsz (flatE (fun i => E (j + 1 + i)) (k - (j + 1))) (j * 3) w5.drew
            have bel := below_of_grown a2
            have hos : ∀ (vs : List Value) (o : Nat) (W : World), (W.setCells eg o vs).os = W.os ∧ (W.setCells eg o vs).tape = W.tape ∧ (W.setCells eg o vs).output = W.output := by
              intro vs
              induction vs with
              | nil => exact fun o W => ⟨rfl, rfl, rfl⟩
              | cons u us ih =>
                intro o W
                exact ih (o + 1) (W.setCell ⟨eg, o, none⟩ u)
            obtain ⟨y1, y2, y3⟩ := hos (flatE (fun i => E (j + 1 + i)) (k - (j + 1))) (j * 3) w5.drew
            have hcut := EvAt.cut (w := w5.drew) (g := eg) (k := k) (j := j) (E := E) hE hjk
            refine ⟨g, n, gc, eg, _, ec, G, _, rfl, ⟨HNG.out, by omega, by omega⟩, ⟨by rw [z1]; exact a4, fun i hi => ?_⟩, ⟨by rw [z1]; exact (a1.lt eg rfl).2, hcut⟩, ⟨y1.trans bel.os, y2.trans bel.tape, y3.trans bel.output, by rw [z1]; exact bel.size, fun b hb => (z2 b (by omega)).trans (bel.block b hb)⟩⟩
            have hc : ∀ t, (w5.drew.setCells eg (j * 3) (flatE (fun i => E (j + 1 + i)) (k - (j + 1)))).cell? ⟨g, t, none⟩ = w5.cell? ⟨g, t, none⟩ := fun t => World.cell?_of_block (z2 g neg2)
            have := a3 i hi
            simp only [hc]
            exact this
          have hroom : Hid (j + (k - (j + 1)) ≤ ec) := by show j + (k - (j + 1)) ≤ ec; omega
          have hic : j ≤ ec := by omega
          have hwr : IntKind.i64.wrap ((j : Int) + 1) = (j : Int) + 1 := by rw [IntKind.wrap_i64]; omega
          have hp0 : (0 : Int) ≤ (j : Int) + 1 := by omega
          have hp1 : (j : Int) + 1 ≤ (k : Int) := by omega
          have hp2 : ((j : Int) + 1).toNat = j + 1 := by omega
          clear hE hcap HK5 C5
          go_wp2_with fail
          go_region_law (refine step_append_room rfl (.tmp 44) (.tmp 48) 25 rfl 62 i0 3 Tryz.underlying25 hi0 hz1 eg 0 j ec (by simp [Act.eval, Act.put]) A (k - (j + 1)) (ec - (j + 1)) (flatE (fun i => E (j + 1 + i)) (k - (j + 1))) (by simp [Act.eval, Act.put]) s1.out hnews.out s2.out hroom.out s3.out ?_)
          go_wp2
          exact bodyPost_ret (v := .tuple #[.slice (some ⟨g, 0, none⟩) n gc, .slice (some ⟨eg, 0, none⟩) (j + (k - (j + 1))) ec]) (by simp [results, Tryz.results17, go_sem]) rfl HF.out
        · go_wp2
          exact bodyPost_ret (v := .tuple #[.slice (some ⟨g, 0, none⟩) n gc, .slice (some ⟨eg, 0, none⟩) k ec]) (by simp [results, Tryz.results17, go_sem]) rfl (FIN.out _ HK5.out)
  · have h0' : ¬ (0 : Int) < (k : Int) := by omega
    go_wp2
    exact bodyPost_ret (v := .tuple #[.slice (some ⟨g, 0, none⟩) n gc, .slice (some ⟨eg, 0, none⟩) k ec]) (by simp [results, Tryz.results17, go_sem]) rfl (FIN.out _ K3.out)

end Go.Proofs.YtcmmlklanjhfoaaGreatDoor

namespace Go.Proofs.YtcmmlklanjhfoaaGreatDoor
open Go.ChangeShapes Go.WideShapes Go.ChangeAt Go.RowKit Go.Deep Go.Sort

/-- Which of the first k is the last one that is behind no more than z events. -/
def lastI (q : Nat → K9) (z : Int) : Nat → Nat
  | 0 => 0
  | k + 1 => if (q k).n ≤ z then k else lastI q z k
theorem lastI_lt (q : Nat → K9) (z : Int) : ∀ k, 0 < k → lastI q z k < k
  | 0, h => absurd h (by omega)
  | k + 1, _ => by
    unfold lastI
    split
    · omega
    · by_cases e : k = 0
      · subst e
        simp [lastI]
      · have := lastI_lt q z k (by omega)
        omega
theorem lastI_le {q : Nat → K9} {z : Int} (h0 : (q 0).n ≤ z) : ∀ k, (q (lastI q z k)).n ≤ z
  | 0 => h0
  | k + 1 => by
    unfold lastI
    split
    · assumption
    · exact lastI_le h0 k
theorem lastI_congr {q q' : Nat → K9} (z : Int) (h : ∀ i, (q' i).n = (q i).n) : ∀ k, lastI q' z k = lastI q z k
  | 0 => rfl
  | k + 1 => by
    unfold lastI
    rw [h k, lastI_congr z h k]

abbrev BoxK (w : World) (N : Nat) (x : K9) : Prop := Box5 w N (.int .i64 x.n) (.int .i64 x.p) (.slice x.ra x.rs.length x.rc) (.slice x.oa x.os.length x.oc) (.int .i64 x.c)
/-- Between the rounds of lastWithin. -/
structure Lw (w wr : World) (N : Nat) (x : K9) : Prop where
  be : Below w.heap.size w wr
  lb : BoxK wr (N + 1) x
  lf : ∀ j, wr.frozen? ⟨N + 1, j, none⟩ = false
  rb : Box5 wr N (.int .i64 0) (.int .i64 0) (.slice none 0 0) (.slice none 0 0) (.int .i64 0)
  rf : ∀ j, wr.frozen? ⟨N, j, none⟩ = false
  hN : N = w.heap.size
theorem Lw.below {w wr w' : World} {N : Nat} {x : K9} (h : Lw w wr N x) (hb : Below wr.heap.size wr w') : Lw w w' N x := by
  have e0 := hb.block N (World.block_lt_of_cell? wr _ h.rb.1)
  have e1 := hb.block (N + 1) (World.block_lt_of_cell? wr _ h.lb.1)
  exact ⟨h.be.trans (hb.mono h.be.size), h.lb.below hb, fun j => (World.frozen?_of_block e1).trans (h.lf j), h.rb.below hb, fun j => (World.frozen?_of_block e0).trans (h.rf j), h.hN⟩
theorem Lw.put {w wr : World} {N : Nat} {x : K9} (h : Lw w wr N x) (y : K9) : Lw w (((((wr.setCell ⟨N + 1, 0, none⟩ (.int .i64 y.n)).setCell ⟨N + 1, 1, none⟩ (.int .i64 y.p)).setCell ⟨N + 1, 2, none⟩ (.slice y.ra y.rs.length y.rc)).setCell ⟨N + 1, 3, none⟩ (.slice y.oa y.os.length y.oc)).setCell ⟨N + 1, 4, none⟩ (.int .i64 y.c)) N y := by
  have hl : w.heap.size ≤ N + 1 := by have := h.hN; omega
  refine ⟨((((h.be.setCell hl _).setCell hl _).setCell hl _).setCell hl _).setCell hl _, h.lb.set5 _ _ _ _ _, fun j => ?_, ((((h.rb.setO (by omega) _ _).setO (by omega) _ _).setO (by omega) _ _).setO (by omega) _ _).setO (by omega) _ _, fun j => ?_, h.hN⟩
  · simp only [World.frozen?_setCell]
    exact h.lf j
  · simp only [World.frozen?_setCell]
    exact h.rf j

set_option maxRecDepth 100000 in
set_option maxHeartbeats 2000000 in
theorem lastWithin_any (ka : Option Addr) (c kc : Nat) (q : Nat → K9) (z : Int) (w : World) (hc : c ≤ 1048576) (h0 : 0 < c) (hA : AllKept w ka c q) :
    Calls Tryz.prog 26 #[.slice ka c kc, .int .i64 z] w fun e w' => e = .returned (kpV (q (lastI q z c)).n (q (lastI q z c)).p (q (lastI q z c)).ra (q (lastI q z c)).rs.length (q (lastI q z c)).rc (q (lastI q z c)).oa (q (lastI q z c)).os.length (q (lastI q z c)).oc (q (lastI q z c)).c) ∧ Below w.heap.size w w' := by
  have hc' : (c : Int) ≤ 1048576 := by omega
  have hpos : (0 : Int) < (c : Int) := by omega
  obtain ⟨b, off, rfl, d0, d1, d2, d3, d4⟩ := hA.at h0
  simp only [Nat.zero_mul, Nat.add_zero] at d0 d1 d2 d3 d4
  have zb : b < w.heap.size := World.block_lt_of_cell? w _ d0
  have HA : Hid (AllKept w (some ⟨b, off, none⟩) c q) := hA
  clear hA
  have nb : w.heap.size ≠ b := by omega
  have HL0 : Hid (Lw w ((w.alloc (.cells #[.int .i64 0, .int .i64 0, .slice none 0 0, .slice none 0 0, .int .i64 0] 48)).alloc (.cells #[.int .i64 (q 0).n, .int .i64 (q 0).p, .slice (q 0).ra (q 0).rs.length (q 0).rc, .slice (q 0).oa (q 0).os.length (q 0).oc, .int .i64 (q 0).c] 48)) w.heap.size (q 0)) := by
    have bq := below_alloc (w.alloc (.cells #[.int .i64 0, .int .i64 0, .slice none 0 0, .slice none 0 0, .int .i64 0] 48)) (.cells #[.int .i64 (q 0).n, .int .i64 (q 0).p, .slice (q 0).ra (q 0).rs.length (q 0).rc, .slice (q 0).oa (q 0).os.length (q 0).oc, .int .i64 (q 0).c] 48)
    have n1 := Box5.new (w.alloc (.cells #[.int .i64 0, .int .i64 0, .slice none 0 0, .slice none 0 0, .int .i64 0] 48)) (.int .i64 (q 0).n) (.int .i64 (q 0).p) (.slice (q 0).ra (q 0).rs.length (q 0).rc) (.slice (q 0).oa (q 0).os.length (q 0).oc) (.int .i64 (q 0).c) 48
    have n2 := fun j => new_frozen (w.alloc (.cells #[.int .i64 0, .int .i64 0, .slice none 0 0, .slice none 0 0, .int .i64 0] 48)) #[.int .i64 (q 0).n, .int .i64 (q 0).p, .slice (q 0).ra (q 0).rs.length (q 0).rc, .slice (q 0).oa (q 0).os.length (q 0).oc, .int .i64 (q 0).c] 48 j rfl
    rw [World.size_alloc] at n1 n2
    exact ⟨by go_grown, n1, n2, (Box5.new w _ _ _ _ _ _).below bq, fun j => (World.frozen?_of_block (bq.block w.heap.size (by simp))).trans (new_frozen w _ _ j rfl), rfl⟩
  go_enter Tryz.func26, Tryz.ntmps26
  go_wp2_with fail
  generalize (w.alloc (.cells #[.int .i64 0, .int .i64 0, .slice none 0 0, .slice none 0 0, .int .i64 0] 48)).alloc (.cells #[.int .i64 (q 0).n, .int .i64 (q 0).p, .slice (q 0).ra (q 0).rs.length (q 0).rc, .slice (q 0).oa (q 0).os.length (q 0).oc, .int .i64 (q 0).c] 48) = w1 at *
  clear d0 d1 d2 d3 d4
  go_loopw [13] (fun i wr => ∃ k : Nat, k ≤ c ∧ i = .int .i64 k ∧ Hid (Lw w wr w.heap.size (q (lastI q z k)))) (fun i _ => c - (intOf i).toNat)
  case atStart => exact ⟨0, Nat.zero_le _, rfl, HL0.out⟩
  case round =>
    clear HL0
    obtain ⟨k, hk, rfl, HW⟩ := hrel
    by_cases hlt : k < c
    · have hlt' : (k : Int) < (c : Int) := by omega
      obtain ⟨b1, o1, e1, c0, c1, c2, c3, c4⟩ := (HA.out.below HW.out.be).at hlt
      simp only [Option.some.injEq, Addr.mk.injEq, and_true] at e1
      obtain ⟨rfl, rfl⟩ := e1
      have zw : w.heap.size + 1 < wr.heap.size := World.block_lt_of_cell? wr _ HW.out.lb.1
      have HI : Hid (lastI q z (k + 1) = if (q k).n ≤ z then k else lastI q z k) := rfl
      have HX : Hid (Lw w (wr.alloc (.cells #[.int .i64 (q k).n, .int .i64 (q k).p, .slice (q k).ra (q k).rs.length (q k).rc, .slice (q k).oa (q k).os.length (q k).oc, .int .i64 (q k).c] 48)) w.heap.size (q (lastI q z k))) := HW.out.below (below_alloc _ _)
      have NB : Hid (BoxK (wr.alloc (.cells #[.int .i64 (q k).n, .int .i64 (q k).p, .slice (q k).ra (q k).rs.length (q k).rc, .slice (q k).oa (q k).os.length (q k).oc, .int .i64 (q k).c] 48)) wr.heap.size (q k)) := Box5.new wr _ _ _ _ _ _
      go_upto_region 5 with fail
      generalize wr.alloc (.cells #[.int .i64 (q k).n, .int .i64 (q k).p, .slice (q k).ra (q k).rs.length (q k).rc, .slice (q k).oa (q k).os.length (q k).oc, .int .i64 (q k).c] 48) = w2 at *
      generalize wr.heap.size = M at *
      obtain ⟨n0, n1, n2, n3, n4⟩ := NB.out
      clear c0 c1 c2 c3 c4
      have nM : M ≠ w.heap.size + 1 := by omega
      rcases Bool.eq_false_or_eq_true (decide ((q k).n ≤ z)) with t | t
      · have HI' : Hid (lastI q z (k + 1) = k) := by
          show lastI q z (k + 1) = k
          rw [HI.out, if_pos (of_decide_eq_true t)]
        have HY : Hid (Lw w _ w.heap.size (q k)) := HX.out.put (q k)
        obtain ⟨l0, l1, l2, l3, l4⟩ := HX.out.lb
        have lf := HX.out.lf
        go_wp2
        go_roundw
        case rel => exact ⟨k + 1, by omega, by go_num, by rw [HI'.out]; exact HY.out⟩
        case measure => simp [intOf]; omega
      · have HI' : Hid (lastI q z (k + 1) = lastI q z k) := by
          show lastI q z (k + 1) = lastI q z k
          rw [HI.out, if_neg (of_decide_eq_false t)]
        go_wp2
        go_roundw
        case rel => exact ⟨k + 1, by omega, by go_num, by rw [HI'.out]; exact HX.out⟩
        case measure => simp [intOf]; omega
    · have hkl : k = c := by omega
      subst hkl
      obtain ⟨l0, l1, l2, l3, l4⟩ := HW.out.lb
      obtain ⟨r0, r1, r2, r3, r4⟩ := HW.out.rb
      have rf := HW.out.rf
      have be := HW.out.be
      have nN : w.heap.size + 1 ≠ w.heap.size := by omega
      go_wp2
      refine bodyPost_ret (v := kpV (q (lastI q z k)).n (q (lastI q z k)).p (q (lastI q z k)).ra (q (lastI q z k)).rs.length (q (lastI q z k)).rc (q (lastI q z k)).oa (q (lastI q z k)).os.length (q (lastI q z k)).oc (q (lastI q z k)).c) (by simp [results, Tryz.results26, go_sem, r0, r1, r2, r3, r4]) rfl ⟨rfl, ?_⟩
      exact ((((be.setCell (Nat.le_refl _) _).setCell (Nat.le_refl _) _).setCell (Nat.le_refl _) _).setCell (Nat.le_refl _) _).setCell (Nat.le_refl _) _

end Go.Proofs.YtcmmlklanjhfoaaGreatDoor
