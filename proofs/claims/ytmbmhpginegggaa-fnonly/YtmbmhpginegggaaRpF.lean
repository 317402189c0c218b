/- The walk of l3DrawEvents: some events, in memory of their own. -/
import Derived.Test.YtmbmhpginegggaaRpE
namespace Go.Proofs.Ytmbmhpginegggaa
open Go.RowKit

set_option maxRecDepth 100000 in
set_option maxHeartbeats 8000000 in
theorem l3DrawEvents_any (W0 c len cap : Nat) (a0 : Option Addr) (gb n gc : Nat) (g : Nat → I5) (w : World) (hc : Cur w W0 c a0 len cap) (hn : n ≤ 31) (hg : gb < w.heap.size) (hgc : gb ≠ c) (hI : InsAt w gb 0 n g) :
    Calls Try.prog 78 #[.pointer (some ⟨c, 0, none⟩), .slice (some ⟨gb, 0, none⟩) n gc] w fun e w' => ∃ v k, e = .returned v ∧ k ≤ 25 ∧ LstE w' w.heap.size v k ∧ Cur w' W0 c a0 len cap ∧ w.grownBy w' (some c) := by
  have HC0 : Hid (Cur w W0 c a0 len cap) := hc
  have HI : Hid (InsAt w gb 0 n g) := hI
  have hcl := hc.lt
  have hcg := hc.ge
  have HL : Hid (n ≤ maxLen) := by
    show n ≤ maxLen
    unfold maxLen
    omega
  clear hc hI
  go_enter Try.func78, Try.ntmps78
  go_wp2_with fail
  refine (specStateNew_any _).mono ?_
  rintro e w1 ⟨v1, rfl, o1, b1⟩
  obtain ⟨ra1, rc1, oa1, oc1, rfl, -, -⟩ := o1.read
  have bA := below_alloc w (.cells #[] 29)
  have bB := below_alloc w1 (.cells #[.int .i64 0, .slice ra1 4 rc1, .slice oa1 0 oc1, .int .i64 0] 27)
  have z1 : w.heap.size < w1.heap.size := by have := b1.size; simp at this; omega
  have D1 : Hid (Dr w (w1.alloc (.cells #[.int .i64 0, .slice ra1 4 rc1, .slice oa1 0 oc1, .int .i64 0] 27)) (w1.heap.size + 1) W0 c len cap a0 w1.heap.size (.slice (some ⟨w.heap.size, 0, none⟩) 0 0) 0 0 0 ra1 rc1 oa1 oc1 [0, 0, 0, 0] []) := by
    have o1' : StOwn w1 w.heap.size (stV 0 ra1 4 rc1 oa1 0 oc1 0) 0 [0, 0, 0, 0] [] 0 := o1.mono (by simp)
    have bC : Below w.heap.size w (w1.alloc (.cells #[.int .i64 0, .slice ra1 4 rc1, .slice oa1 0 oc1, .int .i64 0] 27)) := bA.trans ((b1.trans (bB.mono b1.size)).mono bA.size)
    refine ⟨((LstE.empty w).below b1).below bB, HC0.out.kept (grown_of_below bC) (by simp) (fun k e => by cases e), grown_any (grown_of_below bC) _, Tl.of_alloc o1' (by omega) _, fun j => new_frozen _ _ _ j rfl, fun j hj => ?_, ?_, fun j hj => ?_, by simp, by simp⟩
    · simp [Value.ownBlock] at hj
      omega
    · simp [Value.ownBlock]
      omega
    · have hh := (o1.lt hj).1
      simp [Value.ownBlock] at hh ⊢
      omega
  clear o1 b1 bA bB HC0
  go_wp2_with fail
  generalize w1.alloc (.cells #[.int .i64 0, .slice ra1 4 rc1, .slice oa1 0 oc1, .int .i64 0] 27) = w2 at *
  refine (l1Below_any W0 c len cap a0 _ _ D1.out.cu (by omega) (by omega)).mono ?_
  rintro e w3 ⟨m', rfl, ⟨m0, m1⟩, hc3, hg3⟩
  obtain ⟨m, rfl⟩ : ∃ m : Nat, m' = m := ⟨m'.toNat, by omega⟩
  have D3 : Hid (Dr w w3 (w1.heap.size + 1) W0 c len cap a0 w1.heap.size (.slice (some ⟨w.heap.size, 0, none⟩) 0 0) 0 0 0 ra1 rc1 oa1 oc1 [0, 0, 0, 0] []) := D1.out.turn hcl hc3 hg3
  clear hc3 hg3 D1
  generalize w1.heap.size = Bs at *
  go_wp2_with fail
  go_loopw [5, 8] (fun o i wr => ∃ k : Nat, k ≤ m ∧ i = .int .i64 k ∧ Hid (∃ p code ra rc oa oc rs os, Dr w wr wr.heap.size W0 c len cap a0 Bs o k p code ra rc oa oc rs os)) (fun _ i _ => m - (intOf i).toNat)
  case atStart => exact ⟨0, Nat.zero_le _, rfl, _, _, _, _, _, _, _, _, D3.out.widen⟩
  case round =>
    clear D3
    obtain ⟨k, hk, rfl, HD⟩ := hrel
    obtain ⟨p, code, ra, rc, oa, oc, rs, os, hD⟩ := HD.out
    have DR : Hid (Dr w wr wr.heap.size W0 c len cap a0 Bs u5 k p code ra rc oa oc rs os) := hD
    clear HD hD
    by_cases hlt : k < m
    · have hlt' : (k : Int) < (m : Int) := by omega
      obtain ⟨c0, c1, c2, c3⟩ := DR.out.tl.box
      go_wp2_with fail
      refine (specNext_any _ _ _ _ g p code ra oa rc oc rs os _ HL.out (DR.out.ins HI.out hg hgc).2 (DR.out.ins HI.out hg hgc).1 DR.out.lr DR.out.lo DR.out.tl.sl.1 DR.out.tl.sl.2).mono ?_
      rintro e w4 ⟨rfl, b4⟩
      generalize nxK g n p rs os code = K at *
      generalize nxP g n p rs os code = P at *
      generalize nxW g n p rs os code = V at *
      have z4 : wr.heap.size ≤ w4.heap.size := b4.size
      have D5 : Hid (Dr w (w4.alloc (.cells #[.int .i64 K, .int .i64 P, .int .i64 V] 29)) wr.heap.size W0 c len cap a0 Bs u5 k p code ra rc oa oc rs os) := (DR.out.below b4).below (below_alloc _ _)
      have E5 : Hid (EvB (w4.alloc (.cells #[.int .i64 K, .int .i64 P, .int .i64 V] 29)) w4.heap.size K P V) := EvB.new w4 K P V _
      have dB : Bs ≠ w4.heap.size := by have := DR.out.tl.hi; omega
      have dB' : w4.heap.size ≠ Bs := fun e => dB e.symm
      have dc : w4.heap.size ≠ c := by have := DR.out.tl.lo; have := DR.out.tl.hi; omega
      clear b4 DR c0 c1 c2 c3
      obtain ⟨⟨e0, e1, e2⟩, ef⟩ := E5.out
      obtain ⟨c0, c1, c2, c3⟩ := D5.out.tl.box
      rcases Bool.eq_false_or_eq_true (K == 3) with tK | tK
      case inr =>
        go_wp2_with fail
        generalize w4.alloc (.cells #[.int .i64 K, .int .i64 P, .int .i64 V] 29) = wx at *
        have DX := D5
        have EX := E5
        clear D5 E5
        refine (specDo_any gb 0 n _ g p code ra oa rc oc rs os K P V _ HL.out (DX.out.ins HI.out hg hgc).2 (DX.out.ins HI.out hg hgc).1 DX.out.lr DX.out.lo DX.out.tl.sl.1 DX.out.tl.sl.2).mono ?_
        rintro e w11 hd
        have hSl := doS_len g n p rs os code K P V DX.out.lr DX.out.lo
        generalize doS g n p rs os code K P V = S at hd hSl
        generalize doB g n p rs os code K P V = T at hd
        obtain ⟨v11, rfl, o11, b11⟩ := hd
        obtain ⟨ra11, rc11, oa11, oc11, rfl, -, -⟩ := o11.read
        have SL : Hid (S.rs.length ≤ 1048576 ∧ S.os.length ≤ 1048576) := hSl
        have D12 : Hid (Dr w (w11.alloc (.cells #[.int .i64 S.p, .slice ra11 S.rs.length rc11, .slice oa11 S.os.length oc11, .int .i64 S.c] 27)) wr.heap.size W0 c len cap a0 Bs u5 k p code ra rc oa oc rs os) := (DX.out.below b11).below (below_alloc _ _)
        have E12 : Hid (EvB (w11.alloc (.cells #[.int .i64 S.p, .slice ra11 S.rs.length rc11, .slice oa11 S.os.length oc11, .int .i64 S.c] 27)) w4.heap.size K P V) := (EX.out.block (b11.block _ EX.out.lt)).block ((below_alloc _ _).block _ (Nat.lt_of_lt_of_le EX.out.lt b11.size))
        have O12 : Hid (StOwn (w11.alloc (.cells #[.int .i64 S.p, .slice ra11 S.rs.length rc11, .slice oa11 S.os.length oc11, .int .i64 S.c] 27)) wx.heap.size (stV S.p ra11 S.rs.length rc11 oa11 S.os.length oc11 S.c) S.p S.rs S.os S.c) := o11.below (below_alloc _ _)
        have N12 : Hid (BoxC (w11.alloc (.cells #[.int .i64 S.p, .slice ra11 S.rs.length rc11, .slice oa11 S.os.length oc11, .int .i64 S.c] 27)) w11.heap.size (.int .i64 S.p) (.slice ra11 S.rs.length rc11) (.slice oa11 S.os.length oc11) (.int .i64 S.c)) := BoxC.new w11 _ _ _ _ _
        have z11 : wx.heap.size ≤ w11.heap.size := b11.size
        have zX : wr.heap.size ≤ wx.heap.size := DX.out.tl.sz
        clear o11 b11 hSl c0 c1 c2 c3 e0 e1 e2 ef
        cases T
        case false =>
          go_wp2
          go_ret
          exact ⟨_, k, rfl, by omega, D12.out.ls, D12.out.cu, D12.out.gr⟩
        case true =>
          obtain ⟨⟨e0, e1, e2⟩, ef⟩ := E12.out
          go_wp2_with (at_builtin; refine append_stop rfl ?_)
          unfold STOP
          have zS : (w11.alloc (.cells #[.int .i64 S.p, .slice ra11 S.rs.length rc11, .slice oa11 S.os.length oc11, .int .i64 S.c] 27)).heap.size = w11.heap.size + 1 := by simp
          generalize w11.alloc (.cells #[.int .i64 S.p, .slice ra11 S.rs.length rc11, .slice oa11 S.os.length oc11, .int .i64 S.c] 27) = w12 at *
          have HZS : Hid (w12.heap.size = w11.heap.size + 1) := zS
          clear zS e0 e1 e2 ef
          refine append_evt w12 rfl _ _ rfl w.heap.size u5 k rfl D12.out.ls K P V (by simp [HZS.out, go_sem]) (by omega) (Nat.le_trans D12.out.tl.lo (Nat.le_of_lt (Nat.lt_of_lt_of_le D12.out.tl.hi D12.out.tl.sz))) ?_
          intro v' w13 l13 g13 a13
          have zB : Bs < w12.heap.size := Nat.lt_of_lt_of_le D12.out.tl.hi D12.out.tl.sz
          have yB := gcell g13 (b := Bs) zB (fun e => D12.out.nB e.symm)
          have yN := gcell g13 (b := w11.heap.size) (by rw [HZS.out]; exact Nat.lt_succ_self _) (fun e => by have := D12.out.oC _ e.symm; omega)
          obtain ⟨b0, b1, b2, b3⟩ := D12.out.tl.box
          obtain ⟨n0, n1, n2, n3⟩ := N12.out
          have s0 := (yB.1 0).trans b0
          have s1 := (yB.1 1).trans b1
          have s2 := (yB.1 2).trans b2
          have s3 := (yB.1 3).trans b3
          have sf := fun j => (yB.2 j).trans (D12.out.fz j)
          have t0 := (yN.1 0).trans n0
          have t1 := (yN.1 1).trans n1
          have t2 := (yN.1 2).trans n2
          have t3 := (yN.1 3).trans n3
          have L13 : Hid (LstE w13 w.heap.size v' (k + 1)) := l13
          have G13 : Hid (w12.grownBy w13 u5.ownBlock) := g13
          have A13 : Hid (∀ j, v'.ownBlock = some j → u5.ownBlock = some j ∨ w12.heap.size ≤ j) := a13
          clear yB yN b0 b1 b2 b3 n0 n1 n2 n3 l13 g13 a13
          go_wp2
          go_roundw
          case rel => exact ⟨k + 1, by omega, by go_num, _, _, _, _, _, _, _, _, (D12.out.next hcl hcg O12.out zX SL.out.1 SL.out.2 G13.out L13.out A13.out).widen⟩
          case measure => simp [intOf]; omega
      case inl =>
        rcases Bool.eq_false_or_eq_true (P == 9) with tP | tP
        case inl =>
          go_wp2_with fail
          generalize w4.alloc (.cells #[.int .i64 K, .int .i64 P, .int .i64 V] 29) = w5 at *
          refine (l1Below_any W0 c len cap a0 _ _ D5.out.cu (by omega) (by omega)).mono ?_
          rintro e w6 ⟨x, rfl, -, hc6, hg6⟩
          have D6 : Hid (Dr w (w6.setCell ⟨w4.heap.size, 1, none⟩ (.int .i64 x)) wr.heap.size W0 c len cap a0 Bs u5 k p code ra rc oa oc rs os) := (D5.out.turn hcl hc6 hg6).set hcl hcg z4 _ _
          have h6 := E5.out.block (hg6.block _ E5.out.lt (by simp [dc]))
          have E6 : Hid (EvB (w6.setCell ⟨w4.heap.size, 1, none⟩ (.int .i64 x)) w4.heap.size K x V) := h6.set1 x
          clear e0 e1 e2 ef c0 c1 c2 c3 D5 E5 hc6 hg6
          obtain ⟨⟨e0, e1, e2⟩, ef⟩ := h6
          go_wp2_with fail
          clear e0 e1 e2 ef
          generalize w6.setCell ⟨w4.heap.size, 1, none⟩ (.int .i64 x) = w7 at *
          refine (l1Below_any W0 c len cap a0 _ _ D6.out.cu (by omega) (by omega)).mono ?_
          rintro e w8 ⟨y, rfl, -, hc8, hg8⟩
          have h8 := E6.out.block (hg8.block _ E6.out.lt (by simp [dc]))
          have d8 := D6.out.turn hcl hc8 hg8
          have DX : Hid (Dr w (w8.setCell ⟨w4.heap.size, 2, none⟩ (.int .i64 y)) wr.heap.size W0 c len cap a0 Bs u5 k p code ra rc oa oc rs os) := d8.set hcl hcg z4 _ _
          have EX : Hid (EvB (w8.setCell ⟨w4.heap.size, 2, none⟩ (.int .i64 y)) w4.heap.size K x y) := h8.set2 y
          clear D6 E6 hc8 hg8
          obtain ⟨⟨e0, e1, e2⟩, ef⟩ := h8
          obtain ⟨c0, c1, c2, c3⟩ := d8.tl.box
          clear d8
          go_wp2_with fail
          generalize w8.setCell ⟨w4.heap.size, 2, none⟩ (.int .i64 y) = wx at *
          refine (specDo_any gb 0 n _ g p code ra oa rc oc rs os K x y _ HL.out (DX.out.ins HI.out hg hgc).2 (DX.out.ins HI.out hg hgc).1 DX.out.lr DX.out.lo DX.out.tl.sl.1 DX.out.tl.sl.2).mono ?_
          rintro e w11 hd
          have hSl := doS_len g n p rs os code K x y DX.out.lr DX.out.lo
          generalize doS g n p rs os code K x y = S at hd hSl
          generalize doB g n p rs os code K x y = T at hd
          obtain ⟨v11, rfl, o11, b11⟩ := hd
          obtain ⟨ra11, rc11, oa11, oc11, rfl, -, -⟩ := o11.read
          have SL : Hid (S.rs.length ≤ 1048576 ∧ S.os.length ≤ 1048576) := hSl
          have D12 : Hid (Dr w (w11.alloc (.cells #[.int .i64 S.p, .slice ra11 S.rs.length rc11, .slice oa11 S.os.length oc11, .int .i64 S.c] 27)) wr.heap.size W0 c len cap a0 Bs u5 k p code ra rc oa oc rs os) := (DX.out.below b11).below (below_alloc _ _)
          have E12 : Hid (EvB (w11.alloc (.cells #[.int .i64 S.p, .slice ra11 S.rs.length rc11, .slice oa11 S.os.length oc11, .int .i64 S.c] 27)) w4.heap.size K x y) := (EX.out.block (b11.block _ EX.out.lt)).block ((below_alloc _ _).block _ (Nat.lt_of_lt_of_le EX.out.lt b11.size))
          have O12 : Hid (StOwn (w11.alloc (.cells #[.int .i64 S.p, .slice ra11 S.rs.length rc11, .slice oa11 S.os.length oc11, .int .i64 S.c] 27)) wx.heap.size (stV S.p ra11 S.rs.length rc11 oa11 S.os.length oc11 S.c) S.p S.rs S.os S.c) := o11.below (below_alloc _ _)
          have N12 : Hid (BoxC (w11.alloc (.cells #[.int .i64 S.p, .slice ra11 S.rs.length rc11, .slice oa11 S.os.length oc11, .int .i64 S.c] 27)) w11.heap.size (.int .i64 S.p) (.slice ra11 S.rs.length rc11) (.slice oa11 S.os.length oc11) (.int .i64 S.c)) := BoxC.new w11 _ _ _ _ _
          have z11 : wx.heap.size ≤ w11.heap.size := b11.size
          have zX : wr.heap.size ≤ wx.heap.size := DX.out.tl.sz
          clear o11 b11 hSl c0 c1 c2 c3 e0 e1 e2 ef
          cases T
          case false =>
            go_wp2
            go_ret
            exact ⟨_, k, rfl, by omega, D12.out.ls, D12.out.cu, D12.out.gr⟩
          case true =>
            obtain ⟨⟨e0, e1, e2⟩, ef⟩ := E12.out
            go_wp2_with (at_builtin; refine append_stop rfl ?_)
            unfold STOP
            have zS : (w11.alloc (.cells #[.int .i64 S.p, .slice ra11 S.rs.length rc11, .slice oa11 S.os.length oc11, .int .i64 S.c] 27)).heap.size = w11.heap.size + 1 := by simp
            generalize w11.alloc (.cells #[.int .i64 S.p, .slice ra11 S.rs.length rc11, .slice oa11 S.os.length oc11, .int .i64 S.c] 27) = w12 at *
            have HZS : Hid (w12.heap.size = w11.heap.size + 1) := zS
            clear zS e0 e1 e2 ef
            refine append_evt w12 rfl _ _ rfl w.heap.size u5 k rfl D12.out.ls K x y (by simp [HZS.out, go_sem]) (by omega) (Nat.le_trans D12.out.tl.lo (Nat.le_of_lt (Nat.lt_of_lt_of_le D12.out.tl.hi D12.out.tl.sz))) ?_
            intro v' w13 l13 g13 a13
            have zB : Bs < w12.heap.size := Nat.lt_of_lt_of_le D12.out.tl.hi D12.out.tl.sz
            have yB := gcell g13 (b := Bs) zB (fun e => D12.out.nB e.symm)
            have yN := gcell g13 (b := w11.heap.size) (by rw [HZS.out]; exact Nat.lt_succ_self _) (fun e => by have := D12.out.oC _ e.symm; omega)
            obtain ⟨b0, b1, b2, b3⟩ := D12.out.tl.box
            obtain ⟨n0, n1, n2, n3⟩ := N12.out
            have s0 := (yB.1 0).trans b0
            have s1 := (yB.1 1).trans b1
            have s2 := (yB.1 2).trans b2
            have s3 := (yB.1 3).trans b3
            have sf := fun j => (yB.2 j).trans (D12.out.fz j)
            have t0 := (yN.1 0).trans n0
            have t1 := (yN.1 1).trans n1
            have t2 := (yN.1 2).trans n2
            have t3 := (yN.1 3).trans n3
            have L13 : Hid (LstE w13 w.heap.size v' (k + 1)) := l13
            have G13 : Hid (w12.grownBy w13 u5.ownBlock) := g13
            have A13 : Hid (∀ j, v'.ownBlock = some j → u5.ownBlock = some j ∨ w12.heap.size ≤ j) := a13
            clear yB yN b0 b1 b2 b3 n0 n1 n2 n3 l13 g13 a13
            go_wp2
            go_roundw
            case rel => exact ⟨k + 1, by omega, by go_num, _, _, _, _, _, _, _, _, (D12.out.next hcl hcg O12.out zX SL.out.1 SL.out.2 G13.out L13.out A13.out).widen⟩
            case measure => simp [intOf]; omega
        case inr =>
          go_wp2_with fail
          generalize w4.alloc (.cells #[.int .i64 K, .int .i64 P, .int .i64 V] 29) = w7 at *
          refine (l1Below_any W0 c len cap a0 _ _ D5.out.cu (by omega) (by omega)).mono ?_
          rintro e w8 ⟨y, rfl, -, hc8, hg8⟩
          have h8 := E5.out.block (hg8.block _ E5.out.lt (by simp [dc]))
          have d8 := D5.out.turn hcl hc8 hg8
          have DX : Hid (Dr w (w8.setCell ⟨w4.heap.size, 2, none⟩ (.int .i64 y)) wr.heap.size W0 c len cap a0 Bs u5 k p code ra rc oa oc rs os) := d8.set hcl hcg z4 _ _
          have EX : Hid (EvB (w8.setCell ⟨w4.heap.size, 2, none⟩ (.int .i64 y)) w4.heap.size K P y) := h8.set2 y
          clear D5 E5 hc8 hg8 e0 e1 e2 ef c0 c1 c2 c3
          obtain ⟨⟨e0, e1, e2⟩, ef⟩ := h8
          obtain ⟨c0, c1, c2, c3⟩ := d8.tl.box
          clear d8
          go_wp2_with fail
          generalize w8.setCell ⟨w4.heap.size, 2, none⟩ (.int .i64 y) = wx at *
          refine (specDo_any gb 0 n _ g p code ra oa rc oc rs os K P y _ HL.out (DX.out.ins HI.out hg hgc).2 (DX.out.ins HI.out hg hgc).1 DX.out.lr DX.out.lo DX.out.tl.sl.1 DX.out.tl.sl.2).mono ?_
          rintro e w11 hd
          have hSl := doS_len g n p rs os code K P y DX.out.lr DX.out.lo
          generalize doS g n p rs os code K P y = S at hd hSl
          generalize doB g n p rs os code K P y = T at hd
          obtain ⟨v11, rfl, o11, b11⟩ := hd
          obtain ⟨ra11, rc11, oa11, oc11, rfl, -, -⟩ := o11.read
          have SL : Hid (S.rs.length ≤ 1048576 ∧ S.os.length ≤ 1048576) := hSl
          have D12 : Hid (Dr w (w11.alloc (.cells #[.int .i64 S.p, .slice ra11 S.rs.length rc11, .slice oa11 S.os.length oc11, .int .i64 S.c] 27)) wr.heap.size W0 c len cap a0 Bs u5 k p code ra rc oa oc rs os) := (DX.out.below b11).below (below_alloc _ _)
          have E12 : Hid (EvB (w11.alloc (.cells #[.int .i64 S.p, .slice ra11 S.rs.length rc11, .slice oa11 S.os.length oc11, .int .i64 S.c] 27)) w4.heap.size K P y) := (EX.out.block (b11.block _ EX.out.lt)).block ((below_alloc _ _).block _ (Nat.lt_of_lt_of_le EX.out.lt b11.size))
          have O12 : Hid (StOwn (w11.alloc (.cells #[.int .i64 S.p, .slice ra11 S.rs.length rc11, .slice oa11 S.os.length oc11, .int .i64 S.c] 27)) wx.heap.size (stV S.p ra11 S.rs.length rc11 oa11 S.os.length oc11 S.c) S.p S.rs S.os S.c) := o11.below (below_alloc _ _)
          have N12 : Hid (BoxC (w11.alloc (.cells #[.int .i64 S.p, .slice ra11 S.rs.length rc11, .slice oa11 S.os.length oc11, .int .i64 S.c] 27)) w11.heap.size (.int .i64 S.p) (.slice ra11 S.rs.length rc11) (.slice oa11 S.os.length oc11) (.int .i64 S.c)) := BoxC.new w11 _ _ _ _ _
          have z11 : wx.heap.size ≤ w11.heap.size := b11.size
          have zX : wr.heap.size ≤ wx.heap.size := DX.out.tl.sz
          clear o11 b11 hSl c0 c1 c2 c3 e0 e1 e2 ef
          cases T
          case false =>
            go_wp2
            go_ret
            exact ⟨_, k, rfl, by omega, D12.out.ls, D12.out.cu, D12.out.gr⟩
          case true =>
            obtain ⟨⟨e0, e1, e2⟩, ef⟩ := E12.out
            go_wp2_with (at_builtin; refine append_stop rfl ?_)
            unfold STOP
            have zS : (w11.alloc (.cells #[.int .i64 S.p, .slice ra11 S.rs.length rc11, .slice oa11 S.os.length oc11, .int .i64 S.c] 27)).heap.size = w11.heap.size + 1 := by simp
            generalize w11.alloc (.cells #[.int .i64 S.p, .slice ra11 S.rs.length rc11, .slice oa11 S.os.length oc11, .int .i64 S.c] 27) = w12 at *
            have HZS : Hid (w12.heap.size = w11.heap.size + 1) := zS
            clear zS e0 e1 e2 ef
            refine append_evt w12 rfl _ _ rfl w.heap.size u5 k rfl D12.out.ls K P y (by simp [HZS.out, go_sem]) (by omega) (Nat.le_trans D12.out.tl.lo (Nat.le_of_lt (Nat.lt_of_lt_of_le D12.out.tl.hi D12.out.tl.sz))) ?_
            intro v' w13 l13 g13 a13
            have zB : Bs < w12.heap.size := Nat.lt_of_lt_of_le D12.out.tl.hi D12.out.tl.sz
            have yB := gcell g13 (b := Bs) zB (fun e => D12.out.nB e.symm)
            have yN := gcell g13 (b := w11.heap.size) (by rw [HZS.out]; exact Nat.lt_succ_self _) (fun e => by have := D12.out.oC _ e.symm; omega)
            obtain ⟨b0, b1, b2, b3⟩ := D12.out.tl.box
            obtain ⟨n0, n1, n2, n3⟩ := N12.out
            have s0 := (yB.1 0).trans b0
            have s1 := (yB.1 1).trans b1
            have s2 := (yB.1 2).trans b2
            have s3 := (yB.1 3).trans b3
            have sf := fun j => (yB.2 j).trans (D12.out.fz j)
            have t0 := (yN.1 0).trans n0
            have t1 := (yN.1 1).trans n1
            have t2 := (yN.1 2).trans n2
            have t3 := (yN.1 3).trans n3
            have L13 : Hid (LstE w13 w.heap.size v' (k + 1)) := l13
            have G13 : Hid (w12.grownBy w13 u5.ownBlock) := g13
            have A13 : Hid (∀ j, v'.ownBlock = some j → u5.ownBlock = some j ∨ w12.heap.size ≤ j) := a13
            clear yB yN b0 b1 b2 b3 n0 n1 n2 n3 l13 g13 a13
            go_wp2
            go_roundw
            case rel => exact ⟨k + 1, by omega, by go_num, _, _, _, _, _, _, _, _, (D12.out.next hcl hcg O12.out zX SL.out.1 SL.out.2 G13.out L13.out A13.out).widen⟩
            case measure => simp [intOf]; omega
    · have hkl : k = m := by omega
      go_wp2
      go_ret
      exact ⟨_, k, rfl, by omega, DR.out.ls, DR.out.cu, DR.out.gr⟩

end Go.Proofs.Ytmbmhpginegggaa
