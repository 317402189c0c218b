/- The walk of l2DrawBoth: some program, and a state of it. -/
import Derived.Test.YtmbmhpginegggaaOnA
import Derived.Test.YtmbmhpginegggaaRpG
namespace Go.Proofs.Ytmbmhpginegggaa
open Go.RowKit

set_option maxRecDepth 100000 in
set_option maxHeartbeats 8000000 in
theorem l2DrawBoth_any (W0 c len cap : Nat) (a0 : Option Addr) (w : World) (hc : Cur w W0 c a0 len cap) :
    Calls Try.prog 62 #[.pointer (some ⟨c, 0, none⟩)] w fun e w' => ∃ (gb n gc : Nat) (G : Nat → I5) (v : Value) (p code : Int) (rs os : List Int) (B : Nat), e = .returned (.tuple #[.slice (some ⟨gb, 0, none⟩) n gc, v]) ∧ n ≤ 31 ∧ w.heap.size ≤ gb ∧ gb < B ∧ InsAt w' gb 0 n G ∧ StOwn w' B v p rs os code ∧ rs.length = 4 ∧ os.length ≤ 1048576 ∧ Cur w' W0 c a0 len cap ∧ w.grownBy w' (some c) := by
  have HC0 : Hid (Cur w W0 c a0 len cap) := hc
  have hcl0 := hc.lt
  have hcg := hc.ge
  clear hc
  go_enter Try.func62, Try.ntmps62
  go_wp2_with fail
  have bR := below_alloc w (.cells #[.int .i64 0, .slice none 0 0, .slice none 0 0, .int .i64 0] 27)
  have HR0 : Hid (BoxC (w.alloc (.cells #[.int .i64 0, .slice none 0 0, .slice none 0 0, .int .i64 0] 27)) w.heap.size (.int .i64 0) (.slice none 0 0) (.slice none 0 0) (.int .i64 0) ∧ ∀ j, (w.alloc (.cells #[.int .i64 0, .slice none 0 0, .slice none 0 0, .int .i64 0] 27)).frozen? ⟨w.heap.size, j, none⟩ = false) := ⟨BoxC.new w _ _ _ _ _, fun j => new_frozen _ _ _ j rfl⟩
  have HG0 : Hid (w.grownBy (w.alloc (.cells #[.int .i64 0, .slice none 0 0, .slice none 0 0, .int .i64 0] 27)) (some c)) := grown_any (grown_of_below bR) _
  have hz0 : (w.alloc (.cells #[.int .i64 0, .slice none 0 0, .slice none 0 0, .int .i64 0] 27)).heap.size = w.heap.size + 1 := by simp
  refine (l1DrawAny_any W0 c len cap a0 _ (HC0.out.alloc _)).mono ?_
  rintro e w1 ⟨gb, n, gc, rfl, hn, hw1⟩
  obtain ⟨hg0, hg, g, hI⟩ := hw1.facts
  rw [hz0] at hg0
  have HI : Hid (InsAt w1 gb 0 n g) := hI
  have HC1 : Hid (Cur w1 W0 c a0 len cap ∧ w.grownBy w1 (some c)) := ⟨hw1.2.1, HG0.out.trans hw1.2.2⟩
  have hs1 : w.heap.size + 1 ≤ w1.heap.size := by have := hw1.2.2.size; omega
  have eR : w1.heap[w.heap.size]? = (w.alloc (.cells #[.int .i64 0, .slice none 0 0, .slice none 0 0, .int .i64 0] 27)).heap[w.heap.size]? := hw1.2.2.block _ (by omega) (by simp; omega)
  have HR1 : Hid (BoxC w1 w.heap.size (.int .i64 0) (.slice none 0 0) (.slice none 0 0) (.int .i64 0) ∧ ∀ j, w1.frozen? ⟨w.heap.size, j, none⟩ = false) := by
    obtain ⟨⟨r0, r1, r2, r3⟩, rf⟩ := HR0.out
    exact ⟨⟨(World.cell?_of_block eR).trans r0, (World.cell?_of_block eR).trans r1, (World.cell?_of_block eR).trans r2, (World.cell?_of_block eR).trans r3⟩, fun j => (World.frozen?_of_block eR).trans (rf j)⟩
  have hcl : c < w1.heap.size := hw1.2.1.lt
  have hgc : gb ≠ c := by omega
  have HL : Hid (n ≤ maxLen) := by
    show n ≤ maxLen
    unfold maxLen
    omega
  clear hI hw1 HC0 HR0 HG0 hz0 eR bR
  go_wp2_with fail
  refine (specStateNew_any _).mono ?_
  rintro e w2 ⟨v2, rfl, o2, b2⟩
  obtain ⟨ra2, rc2, oa2, oc2, rfl, -, -⟩ := o2.read
  have bB := below_alloc w2 (.cells #[.int .i64 0, .slice ra2 4 rc2, .slice oa2 0 oc2, .int .i64 0] 27)
  have D2 : Hid (Ds w1 (w2.alloc (.cells #[.int .i64 0, .slice ra2 4 rc2, .slice oa2 0 oc2, .int .i64 0] 27)) (w2.heap.size + 1) W0 c len cap a0 w2.heap.size 0 0 ra2 rc2 oa2 oc2 [0, 0, 0, 0] []) := by
    have bC : Below w1.heap.size w1 (w2.alloc (.cells #[.int .i64 0, .slice ra2 4 rc2, .slice oa2 0 oc2, .int .i64 0] 27)) := b2.trans (bB.mono b2.size)
    exact ⟨HC1.out.1.kept (grown_of_below bC) (by simp) (fun k e => by cases e), grown_any (grown_of_below bC) _, Tl.of_alloc o2 b2.size _, fun j => new_frozen _ _ _ j rfl, rfl, by simp⟩
  clear o2 b2 bB
  go_wp2_with fail
  generalize w2.alloc (.cells #[.int .i64 0, .slice ra2 4 rc2, .slice oa2 0 oc2, .int .i64 0] 27) = w3 at *
  generalize w2.heap.size = Bs at *
  go_loopw [6] (fun i wr => ∃ k : Nat, k ≤ 20 ∧ i = .int .i64 k ∧ Hid (∃ p code ra rc oa oc rs os, Ds w1 wr wr.heap.size W0 c len cap a0 Bs p code ra rc oa oc rs os)) (fun i _ => 20 - (intOf i).toNat)
  case atStart => exact ⟨0, Nat.zero_le _, rfl, _, _, _, _, _, _, _, _, D2.out.widen⟩
  case round =>
    clear D2
    obtain ⟨k, hk, rfl, HD⟩ := hrel
    obtain ⟨p, code, ra, rc, oa, oc, rs, os, hD⟩ := HD.out
    have DR0 : Hid (Ds w1 wr wr.heap.size W0 c len cap a0 Bs p code ra rc oa oc rs os) := hD
    clear HD hD
    go_wp2_with fail
    refine (l1Below_any W0 c len cap a0 _ _ DR0.out.cu (by omega) (by omega)).mono ?_
    rintro e wq ⟨xq, rfl, ⟨xq0, xq1⟩, hcq, hgq⟩
    have DQ : Hid (Ds w1 wq wr.heap.size W0 c len cap a0 Bs p code ra rc oa oc rs os) := DR0.out.turn hcl hcq hgq
    have DR : Hid (Ds w1 wq wq.heap.size W0 c len cap a0 Bs p code ra rc oa oc rs os) := DQ.out.widen
    clear DR0 DQ hcq hgq
    generalize wr = wold at *
    generalize wq = wr at *
    by_cases hlt : (k : Int) < xq
    · have hk20 : k < 20 := by omega
      obtain ⟨c0, c1, c2, c3⟩ := DR.out.tl.box
      go_wp2_with fail
      refine (specNext_any _ _ _ _ g p code ra oa rc oc rs os _ HL.out (DR.out.ins HI.out hg hgc).2 (DR.out.ins HI.out hg hgc).1 (by have := DR.out.lr; omega) DR.out.lo DR.out.tl.sl.1 DR.out.tl.sl.2).mono ?_
      rintro e w4 ⟨rfl, b4⟩
      generalize nxK g n p rs os code = K at *
      generalize nxP g n p rs os code = P at *
      generalize nxW g n p rs os code = V at *
      have z4 : wr.heap.size ≤ w4.heap.size := b4.size
      have D5 : Hid (Ds w1 (w4.alloc (.cells #[.int .i64 K, .int .i64 P, .int .i64 V] 29)) wr.heap.size W0 c len cap a0 Bs p code ra rc oa oc rs os) := (DR.out.below b4).below (below_alloc _ _)
      have E5 : Hid (EvB (w4.alloc (.cells #[.int .i64 K, .int .i64 P, .int .i64 V] 29)) w4.heap.size K P V) := EvB.new w4 K P V _
      have dB : Bs ≠ w4.heap.size := by have := DR.out.tl.hi; omega
      have dB' : w4.heap.size ≠ Bs := fun e => dB e.symm
      have dc : w4.heap.size ≠ c := by have := DR.out.tl.lo; have := DR.out.tl.hi; omega
      clear b4 DR c0 c1 c2 c3
      obtain ⟨⟨e0, e1, e2⟩, ef⟩ := E5.out
      obtain ⟨c0, c1, c2, c3⟩ := D5.out.tl.box
      rcases Bool.eq_false_or_eq_true (K == 3) with tK | tK
      case inr =>
        go_wp2_with fail
        generalize w4.alloc (.cells #[.int .i64 K, .int .i64 P, .int .i64 V] 29) = wx at *
        have DX := D5
        have EX := E5
        clear D5 E5
        refine (specDo_any gb 0 n _ g p code ra oa rc oc rs os K P V _ HL.out (DX.out.ins HI.out hg hgc).2 (DX.out.ins HI.out hg hgc).1 (by have := DX.out.lr; omega) DX.out.lo DX.out.tl.sl.1 DX.out.tl.sl.2).mono ?_
        rintro e w11 hd
        have hS1 := doS_rs g n p rs os code K P V
        have hS2 := (doS_len g n p rs os code K P V (by have := DX.out.lr; omega) DX.out.lo).2
        have hS3 := DX.out.lr
        generalize doS g n p rs os code K P V = S at hd hS1 hS2
        generalize doB g n p rs os code K P V = T at hd
        obtain ⟨v11, rfl, o11, b11⟩ := hd
        obtain ⟨ra11, rc11, oa11, oc11, rfl, -, -⟩ := o11.read
        have SL : Hid (S.rs.length = 4 ∧ S.os.length ≤ 1048576) := ⟨hS1.trans hS3, hS2⟩
        have D11 : Hid (Ds w1 w11 wr.heap.size W0 c len cap a0 Bs p code ra rc oa oc rs os) := DX.out.below b11
        have O11 : Hid (StOwn w11 wx.heap.size (stV S.p ra11 S.rs.length rc11 oa11 S.os.length oc11 S.c) S.p S.rs S.os S.c) := o11
        have zX : wr.heap.size ≤ wx.heap.size := DX.out.tl.sz
        have zB : Bs < w11.heap.size := Nat.lt_of_lt_of_le D11.out.tl.hi D11.out.tl.sz
        clear o11 b11 hS1 hS2 hS3 c0 c1 c2 c3 e0 e1 e2 ef
        obtain ⟨c0, c1, c2, c3⟩ := D11.out.tl.box
        have cf := D11.out.fz
        go_wp2
        go_roundw
        case rel => exact ⟨k + 1, by omega, by go_num, _, _, _, _, _, _, _, _, (D11.out.next hcl hcg O11.out zX SL.out.1 SL.out.2).widen⟩
        case measure => simp [intOf]; omega
      case inl =>
        go_wp2_with fail
        generalize w4.alloc (.cells #[.int .i64 K, .int .i64 P, .int .i64 V] 29) = w5 at *
        refine (l1Below_any W0 c len cap a0 _ _ D5.out.cu (by omega) (by omega)).mono ?_
        rintro e w6 ⟨x, rfl, -, hc6, hg6⟩
        have D6 : Hid (Ds w1 (w6.setCell ⟨w4.heap.size, 1, none⟩ (.int .i64 x)) wr.heap.size W0 c len cap a0 Bs p code ra rc oa oc rs os) := (D5.out.turn hcl hc6 hg6).set hcl hcg z4 _ _
        have h6 := E5.out.block (hg6.block _ E5.out.lt (by simp [dc]))
        have E6 : Hid (EvB (w6.setCell ⟨w4.heap.size, 1, none⟩ (.int .i64 x)) w4.heap.size K x V) := h6.set1 x
        clear e0 e1 e2 ef c0 c1 c2 c3 D5 E5 hc6 hg6
        obtain ⟨⟨e0, e1, e2⟩, ef⟩ := h6
        go_wp2_with fail
        clear e0 e1 e2 ef
        generalize w6.setCell ⟨w4.heap.size, 1, none⟩ (.int .i64 x) = w7 at *
        refine (l1Below_any W0 c len cap a0 _ _ D6.out.cu (by omega) (by omega)).mono ?_
        rintro e w8 ⟨y, rfl, -, hc8, hg8⟩
        have h8 := E6.out.block (hg8.block _ E6.out.lt (by simp [dc]))
        have d8 := D6.out.turn hcl hc8 hg8
        have DX : Hid (Ds w1 (w8.setCell ⟨w4.heap.size, 2, none⟩ (.int .i64 y)) wr.heap.size W0 c len cap a0 Bs p code ra rc oa oc rs os) := d8.set hcl hcg z4 _ _
        have EX : Hid (EvB (w8.setCell ⟨w4.heap.size, 2, none⟩ (.int .i64 y)) w4.heap.size K x y) := h8.set2 y
        clear D6 E6 hc8 hg8
        obtain ⟨⟨e0, e1, e2⟩, ef⟩ := h8
        obtain ⟨c0, c1, c2, c3⟩ := d8.tl.box
        clear d8
        go_wp2_with fail
        generalize w8.setCell ⟨w4.heap.size, 2, none⟩ (.int .i64 y) = wx at *
        refine (specDo_any gb 0 n _ g p code ra oa rc oc rs os K x y _ HL.out (DX.out.ins HI.out hg hgc).2 (DX.out.ins HI.out hg hgc).1 (by have := DX.out.lr; omega) DX.out.lo DX.out.tl.sl.1 DX.out.tl.sl.2).mono ?_
        rintro e w11 hd
        have hS1 := doS_rs g n p rs os code K x y
        have hS2 := (doS_len g n p rs os code K x y (by have := DX.out.lr; omega) DX.out.lo).2
        have hS3 := DX.out.lr
        generalize doS g n p rs os code K x y = S at hd hS1 hS2
        generalize doB g n p rs os code K x y = T at hd
        obtain ⟨v11, rfl, o11, b11⟩ := hd
        obtain ⟨ra11, rc11, oa11, oc11, rfl, -, -⟩ := o11.read
        have SL : Hid (S.rs.length = 4 ∧ S.os.length ≤ 1048576) := ⟨hS1.trans hS3, hS2⟩
        have D11 : Hid (Ds w1 w11 wr.heap.size W0 c len cap a0 Bs p code ra rc oa oc rs os) := DX.out.below b11
        have O11 : Hid (StOwn w11 wx.heap.size (stV S.p ra11 S.rs.length rc11 oa11 S.os.length oc11 S.c) S.p S.rs S.os S.c) := o11
        have zX : wr.heap.size ≤ wx.heap.size := DX.out.tl.sz
        have zB : Bs < w11.heap.size := Nat.lt_of_lt_of_le D11.out.tl.hi D11.out.tl.sz
        clear o11 b11 hS1 hS2 hS3 c0 c1 c2 c3 e0 e1 e2 ef
        obtain ⟨c0, c1, c2, c3⟩ := D11.out.tl.box
        have cf := D11.out.fz
        go_wp2
        go_roundw
        case rel => exact ⟨k + 1, by omega, by go_num, _, _, _, _, _, _, _, _, (D11.out.next hcl hcg O11.out zX SL.out.1 SL.out.2).widen⟩
        case measure => simp [intOf]; omega
    · have zr : w.heap.size < wr.heap.size := by have := DR.out.gr.size; omega
      have eR : wr.heap[w.heap.size]? = w1.heap[w.heap.size]? := DR.out.gr.block _ (by omega) (by simp; omega)
      obtain ⟨⟨r0, r1, r2, r3⟩, rf⟩ := HR1.out
      replace r0 := (World.cell?_of_block eR).trans r0
      replace r1 := (World.cell?_of_block eR).trans r1
      replace r2 := (World.cell?_of_block eR).trans r2
      replace r3 := (World.cell?_of_block eR).trans r3
      have rf' : ∀ j, wr.frozen? ⟨w.heap.size, j, none⟩ = false := fun j => (World.frozen?_of_block eR).trans (rf j)
      obtain ⟨c0, c1, c2, c3⟩ := DR.out.tl.box
      clear rf eR
      have dR : Bs ≠ w.heap.size := by have := DR.out.tl.lo; omega
      have dR' : w.heap.size ≠ Bs := fun e => dR e.symm
      go_wp2_with fail
      go_region
      go_wp2
      refine bodyPost_ret (v := .tuple #[.slice (some ⟨gb, 0, none⟩) n gc, stV p ra rs.length rc oa os.length oc code]) (by simp [results, Try.results62, go_sem, r0, r1, r2, r3]) rfl ⟨gb, n, gc, g, _, p, code, rs, os, w1.heap.size, rfl, hn, by omega, hg, ?_, ?_, DR.out.lr, DR.out.lo, ?_, ?_⟩
      · have hins := (DR.out.ins HI.out hg hgc).1
        have gz := grown4 wr w.heap.size (.int .i64 p) (.slice ra rs.length rc) (.slice oa os.length oc) (.int .i64 code)
        have hgw := (DR.out.ins HI.out hg hgc).2
        intro i hi
        obtain ⟨q0, q1, q2, q3, q4⟩ := hins i hi
        have eG := gz.block gb hgw (by simp; omega)
        exact ⟨(World.cell?_of_block eG).trans q0, (World.cell?_of_block eG).trans q1, (World.cell?_of_block eG).trans q2, (World.cell?_of_block eG).trans q3, (World.cell?_of_block eG).trans q4⟩
      · exact StOwn.put4 (B' := w1.heap.size) DR.out.tl.own (by omega) (Nat.le_refl _)
      · refine Cur.drew ?_
        exact (((DR.out.cu.setOther (p := ⟨w.heap.size, 0, none⟩) (by simp; omega) (by simp; omega) _).setOther (p := ⟨w.heap.size, 1, none⟩) (by simp; omega) (by simp; omega) _).setOther (p := ⟨w.heap.size, 2, none⟩) (by simp; omega) (by simp; omega) _).setOther (p := ⟨w.heap.size, 3, none⟩) (by simp; omega) (by simp; omega) _
      · refine grown_dr ?_
        repeat (refine grown_setCell ?_ (.inr (Nat.le_refl _)) _)
        exact HC1.out.2.trans DR.out.gr

end Go.Proofs.Ytmbmhpginegggaa
