/- The walk of l2Draw: some program, and some state. -/
import Derived.Test.YtmbmhpginegggaaRpZ
import Derived.Deep.RegionHeld3
namespace Go.Proofs.Ytmbmhpginegggaa
open Go.RowKit

theorem doS_rs (g : Nat → I5) (len : Nat) (p : Int) (rs os : List Int) (code k q v : Int) : (doS g len p rs os code k q v).rs.length = rs.length := by
  unfold doS doneS
  repeat' split
  all_goals simp [goS]

/-- What stands between the rounds of a draw of a state: the cursor, a state of the draw's own in block Bs, below C. -/
structure Ds (w wr : World) (C W0 c len cap : Nat) (a0 : Option Addr) (Bs : Nat) (p code : Int) (ra : Option Addr) (rc : Nat) (oa : Option Addr) (oc : Nat) (rs os : List Int) : Prop where
  cu : Cur wr W0 c a0 len cap
  gr : w.grownBy wr (some c)
  tl : Tl wr w.heap.size C Bs p code ra rs.length rc oa os.length oc rs os
  fz : ∀ j, wr.frozen? ⟨Bs, j, none⟩ = false
  lr : rs.length = 4
  lo : os.length ≤ 1048576

theorem Ds.tu {w wr w' : World} {C W0 c len cap : Nat} {a0 : Option Addr} {Bs : Nat} {p code : Int} {ra : Option Addr} {rc : Nat} {oa : Option Addr} {oc : Nat} {rs os : List Int} (h : Ds w wr C W0 c len cap a0 Bs p code ra rc oa oc rs os) {lo hi : Nat} (t : Tu lo hi wr w') (hd : C ≤ lo ∨ hi ≤ w.heap.size) (hc : Cur w' W0 c a0 len cap) (hg : w.grownBy w' (some c)) : Ds w w' C W0 c len cap a0 Bs p code ra rc oa oc rs os := by
  obtain ⟨h2, h3, h4, h5, h9, h10⟩ := h
  refine ⟨hc, hg, h4.tu t hd, fun j => ?_, h9, h10⟩
  rw [World.frozen?_of_block (t.block Bs (Nat.lt_of_lt_of_le h4.hi h4.sz) (by have := h4.lo; have := h4.hi; omega))]
  exact h5 j
theorem Ds.turn {w wr w' : World} {C W0 c len cap : Nat} {a0 : Option Addr} {Bs : Nat} {p code : Int} {ra : Option Addr} {rc : Nat} {oa : Option Addr} {oc : Nat} {rs os : List Int} (h : Ds w wr C W0 c len cap a0 Bs p code ra rc oa oc rs os) (hcl : c < w.heap.size) (hc : Cur w' W0 c a0 len cap) (hg : wr.grownBy w' (some c)) : Ds w w' C W0 c len cap a0 Bs p code ra rc oa oc rs os :=
  h.tu (Tu.of_row hg) (.inr hcl) hc (h.gr.trans hg)
theorem Ds.below {w wr w' : World} {C W0 c len cap : Nat} {a0 : Option Addr} {Bs : Nat} {p code : Int} {ra : Option Addr} {rc : Nat} {oa : Option Addr} {oc : Nat} {rs os : List Int} (h : Ds w wr C W0 c len cap a0 Bs p code ra rc oa oc rs os) (hb : Below wr.heap.size wr w') : Ds w w' C W0 c len cap a0 Bs p code ra rc oa oc rs os :=
  h.tu (Tu.of_below hb) (.inr (Nat.zero_le _)) (h.cu.kept (grown_of_below hb) (by simp) (fun k e => by cases e)) (h.gr.trans (grown_any (grown_of_below hb) _))
theorem Ds.set {w wr : World} {C W0 c len cap : Nat} {a0 : Option Addr} {Bs : Nat} {p code : Int} {ra : Option Addr} {rc : Nat} {oa : Option Addr} {oc : Nat} {rs os : List Int} (h : Ds w wr C W0 c len cap a0 Bs p code ra rc oa oc rs os) (hcl : c < w.heap.size) (hcg : W0 ≤ c) {N : Nat} (hN : C ≤ N) (j : Nat) (v : Value) : Ds w (wr.setCell ⟨N, j, none⟩ v) C W0 c len cap a0 Bs p code ra rc oa oc rs os := by
  have hw : w.heap.size ≤ N := by have := h.tl.lo; have := h.tl.hi; omega
  exact h.tu (Tu.of_row (b := N) (grown_setCell (p := ⟨N, j, none⟩) (World.grownBy.refl _ _) (.inl rfl) v)) (.inl hN) (h.cu.setOther (p := ⟨N, j, none⟩) (by simp; omega) (by simp; omega) v) (grown_setCell (p := ⟨N, j, none⟩) h.gr (.inr hw) v)
theorem Ds.widen {w wr : World} {C W0 c len cap : Nat} {a0 : Option Addr} {Bs : Nat} {p code : Int} {ra : Option Addr} {rc : Nat} {oa : Option Addr} {oc : Nat} {rs os : List Int} (h : Ds w wr C W0 c len cap a0 Bs p code ra rc oa oc rs os) : Ds w wr wr.heap.size W0 c len cap a0 Bs p code ra rc oa oc rs os :=
  ⟨h.cu, h.gr, h.tl.widen h.tl.sz (Nat.le_refl _), h.fz, h.lr, h.lo⟩
theorem Ds.ins {w wr : World} {C W0 c len cap : Nat} {a0 : Option Addr} {Bs : Nat} {p code : Int} {ra : Option Addr} {rc : Nat} {oa : Option Addr} {oc : Nat} {rs os : List Int} (h : Ds w wr C W0 c len cap a0 Bs p code ra rc oa oc rs os) {gb n : Nat} {g : Nat → I5} (hI : InsAt w gb 0 n g) (hg : gb < w.heap.size) (hne : gb ≠ c) : InsAt wr gb 0 n g ∧ gb < wr.heap.size := by
  have hb := h.gr.block gb hg (by simp [hne])
  refine ⟨fun i hi => ?_, Nat.lt_of_lt_of_le hg h.gr.size⟩
  obtain ⟨c0, c1, c2, c3, c4⟩ := hI i hi
  exact ⟨(World.cell?_of_block hb).trans c0, (World.cell?_of_block hb).trans c1, (World.cell?_of_block hb).trans c2, (World.cell?_of_block hb).trans c3, (World.cell?_of_block hb).trans c4⟩

/-- The state behind an event is stored over it. -/
theorem Ds.next {w w9 : World} {C W0 c len cap : Nat} {a0 : Option Addr} {Bs : Nat} {p code : Int} {ra : Option Addr} {rc : Nat} {oa : Option Addr} {oc : Nat} {rs os : List Int} (h : Ds w w9 C W0 c len cap a0 Bs p code ra rc oa oc rs os) (hcl : c < w.heap.size) (hcg : W0 ≤ c)
    {B7 : Nat} {S : S4} {ra7 oa7 : Option Addr} {rc7 oc7 : Nat} (o9 : StOwn w9 B7 (stV S.p ra7 S.rs.length rc7 oa7 S.os.length oc7 S.c) S.p S.rs S.os S.c) (hB : C ≤ B7) (l1 : S.rs.length = 4) (l2 : S.os.length ≤ 1048576) :
    Ds w ((((w9.setCell ⟨Bs, 0, none⟩ (.int .i64 S.p)).setCell ⟨Bs, 1, none⟩ (.slice ra7 S.rs.length rc7)).setCell ⟨Bs, 2, none⟩ (.slice oa7 S.os.length oc7)).setCell ⟨Bs, 3, none⟩ (.int .i64 S.c)) w9.heap.size W0 c len cap a0 Bs S.p S.c ra7 rc7 oa7 oc7 S.rs S.os := by
  have hlo := h.tl.lo
  have hhi := h.tl.hi
  have hsz := h.tl.sz
  refine ⟨?_, ?_, ⟨hlo, by omega, by simp, h.tl.box.set4 _ _ _ _, o9.put4 (by omega) (by omega), fun j hj => (o9.lt hj).2, fun hj => ?_⟩, fun j => ?_, l1, l2⟩
  · exact (((h.cu.setOther (p := ⟨Bs, 0, none⟩) (by simp; omega) (by simp; omega) _).setOther (p := ⟨Bs, 1, none⟩) (by simp; omega) (by simp; omega) _).setOther (p := ⟨Bs, 2, none⟩) (by simp; omega) (by simp; omega) _).setOther (p := ⟨Bs, 3, none⟩) (by simp; omega) (by simp; omega) _
  · repeat (refine grown_setCell ?_ (.inr hlo) _)
    exact h.gr
  · have := (o9.lt hj).1
    omega
  · rw [World.frozen?_setCell, World.frozen?_setCell, World.frozen?_setCell, World.frozen?_setCell]
    exact h.fz j

end Go.Proofs.Ytmbmhpginegggaa

namespace Go.Proofs.Ytmbmhpginegggaa
open Go.RowKit

set_option maxRecDepth 100000 in
set_option maxHeartbeats 8000000 in
theorem l2DrawBoth_any (W0 c len cap : Nat) (a0 : Option Addr) (w : World) (hc : Cur w W0 c a0 len cap) :
    Calls Try.prog 62 #[.pointer (some ⟨c, 0, none⟩)] w fun e w' => ∃ (gb n gc : Nat) (G : Nat → I5) (v : Value) (p code : Int) (rs os : List Int) (B : Nat), e = .returned (.tuple #[.slice (some ⟨gb, 0, none⟩) n gc, v]) ∧ n ≤ 31 ∧ w.heap.size ≤ gb ∧ gb < B ∧ InsAt w' gb 0 n G ∧ StOwn w' B v p rs os code ∧ rs.length = 4 ∧ os.length ≤ 1048576 ∧ Cur w' W0 c a0 len cap ∧ w.grownBy w' (some c) := by
  have HC0 : Hid (Cur w W0 c a0 len cap) := hc
  have hcl0 := hc.lt
  have hcg := hc.ge
  clear hc
  go_enter Try.func62, Try.ntmps62
  go_wp2_with fail
  have bR := below_alloc w (.cells #[.int .i64 0, .slice none 0 0, .slice none 0 0, .int .i64 0] 27)
  have HR0 : Hid (BoxC (w.alloc (.cells #[.int .i64 0, .slice none 0 0, .slice none 0 0, .int .i64 0] 27)) w.heap.size (.int .i64 0) (.slice none 0 0) (.slice none 0 0) (.int .i64 0) ∧ ∀ j, (w.alloc (.cells #[.int .i64 0, .slice none 0 0, .slice none 0 0, .int .i64 0] 27)).frozen? ⟨w.heap.size, j, none⟩ = false) := ⟨BoxC.new w _ _ _ _ _, fun j => new_frozen _ _ _ j rfl⟩
  have HG0 : Hid (w.grownBy (w.alloc (.cells #[.int .i64 0, .slice none 0 0, .slice none 0 0, .int .i64 0] 27)) (some c)) := grown_any (grown_of_below bR) _
  have hz0 : (w.alloc (.cells #[.int .i64 0, .slice none 0 0, .slice none 0 0, .int .i64 0] 27)).heap.size = w.heap.size + 1 := by simp
  refine (l1DrawAny_any W0 c len cap a0 _ (HC0.out.alloc _)).mono ?_
  rintro e w1 ⟨gb, n, gc, rfl, hn, hw1⟩
  obtain ⟨hg0, hg, g, hI⟩ := hw1.facts
  rw [hz0] at hg0
  have HI : Hid (InsAt w1 gb 0 n g) := hI
  have HC1 : Hid (Cur w1 W0 c a0 len cap ∧ w.grownBy w1 (some c)) := ⟨hw1.2.1, HG0.out.trans hw1.2.2⟩
  have hs1 : w.heap.size + 1 ≤ w1.heap.size := by have := hw1.2.2.size; omega
  have eR : w1.heap[w.heap.size]? = (w.alloc (.cells #[.int .i64 0, .slice none 0 0, .slice none 0 0, .int .i64 0] 27)).heap[w.heap.size]? := hw1.2.2.block _ (by omega) (by simp; omega)
  have HR1 : Hid (BoxC w1 w.heap.size (.int .i64 0) (.slice none 0 0) (.slice none 0 0) (.int .i64 0) ∧ ∀ j, w1.frozen? ⟨w.heap.size, j, none⟩ = false) := by
    obtain ⟨⟨r0, r1, r2, r3⟩, rf⟩ := HR0.out
    exact ⟨⟨(World.cell?_of_block eR).trans r0, (World.cell?_of_block eR).trans r1, (World.cell?_of_block eR).trans r2, (World.cell?_of_block eR).trans r3⟩, fun j => (World.frozen?_of_block eR).trans (rf j)⟩
  have hcl : c < w1.heap.size := hw1.2.1.lt
  have hgc : gb ≠ c := by omega
  have HL : Hid (n ≤ maxLen) := by
    show n ≤ maxLen
    unfold maxLen
    omega
  clear hI hw1 HC0 HR0 HG0 hz0 eR bR
  go_wp2_with fail
  refine (specStateNew_any _).mono ?_
  rintro e w2 ⟨v2, rfl, o2, b2⟩
  obtain ⟨ra2, rc2, oa2, oc2, rfl, -, -⟩ := o2.read
  have bB := below_alloc w2 (.cells #[.int .i64 0, .slice ra2 4 rc2, .slice oa2 0 oc2, .int .i64 0] 27)
  have D2 : Hid (Ds w1 (w2.alloc (.cells #[.int .i64 0, .slice ra2 4 rc2, .slice oa2 0 oc2, .int .i64 0] 27)) (w2.heap.size + 1) W0 c len cap a0 w2.heap.size 0 0 ra2 rc2 oa2 oc2 [0, 0, 0, 0] []) := by
    have bC : Below w1.heap.size w1 (w2.alloc (.cells #[.int .i64 0, .slice ra2 4 rc2, .slice oa2 0 oc2, .int .i64 0] 27)) := b2.trans (bB.mono b2.size)
    exact ⟨HC1.out.1.kept (grown_of_below bC) (by simp) (fun k e => by cases e), grown_any (grown_of_below bC) _, Tl.of_alloc o2 b2.size _, fun j => new_frozen _ _ _ j rfl, rfl, by simp⟩
  clear o2 b2 bB
  go_wp2_with fail
  generalize w2.alloc (.cells #[.int .i64 0, .slice ra2 4 rc2, .slice oa2 0 oc2, .int .i64 0] 27) = w3 at *
  generalize w2.heap.size = Bs at *
  go_loopw [6] (fun i wr => ∃ k : Nat, k ≤ 20 ∧ i = .int .i64 k ∧ Hid (∃ p code ra rc oa oc rs os, Ds w1 wr wr.heap.size W0 c len cap a0 Bs p code ra rc oa oc rs os)) (fun i _ => 20 - (intOf i).toNat)
  case atStart => exact ⟨0, Nat.zero_le _, rfl, _, _, _, _, _, _, _, _, D2.out.widen⟩
  case round =>
    clear D2
    obtain ⟨k, hk, rfl, HD⟩ := hrel
    obtain ⟨p, code, ra, rc, oa, oc, rs, os, hD⟩ := HD.out
    have DR0 : Hid (Ds w1 wr wr.heap.size W0 c len cap a0 Bs p code ra rc oa oc rs os) := hD
    clear HD hD
    go_wp2_with fail
    refine (l1Below_any W0 c len cap a0 _ _ DR0.out.cu (by omega) (by omega)).mono ?_
    rintro e wq ⟨xq, rfl, ⟨xq0, xq1⟩, hcq, hgq⟩
    have DQ : Hid (Ds w1 wq wr.heap.size W0 c len cap a0 Bs p code ra rc oa oc rs os) := DR0.out.turn hcl hcq hgq
    have DR : Hid (Ds w1 wq wq.heap.size W0 c len cap a0 Bs p code ra rc oa oc rs os) := DQ.out.widen
    clear DR0 DQ hcq hgq
    generalize wr = wold at *
    generalize wq = wr at *
    by_cases hlt : (k : Int) < xq
    · have hk20 : k < 20 := by omega
      obtain ⟨c0, c1, c2, c3⟩ := DR.out.tl.box
      go_wp2_with fail
      refine (specNext_any _ _ _ _ g p code ra oa rc oc rs os _ HL.out (DR.out.ins HI.out hg hgc).2 (DR.out.ins HI.out hg hgc).1 (by have := DR.out.lr; omega) DR.out.lo DR.out.tl.sl.1 DR.out.tl.sl.2).mono ?_
      rintro e w4 ⟨rfl, b4⟩
      generalize nxK g n p rs os code = K at *
      generalize nxP g n p rs os code = P at *
      generalize nxW g n p rs os code = V at *
      have z4 : wr.heap.size ≤ w4.heap.size := b4.size
      have D5 : Hid (Ds w1 (w4.alloc (.cells #[.int .i64 K, .int .i64 P, .int .i64 V] 29)) wr.heap.size W0 c len cap a0 Bs p code ra rc oa oc rs os) := (DR.out.below b4).below (below_alloc _ _)
      have E5 : Hid (EvB (w4.alloc (.cells #[.int .i64 K, .int .i64 P, .int .i64 V] 29)) w4.heap.size K P V) := EvB.new w4 K P V _
      have dB : Bs ≠ w4.heap.size := by have := DR.out.tl.hi; omega
      have dB' : w4.heap.size ≠ Bs := fun e => dB e.symm
      have dc : w4.heap.size ≠ c := by have := DR.out.tl.lo; have := DR.out.tl.hi; omega
      clear b4 DR c0 c1 c2 c3
      obtain ⟨⟨e0, e1, e2⟩, ef⟩ := E5.out
      obtain ⟨c0, c1, c2, c3⟩ := D5.out.tl.box
      rcases Bool.eq_false_or_eq_true (K == 3) with tK | tK
      case inr =>
        go_wp2_with fail
        generalize w4.alloc (.cells #[.int .i64 K, .int .i64 P, .int .i64 V] 29) = wx at *
        have DX := D5
        have EX := E5
        clear D5 E5
        refine (specDo_any gb 0 n _ g p code ra oa rc oc rs os K P V _ HL.out (DX.out.ins HI.out hg hgc).2 (DX.out.ins HI.out hg hgc).1 (by have := DX.out.lr; omega) DX.out.lo DX.out.tl.sl.1 DX.out.tl.sl.2).mono ?_
        rintro e w11 hd
        have hS1 := doS_rs g n p rs os code K P V
        have hS2 := (doS_len g n p rs os code K P V (by have := DX.out.lr; omega) DX.out.lo).2
        have hS3 := DX.out.lr
        generalize doS g n p rs os code K P V = S at hd hS1 hS2
        generalize doB g n p rs os code K P V = T at hd
        obtain ⟨v11, rfl, o11, b11⟩ := hd
        obtain ⟨ra11, rc11, oa11, oc11, rfl, -, -⟩ := o11.read
        have SL : Hid (S.rs.length = 4 ∧ S.os.length ≤ 1048576) := ⟨hS1.trans hS3, hS2⟩
        have D11 : Hid (Ds w1 w11 wr.heap.size W0 c len cap a0 Bs p code ra rc oa oc rs os) := DX.out.below b11
        have O11 : Hid (StOwn w11 wx.heap.size (stV S.p ra11 S.rs.length rc11 oa11 S.os.length oc11 S.c) S.p S.rs S.os S.c) := o11
        have zX : wr.heap.size ≤ wx.heap.size := DX.out.tl.sz
        have zB : Bs < w11.heap.size := Nat.lt_of_lt_of_le D11.out.tl.hi D11.out.tl.sz
        clear o11 b11 hS1 hS2 hS3 c0 c1 c2 c3 e0 e1 e2 ef
        obtain ⟨c0, c1, c2, c3⟩ := D11.out.tl.box
        have cf := D11.out.fz
        go_wp2
        go_roundw
        case rel => exact ⟨k + 1, by omega, by go_num, _, _, _, _, _, _, _, _, (D11.out.next hcl hcg O11.out zX SL.out.1 SL.out.2).widen⟩
        case measure => simp [intOf]; omega
      case inl =>
        go_wp2_with fail
        generalize w4.alloc (.cells #[.int .i64 K, .int .i64 P, .int .i64 V] 29) = w5 at *
        refine (l1Below_any W0 c len cap a0 _ _ D5.out.cu (by omega) (by omega)).mono ?_
        rintro e w6 ⟨x, rfl, -, hc6, hg6⟩
        have D6 : Hid (Ds w1 (w6.setCell ⟨w4.heap.size, 1, none⟩ (.int .i64 x)) wr.heap.size W0 c len cap a0 Bs p code ra rc oa oc rs os) := (D5.out.turn hcl hc6 hg6).set hcl hcg z4 _ _
        have h6 := E5.out.block (hg6.block _ E5.out.lt (by simp [dc]))
        have E6 : Hid (EvB (w6.setCell ⟨w4.heap.size, 1, none⟩ (.int .i64 x)) w4.heap.size K x V) := h6.set1 x
        clear e0 e1 e2 ef c0 c1 c2 c3 D5 E5 hc6 hg6
        obtain ⟨⟨e0, e1, e2⟩, ef⟩ := h6
        go_wp2_with fail
        clear e0 e1 e2 ef
        generalize w6.setCell ⟨w4.heap.size, 1, none⟩ (.int .i64 x) = w7 at *
        refine (l1Below_any W0 c len cap a0 _ _ D6.out.cu (by omega) (by omega)).mono ?_
        rintro e w8 ⟨y, rfl, -, hc8, hg8⟩
        have h8 := E6.out.block (hg8.block _ E6.out.lt (by simp [dc]))
        have d8 := D6.out.turn hcl hc8 hg8
        have DX : Hid (Ds w1 (w8.setCell ⟨w4.heap.size, 2, none⟩ (.int .i64 y)) wr.heap.size W0 c len cap a0 Bs p code ra rc oa oc rs os) := d8.set hcl hcg z4 _ _
        have EX : Hid (EvB (w8.setCell ⟨w4.heap.size, 2, none⟩ (.int .i64 y)) w4.heap.size K x y) := h8.set2 y
        clear D6 E6 hc8 hg8
        obtain ⟨⟨e0, e1, e2⟩, ef⟩ := h8
        obtain ⟨c0, c1, c2, c3⟩ := d8.tl.box
        clear d8
        go_wp2_with fail
        generalize w8.setCell ⟨w4.heap.size, 2, none⟩ (.int .i64 y) = wx at *
        refine (specDo_any gb 0 n _ g p code ra oa rc oc rs os K x y _ HL.out (DX.out.ins HI.out hg hgc).2 (DX.out.ins HI.out hg hgc).1 (by have := DX.out.lr; omega) DX.out.lo DX.out.tl.sl.1 DX.out.tl.sl.2).mono ?_
        rintro e w11 hd
        have hS1 := doS_rs g n p rs os code K x y
        have hS2 := (doS_len g n p rs os code K x y (by have := DX.out.lr; omega) DX.out.lo).2
        have hS3 := DX.out.lr
        generalize doS g n p rs os code K x y = S at hd hS1 hS2
        generalize doB g n p rs os code K x y = T at hd
        obtain ⟨v11, rfl, o11, b11⟩ := hd
        obtain ⟨ra11, rc11, oa11, oc11, rfl, -, -⟩ := o11.read
        have SL : Hid (S.rs.length = 4 ∧ S.os.length ≤ 1048576) := ⟨hS1.trans hS3, hS2⟩
        have D11 : Hid (Ds w1 w11 wr.heap.size W0 c len cap a0 Bs p code ra rc oa oc rs os) := DX.out.below b11
        have O11 : Hid (StOwn w11 wx.heap.size (stV S.p ra11 S.rs.length rc11 oa11 S.os.length oc11 S.c) S.p S.rs S.os S.c) := o11
        have zX : wr.heap.size ≤ wx.heap.size := DX.out.tl.sz
        have zB : Bs < w11.heap.size := Nat.lt_of_lt_of_le D11.out.tl.hi D11.out.tl.sz
        clear o11 b11 hS1 hS2 hS3 c0 c1 c2 c3 e0 e1 e2 ef
        obtain ⟨c0, c1, c2, c3⟩ := D11.out.tl.box
        have cf := D11.out.fz
        go_wp2
        go_roundw
        case rel => exact ⟨k + 1, by omega, by go_num, _, _, _, _, _, _, _, _, (D11.out.next hcl hcg O11.out zX SL.out.1 SL.out.2).widen⟩
        case measure => simp [intOf]; omega
    · have zr : w.heap.size < wr.heap.size := by have := DR.out.gr.size; omega
      have eR : wr.heap[w.heap.size]? = w1.heap[w.heap.size]? := DR.out.gr.block _ (by omega) (by simp; omega)
      obtain ⟨⟨r0, r1, r2, r3⟩, rf⟩ := HR1.out
      replace r0 := (World.cell?_of_block eR).trans r0
      replace r1 := (World.cell?_of_block eR).trans r1
      replace r2 := (World.cell?_of_block eR).trans r2
      replace r3 := (World.cell?_of_block eR).trans r3
      have rf' : ∀ j, wr.frozen? ⟨w.heap.size, j, none⟩ = false := fun j => (World.frozen?_of_block eR).trans (rf j)
      obtain ⟨c0, c1, c2, c3⟩ := DR.out.tl.box
      clear rf eR
      have dR : Bs ≠ w.heap.size := by have := DR.out.tl.lo; omega
      have dR' : w.heap.size ≠ Bs := fun e => dR e.symm
      go_wp2_with fail
      go_region
      go_wp2
      refine bodyPost_ret (v := .tuple #[.slice (some ⟨gb, 0, none⟩) n gc, stV p ra rs.length rc oa os.length oc code]) (by simp [results, Try.results62, go_sem, r0, r1, r2, r3]) rfl ⟨gb, n, gc, g, _, p, code, rs, os, w1.heap.size, rfl, hn, by omega, hg, ?_, ?_, DR.out.lr, DR.out.lo, ?_, ?_⟩
      · have hins := (DR.out.ins HI.out hg hgc).1
        have gz := grown4 wr w.heap.size (.int .i64 p) (.slice ra rs.length rc) (.slice oa os.length oc) (.int .i64 code)
        have hgw := (DR.out.ins HI.out hg hgc).2
        intro i hi
        obtain ⟨q0, q1, q2, q3, q4⟩ := hins i hi
        have eG := gz.block gb hgw (by simp; omega)
        exact ⟨(World.cell?_of_block eG).trans q0, (World.cell?_of_block eG).trans q1, (World.cell?_of_block eG).trans q2, (World.cell?_of_block eG).trans q3, (World.cell?_of_block eG).trans q4⟩
      · exact StOwn.put4 (B' := w1.heap.size) DR.out.tl.own (by omega) (Nat.le_refl _)
      · refine Cur.drew ?_
        exact (((DR.out.cu.setOther (p := ⟨w.heap.size, 0, none⟩) (by simp; omega) (by simp; omega) _).setOther (p := ⟨w.heap.size, 1, none⟩) (by simp; omega) (by simp; omega) _).setOther (p := ⟨w.heap.size, 2, none⟩) (by simp; omega) (by simp; omega) _).setOther (p := ⟨w.heap.size, 3, none⟩) (by simp; omega) (by simp; omega) _
      · refine grown_dr ?_
        repeat (refine grown_setCell ?_ (.inr (Nat.le_refl _)) _)
        exact HC1.out.2.trans DR.out.gr

end Go.Proofs.Ytmbmhpginegggaa

namespace Go.Proofs.Ytmbmhpginegggaa
open Go.RowKit

theorem InsAt.dr {w : World} {b off len : Nat} {g : Nat → I5} (h : InsAt w b off len g) : InsAt w.drew b off len g := h
theorem Sl.dr {w : World} {a0 : Option Addr} {xs : List Int} (h : Sl w a0 xs) : Sl w.drew a0 xs := h

/-- What is read of a list of ints is as it was where its block is. -/
theorem Sl.blk {w w' : World} {a0 : Option Addr} {xs : List Int} (h : Sl w a0 xs) (hs : w.heap.size ≤ w'.heap.size) (hb : ∀ a, a0 = some a → w'.heap[a.block]? = w.heap[a.block]?) : Sl w' a0 xs := by
  rcases h with h | ⟨b, off, rfl, hlt, hc⟩
  · exact .inl h
  · have e : w'.heap[b]? = w.heap[b]? := hb _ rfl
    exact .inr ⟨b, off, rfl, Nat.lt_of_lt_of_le hlt hs, fun i hi => (World.cell?_of_block e).trans (hc i hi)⟩
theorem InsAt.blk {w w' : World} {b off len : Nat} {g : Nat → I5} (h : InsAt w b off len g) (hb : w'.heap[b]? = w.heap[b]?) : InsAt w' b off len g := by
  intro i hi
  obtain ⟨c0, c1, c2, c3, c4⟩ := h i hi
  exact ⟨(World.cell?_of_block hb).trans c0, (World.cell?_of_block hb).trans c1, (World.cell?_of_block hb).trans c2, (World.cell?_of_block hb).trans c3, (World.cell?_of_block hb).trans c4⟩

theorem OwnI.shape {w : World} {B n cp : Nat} {a : Option Addr} {xs : List Int} (h : OwnI w B (.slice a n cp) xs) (hx : 0 < xs.length) : ∃ g, a = some ⟨g, 0, none⟩ ∧ xs.length ≤ cp ∧ B ≤ g ∧ g < w.heap.size := by
  rcases h.2 with ⟨_, h0⟩ | ⟨g, cap, cur, e, hb, hg, h1, h2, _⟩
  · omega
  · simp only [Value.slice.injEq] at e
    obtain ⟨rfl, -, rfl⟩ := e
    exact ⟨g, rfl, h1, hb, (h.lt g rfl).2⟩

theorem Sl.at0 {w : World} {b : Nat} {xs : List Int} (h : Sl w (some ⟨b, 0, none⟩) xs) {k : Nat} (hk : k < xs.length) : w.cell? ⟨b, k, none⟩ = some (.int .i64 (zi xs k)) ∧ b < w.heap.size := by
  obtain ⟨bq, oq, e, hlt, hc⟩ := h.at hk
  cases e
  rw [Nat.zero_add] at hc
  exact ⟨hc, hlt⟩
def pick4 (j : Nat) : Int := [(1000000000 : Int), -1000000000, 1000000001, 40000].getD j 0
theorem pick4_at (w : World) : IntsAt (w.alloc (.cells #[.int .i64 1000000000, .int .i64 (-1000000000), .int .i64 1000000001, .int .i64 40000] 3)) w.heap.size 4 pick4 := by
  intro j hj
  match j, hj with
  | 0, _ => simp [pick4]
  | 1, _ => simp [pick4]
  | 2, _ => simp [pick4]
  | 3, _ => simp [pick4]
theorem OwnI.cells4 {w : World} {B g cap : Nat} {r1 r2 r3 r4 : Int} (h : OwnI w B (.slice (some ⟨g, 0, none⟩) 4 cap) [r1, r2, r3, r4]) : w.cell? ⟨g, 0, none⟩ = some (.int .i64 r1) ∧ w.cell? ⟨g, 1, none⟩ = some (.int .i64 r2) ∧ w.cell? ⟨g, 2, none⟩ = some (.int .i64 r3) ∧ w.cell? ⟨g, 3, none⟩ = some (.int .i64 r4) :=
  ⟨OwnI.cell (xs := [r1, r2, r3, r4]) h (j := 0) (by simp), OwnI.cell (xs := [r1, r2, r3, r4]) h (j := 1) (by simp), OwnI.cell (xs := [r1, r2, r3, r4]) h (j := 2) (by simp), OwnI.cell (xs := [r1, r2, r3, r4]) h (j := 3) (by simp)⟩

/-- A program and a state that were drawn: the state in block Bs, the answer's own block R still empty. -/
structure Dq (w wr : World) (R gb n : Nat) (G : Nat → I5) (W0 c len cap : Nat) (a0 : Option Addr) (Bs : Nat) (p code : Int) (ra : Option Addr) (rc : Nat) (oa : Option Addr) (oc : Nat) (rs os : List Int) : Prop where
  ins : InsAt wr gb 0 n G
  g1 : gb < wr.heap.size
  g2 : gb ≠ c ∧ gb ≠ Bs ∧ gb ≠ R
  box : BoxC wr Bs (.int .i64 p) (.slice ra rs.length rc) (.slice oa os.length oc) (.int .i64 code)
  fz : ∀ j, wr.frozen? ⟨Bs, j, none⟩ = false
  rbox : BoxC wr R (.int .i64 0) (.slice none 0 0) (.slice none 0 0) (.int .i64 0)
  rfz : ∀ j, wr.frozen? ⟨R, j, none⟩ = false
  s1 : Sl wr ra rs
  s2 : Sl wr oa os
  n1 : ∀ a, ra = some a → a.block ≠ c ∧ a.block ≠ Bs ∧ a.block ≠ R
  n2 : ∀ a, oa = some a → a.block ≠ c ∧ a.block ≠ Bs ∧ a.block ≠ R
  lr : rs.length ≤ 1048576
  lo : os.length ≤ 1048576
  cu : Cur wr W0 c a0 len cap
  gr : w.grownBy wr (some c)
  hR : w.heap.size ≤ R ∧ w.heap.size ≤ Bs ∧ R ≠ Bs ∧ c < w.heap.size ∧ W0 ≤ c
  u1 : ∀ a, ra = some a → w.heap.size ≤ a.block
  u2 : ∀ a, oa = some a → w.heap.size ≤ a.block

theorem BoxC.blk {w w' : World} {N : Nat} {p vr vo code : Value} (h : BoxC w N p vr vo code) (hb : w'.heap[N]? = w.heap[N]?) : BoxC w' N p vr vo code := by
  obtain ⟨h0, h1, h2, h3⟩ := h
  exact ⟨(World.cell?_of_block hb).trans h0, (World.cell?_of_block hb).trans h1, (World.cell?_of_block hb).trans h2, (World.cell?_of_block hb).trans h3⟩
theorem BoxC.lt {w : World} {N : Nat} {p vr vo code : Value} (h : BoxC w N p vr vo code) : N < w.heap.size := World.block_lt_of_cell? w _ h.1

theorem Dq.turn {w wr w' : World} {R gb n : Nat} {G : Nat → I5} {W0 c len cap : Nat} {a0 : Option Addr} {Bs : Nat} {p code : Int} {ra : Option Addr} {rc : Nat} {oa : Option Addr} {oc : Nat} {rs os : List Int} (h : Dq w wr R gb n G W0 c len cap a0 Bs p code ra rc oa oc rs os) (hc : Cur w' W0 c a0 len cap) (hg : wr.grownBy w' (some c)) : Dq w w' R gb n G W0 c len cap a0 Bs p code ra rc oa oc rs os := by
  have hb : ∀ j, j < wr.heap.size → j ≠ c → w'.heap[j]? = wr.heap[j]? := fun j h1 h2 => hg.block j h1 (by simp; exact h2)
  obtain ⟨x1, x2, x3, x4, x5⟩ := h.hR
  have eB := hb Bs h.box.lt (by omega)
  have eR := hb R h.rbox.lt (by omega)
  refine ⟨h.ins.blk (hb gb h.g1 h.g2.1), Nat.lt_of_lt_of_le h.g1 hg.size, h.g2, h.box.blk eB, fun j => (World.frozen?_of_block eB).trans (h.fz j), h.rbox.blk eR, fun j => (World.frozen?_of_block eR).trans (h.rfz j), ?_, ?_, h.n1, h.n2, h.lr, h.lo, hc, h.gr.trans hg, h.hR, h.u1, h.u2⟩
  · rcases h.s1 with e | ⟨b, off, e, hlt, hcc⟩
    · exact .inl e
    · exact Sl.blk h.s1 hg.size (fun a ha => hb _ (by rw [e] at ha; cases ha; exact hlt) (h.n1 a ha).1)
  · rcases h.s2 with e | ⟨b, off, e, hlt, hcc⟩
    · exact .inl e
    · exact Sl.blk h.s2 hg.size (fun a ha => hb _ (by rw [e] at ha; cases ha; exact hlt) (h.n2 a ha).1)
theorem Dq.below {w wr w' : World} {R gb n : Nat} {G : Nat → I5} {W0 c len cap : Nat} {a0 : Option Addr} {Bs : Nat} {p code : Int} {ra : Option Addr} {rc : Nat} {oa : Option Addr} {oc : Nat} {rs os : List Int} (h : Dq w wr R gb n G W0 c len cap a0 Bs p code ra rc oa oc rs os) (hb : Below wr.heap.size wr w') : Dq w w' R gb n G W0 c len cap a0 Bs p code ra rc oa oc rs os :=
  h.turn (h.cu.kept (grown_of_below hb) (by simp) (fun k e => by cases e)) (grown_any (grown_of_below hb) _)

/-- A cell of the state's block is written. -/
theorem Dq.tag {w wr : World} {R gb n : Nat} {G : Nat → I5} {W0 c len cap : Nat} {a0 : Option Addr} {Bs : Nat} {p code : Int} {ra : Option Addr} {rc : Nat} {oa : Option Addr} {oc : Nat} {rs os : List Int} (h : Dq w wr R gb n G W0 c len cap a0 Bs p code ra rc oa oc rs os) (j : Nat) (v : Value)
    {p' code' : Int} {ra' : Option Addr} {rc' : Nat} {oa' : Option Addr} {oc' : Nat} {rs' os' : List Int} (hbox : BoxC (wr.setCell ⟨Bs, j, none⟩ v) Bs (.int .i64 p') (.slice ra' rs'.length rc') (.slice oa' os'.length oc') (.int .i64 code')) (h1 : Sl wr ra' rs') (h2 : Sl wr oa' os') (n1 : ∀ a, ra' = some a → a.block ≠ c ∧ a.block ≠ Bs ∧ a.block ≠ R) (n2 : ∀ a, oa' = some a → a.block ≠ c ∧ a.block ≠ Bs ∧ a.block ≠ R) (lr : rs'.length ≤ 1048576) (lo : os'.length ≤ 1048576) (u1 : ∀ a, ra' = some a → w.heap.size ≤ a.block) (u2 : ∀ a, oa' = some a → w.heap.size ≤ a.block) : Dq w (wr.setCell ⟨Bs, j, none⟩ v) R gb n G W0 c len cap a0 Bs p' code' ra' rc' oa' oc' rs' os' := by
  have gz : wr.grownBy (wr.setCell ⟨Bs, j, none⟩ v) (some Bs) := grown_setCell (p := ⟨Bs, j, none⟩) (World.grownBy.refl _ _) (.inl rfl) v
  have hb : ∀ k, k < wr.heap.size → k ≠ Bs → (wr.setCell ⟨Bs, j, none⟩ v).heap[k]? = wr.heap[k]? := fun k h1 h2 => gz.block k h1 (by simp; exact h2)
  obtain ⟨x1, x2, x3, x4, x5⟩ := h.hR
  have eR := hb R h.rbox.lt x3
  refine ⟨h.ins.blk (hb gb h.g1 h.g2.2.1), Nat.lt_of_lt_of_le h.g1 gz.size, h.g2, hbox, fun i => by rw [World.frozen?_setCell]; exact h.fz i, h.rbox.blk eR, fun i => by rw [World.frozen?_setCell]; exact h.rfz i, ?_, ?_, n1, n2, lr, lo, h.cu.setOther (p := ⟨Bs, j, none⟩) (by simp; omega) (by simp; omega) v, grown_setCell (p := ⟨Bs, j, none⟩) h.gr (.inr x2) v, h.hR, u1, u2⟩
  · rcases h1 with e | ⟨b, off, e, hlt, hcc⟩
    · exact .inl e
    · exact Sl.blk (.inr ⟨b, off, e, hlt, hcc⟩) gz.size (fun a ha => hb _ (by rw [e] at ha; cases ha; exact hlt) (n1 a ha).2.1)
  · rcases h2 with e | ⟨b, off, e, hlt, hcc⟩
    · exact .inl e
    · exact Sl.blk (.inr ⟨b, off, e, hlt, hcc⟩) gz.size (fun a ha => hb _ (by rw [e] at ha; cases ha; exact hlt) (n2 a ha).2.1)

/-- A register of the state is written. -/
theorem Dq.reg {w wr : World} {R gb n : Nat} {G : Nat → I5} {W0 c len cap : Nat} {a0 : Option Addr} {Bs : Nat} {p code : Int} {bx : Nat} {rc : Nat} {oa : Option Addr} {oc : Nat} {rs os : List Int} (h : Dq w wr R gb n G W0 c len cap a0 Bs p code (some ⟨bx, 0, none⟩) rc oa oc rs os) {j : Nat} (hj : j < rs.length) (x : Int) (hw : w.heap.size ≤ bx) (hgb : gb ≠ bx) (hob : ∀ a, oa = some a → a.block ≠ bx) : Dq w (wr.setCell ⟨bx, j, none⟩ (.int .i64 x)) R gb n G W0 c len cap a0 Bs p code (some ⟨bx, 0, none⟩) rc oa oc (rs.set j x) os := by
  have gz : wr.grownBy (wr.setCell ⟨bx, j, none⟩ (.int .i64 x)) (some bx) := grown_setCell (p := ⟨bx, j, none⟩) (World.grownBy.refl _ _) (.inl rfl) _
  have hb : ∀ k, k < wr.heap.size → k ≠ bx → (wr.setCell ⟨bx, j, none⟩ (.int .i64 x)).heap[k]? = wr.heap[k]? := fun k h1 h2 => gz.block k h1 (by simp; exact h2)
  obtain ⟨x1, x2, x3, x4, x5⟩ := h.hR
  obtain ⟨m1, m2, m3⟩ := h.n1 _ rfl
  have eR := hb R h.rbox.lt (fun e => m3 e.symm)
  have eB := hb Bs h.box.lt (fun e => m2 e.symm)
  refine ⟨h.ins.blk (hb gb h.g1 hgb), Nat.lt_of_lt_of_le h.g1 gz.size, h.g2, ?_, fun i => by rw [World.frozen?_setCell]; exact h.fz i, h.rbox.blk eR, fun i => by rw [World.frozen?_setCell]; exact h.rfz i, ?_, ?_, h.n1, h.n2, by rw [List.length_set]; exact h.lr, h.lo, h.cu.setOther (p := ⟨bx, j, none⟩) m1 (by simp; omega) _, grown_setCell (p := ⟨bx, j, none⟩) h.gr (.inr hw) _, h.hR, h.u1, h.u2⟩
  · rw [List.length_set]
    exact h.box.blk eB
  · obtain ⟨b', o', e, hlt, hcc⟩ := h.s1.at hj
    cases e
    refine .inr ⟨bx, 0, rfl, Nat.lt_of_lt_of_le hlt gz.size, fun i hi => ?_⟩
    rw [List.length_set] at hi
    obtain ⟨b', o', e, -, hci⟩ := h.s1.at hi
    cases e
    rw [Nat.zero_add] at hci hcc ⊢
    by_cases hij : i = j
    · subst hij
      rw [getD_set_self _ _ _ hi]
      go_cell
    · rw [getD_set_ne _ _ _ _ hij]
      have hne : (⟨bx, j, none⟩ : Addr) ≠ ⟨bx, i, none⟩ := fun e => by
        simp only [Addr.mk.injEq, and_true, true_and] at e
        exact hij e.symm
      go_cell
  · rcases h.s2 with e | ⟨b, off, e, hlt, hcc⟩
    · exact .inl e
    · exact Sl.blk h.s2 gz.size (fun a ha => hb _ (by rw [e] at ha; cases ha; exact hlt) (hob a ha))

/-- What the draw leaves, once its answer is stored. -/
def DrawnR (w : World) (gb n : Nat) (G : Nat → I5) (W0 c len cap : Nat) (a0 : Option Addr) (ra : Option Addr) (oa : Option Addr) (rs os : List Int) (w' : World) : Prop :=
  gb < w'.heap.size ∧ InsAt w' gb 0 n G ∧ Sl w' ra rs ∧ Sl w' oa os ∧ rs.length ≤ 1048576 ∧ os.length ≤ 1048576 ∧ Cur w' W0 c a0 len cap ∧ w.grownBy w' (some c) ∧ (∀ a, ra = some a → w.heap.size ≤ a.block) ∧ (∀ a, oa = some a → w.heap.size ≤ a.block)
theorem DrawnR.dr {w : World} {gb n : Nat} {G : Nat → I5} {W0 c len cap : Nat} {a0 : Option Addr} {ra : Option Addr} {oa : Option Addr} {rs os : List Int} {w' : World} (h : DrawnR w gb n G W0 c len cap a0 ra oa rs os w') : DrawnR w gb n G W0 c len cap a0 ra oa rs os w'.drew :=
  ⟨h.1, h.2.1.dr, h.2.2.1.dr, h.2.2.2.1.dr, h.2.2.2.2.1, h.2.2.2.2.2.1, h.2.2.2.2.2.2.1.drew, grown_dr h.2.2.2.2.2.2.2.1, h.2.2.2.2.2.2.2.2⟩
theorem Dq.done {w wr : World} {R gb n : Nat} {G : Nat → I5} {W0 c len cap : Nat} {a0 : Option Addr} {Bs : Nat} {p code : Int} {ra : Option Addr} {rc : Nat} {oa : Option Addr} {oc : Nat} {rs os : List Int} (h : Dq w wr R gb n G W0 c len cap a0 Bs p code ra rc oa oc rs os) (a b d e : Value) : DrawnR w gb n G W0 c len cap a0 ra oa rs os ((((wr.setCell ⟨R, 0, none⟩ a).setCell ⟨R, 1, none⟩ b).setCell ⟨R, 2, none⟩ d).setCell ⟨R, 3, none⟩ e) := by
  have gz := grown4 wr R a b d e
  have hb : ∀ k, k < wr.heap.size → k ≠ R → ((((wr.setCell ⟨R, 0, none⟩ a).setCell ⟨R, 1, none⟩ b).setCell ⟨R, 2, none⟩ d).setCell ⟨R, 3, none⟩ e).heap[k]? = wr.heap[k]? := fun k h1 h2 => gz.block k h1 (by simp; exact h2)
  obtain ⟨x1, x2, x3, x4, x5⟩ := h.hR
  refine ⟨Nat.lt_of_lt_of_le h.g1 gz.size, h.ins.blk (hb gb h.g1 h.g2.2.2), ?_, ?_, h.lr, h.lo, ?_, ?_, h.u1, h.u2⟩
  · rcases h.s1 with e | ⟨b, off, e, hlt, hcc⟩
    · exact .inl e
    · exact Sl.blk h.s1 gz.size (fun a ha => hb _ (by rw [e] at ha; cases ha; exact hlt) (h.n1 a ha).2.2)
  · rcases h.s2 with e | ⟨b, off, e, hlt, hcc⟩
    · exact .inl e
    · exact Sl.blk h.s2 gz.size (fun a ha => hb _ (by rw [e] at ha; cases ha; exact hlt) (h.n2 a ha).2.2)
  · exact (((h.cu.setOther (p := ⟨R, 0, none⟩) (by simp; omega) (by simp; omega) _).setOther (p := ⟨R, 1, none⟩) (by simp; omega) (by simp; omega) _).setOther (p := ⟨R, 2, none⟩) (by simp; omega) (by simp; omega) _).setOther (p := ⟨R, 3, none⟩) (by simp; omega) (by simp; omega) _
  · repeat (refine grown_setCell ?_ (.inr x1) _)
    exact h.gr

end Go.Proofs.Ytmbmhpginegggaa

namespace Go.Proofs.Ytmbmhpginegggaa
open Go.RowKit Go.Sort

set_option maxRecDepth 100000 in
set_option maxHeartbeats 8000000 in
theorem l2Draw_any (W0 c len cap : Nat) (a0 : Option Addr) (w : World) (hc : Cur w W0 c a0 len cap) :
    Calls Try.prog 35 #[.pointer (some ⟨c, 0, none⟩)] w fun e w' => ∃ (gb n gc : Nat) (G : Nat → I5) (p code : Int) (ra : Option Addr) (rc : Nat) (oa : Option Addr) (oc : Nat) (rs os : List Int), e = .returned (.tuple #[.slice (some ⟨gb, 0, none⟩) n gc, stV p ra rs.length rc oa os.length oc code]) ∧ n ≤ 31 ∧ w.heap.size ≤ gb ∧ gb < w'.heap.size ∧ InsAt w' gb 0 n G ∧ Sl w' ra rs ∧ Sl w' oa os ∧ rs.length ≤ 1048576 ∧ os.length ≤ 1048576 ∧ Cur w' W0 c a0 len cap ∧ w.grownBy w' (some c) ∧ (∀ a, ra = some a → w.heap.size ≤ a.block) ∧ (∀ a, oa = some a → w.heap.size ≤ a.block) := by
  have HC0 : Hid (Cur w W0 c a0 len cap) := hc
  have hcl0 := hc.lt
  have hcg := hc.ge
  clear hc
  go_enter Try.func35, Try.ntmps35
  go_wp2_with fail
  have bR := below_alloc w (.cells #[.int .i64 0, .slice none 0 0, .slice none 0 0, .int .i64 0] 27)
  have HR0 : Hid (BoxC (w.alloc (.cells #[.int .i64 0, .slice none 0 0, .slice none 0 0, .int .i64 0] 27)) w.heap.size (.int .i64 0) (.slice none 0 0) (.slice none 0 0) (.int .i64 0) ∧ ∀ j, (w.alloc (.cells #[.int .i64 0, .slice none 0 0, .slice none 0 0, .int .i64 0] 27)).frozen? ⟨w.heap.size, j, none⟩ = false) := ⟨BoxC.new w _ _ _ _ _, fun j => new_frozen _ _ _ j rfl⟩
  have HG0 : Hid (w.grownBy (w.alloc (.cells #[.int .i64 0, .slice none 0 0, .slice none 0 0, .int .i64 0] 27)) (some c)) := grown_any (grown_of_below bR) _
  have hz0 : (w.alloc (.cells #[.int .i64 0, .slice none 0 0, .slice none 0 0, .int .i64 0] 27)).heap.size = w.heap.size + 1 := by simp
  refine (l2DrawBoth_any W0 c len cap a0 _ (HC0.out.alloc _)).mono ?_
  rintro e w1 ⟨gb, n, gc, G, v1, p, code, rs, os, B, rfl, hn, hg0, hgB, hI, o1, hr, ho, hc1, hg1⟩
  obtain ⟨r1, r2, r3, r4, rfl⟩ : ∃ r1 r2 r3 r4, rs = [r1, r2, r3, r4] := by
    match rs, hr with
    | [r1, r2, r3, r4], _ => exact ⟨r1, r2, r3, r4, rfl⟩
  obtain ⟨ra1, rc1, oa1, oc1, rfl, s1, s2⟩ := o1.read
  simp only [List.length_cons, List.length_nil, Nat.zero_add, Nat.reduceAdd] at o1
  rw [hz0] at hg0
  obtain ⟨q1, q2, qa⟩ := o1.parts
  have zB : B ≤ w1.heap.size ∧ gb < w1.heap.size := by
    obtain ⟨bx, ox, e1, hlt, -⟩ := s1.at (k := 0) (by simp)
    rw [e1] at q1
    have := q1.lt bx rfl
    exact ⟨by omega, by omega⟩
  obtain ⟨bx, rfl, hrc, hbx, hbx'⟩ := q1.shape (by simp)
  simp only [List.length_cons, List.length_nil, Nat.zero_add, Nat.reduceAdd] at hrc
  have m1 : ∀ a, some (⟨bx, 0, none⟩ : Addr) = some a → B ≤ a.block ∧ a.block < w1.heap.size := fun a ha => by cases ha; exact ⟨hbx, hbx'⟩
  have m2 : ∀ a, oa1 = some a → B ≤ a.block ∧ a.block < w1.heap.size := fun a ha => by rw [ha] at q2; exact q2.lt a.block rfl
  have MA : Hid (∀ a b, some (⟨bx, 0, none⟩ : Addr) = some a → oa1 = some b → a.block ≠ b.block) := fun a b ha hb e => by
    have h5 := qa a.block (by cases ha; rfl)
    rw [hb] at h5
    exact h5 (by rw [e]; rfl)
  have Q1 : Hid (OwnI w1 B (.slice (some ⟨bx, 0, none⟩) 4 rc1) [r1, r2, r3, r4]) := q1
  have hgs := hg1.size
  rw [hz0] at hgs
  have eR : w1.heap[w.heap.size]? = (w.alloc (.cells #[.int .i64 0, .slice none 0 0, .slice none 0 0, .int .i64 0] 27)).heap[w.heap.size]? := hg1.block _ (by omega) (by simp; omega)
  have b1 := below_alloc w1 (.cells #[.int .i64 p, .slice (some ⟨bx, 0, none⟩) 4 rc1, .slice oa1 os.length oc1, .int .i64 code] 27)
  have D1 : Hid (Dq w (w1.alloc (.cells #[.int .i64 p, .slice (some ⟨bx, 0, none⟩) 4 rc1, .slice oa1 os.length oc1, .int .i64 code] 27)) w.heap.size gb n G W0 c len cap a0 w1.heap.size p code (some ⟨bx, 0, none⟩) rc1 oa1 oc1 [r1, r2, r3, r4] os) := by
    refine ⟨hI.below b1 zB.2, Nat.lt_of_lt_of_le zB.2 b1.size, ⟨by omega, by omega, by omega⟩, BoxC.new w1 _ _ _ _ _, fun j => new_frozen _ _ _ j rfl, ((HR0.out.1.blk eR).below b1), fun j => ?_, s1.below b1, s2.below b1, fun a ha => ?_, fun a ha => ?_, by simp, ho, hc1.alloc _, HG0.out.trans (hg1.trans (grown_any (grown_of_below b1) _)), ⟨by omega, by omega, by omega, hcl0, hcg⟩, fun a ha => by have := m1 a ha; omega, fun a ha => by have := m2 a ha; omega⟩
    · rw [World.frozen?_of_block (b1.block w.heap.size (by omega)), World.frozen?_of_block eR]
      exact HR0.out.2 j
    · have := m1 a ha
      exact ⟨by omega, by omega, by omega⟩
    · have := m2 a ha
      exact ⟨by omega, by omega, by omega⟩
  have O1 : Hid (OwnI (w1.alloc (.cells #[.int .i64 p, .slice (some ⟨bx, 0, none⟩) 4 rc1, .slice oa1 os.length oc1, .int .i64 code] 27)) B (.slice (some ⟨bx, 0, none⟩) 4 rc1) [r1, r2, r3, r4]) := Q1.out.below b1
  clear hI o1 q1 q2 qa s1 s2 hc1 hg1 eR b1 bR HR0 HG0 hz0 Q1 hr
  go_wp2_with fail
  generalize w1.alloc (.cells #[.int .i64 p, .slice (some ⟨bx, 0, none⟩) 4 rc1, .slice oa1 os.length oc1, .int .i64 code] 27) = w2 at *
  generalize w1.heap.size = Bs at *
  refine (l1Below_any W0 c len cap a0 _ _ D1.out.cu (by omega) (by omega)).mono ?_
  rintro e w3 ⟨x, rfl, ⟨x0, x1⟩, hc3, hg3⟩
  have D3 : Hid (Dq w w3 w.heap.size gb n G W0 c len cap a0 Bs p code (some ⟨bx, 0, none⟩) rc1 oa1 oc1 [r1, r2, r3, r4] os) := D1.out.turn hc3 hg3
  have O3 : Hid (OwnI w3 B (.slice (some ⟨bx, 0, none⟩) 4 rc1) [r1, r2, r3, r4]) := O1.out.kept hg3 (by cases h5 : (Value.slice (some ⟨bx, 0, none⟩) 4 rc1).ownBlock with
    | none => exact .inl rfl
    | some j => exact .inr (fun e => by
        cases e
        simp only [Value.ownBlock, Option.some.injEq] at h5
        omega))
  clear D1 O1 hc3 hg3
  have tailP : w.heap.size ≤ gb := by omega
  obtain ⟨c0, c1, c2, c3⟩ := D3.out.box
  have cf := D3.out.fz
  by_cases h0 : x = 0
  · subst h0
    go_wp2_with fail
    refine (l1Below_any W0 c len cap a0 _ _ D3.out.cu (by omega) (by omega)).mono ?_
    rintro e w4 ⟨y, rfl, ⟨y0, y1⟩, hc4, hg4⟩
    have d4 := D3.out.turn hc4 hg4
    have DF : Hid (Dq w (w4.setCell ⟨Bs, 0, none⟩ (.int .i64 (y - 1))) w.heap.size gb n G W0 c len cap a0 Bs (y - 1) code (some ⟨bx, 0, none⟩) rc1 oa1 oc1 [r1, r2, r3, r4] os) := d4.tag 0 _ (by
      obtain ⟨c0, c1, c2, c3⟩ := d4.box
      exact ⟨by go_cell, by go_cell, by go_cell, by go_cell⟩) d4.s1 d4.s2 d4.n1 d4.n2 d4.lr d4.lo d4.u1 d4.u2
    clear c0 c1 c2 c3 cf hc4 hg4 D3 O3
    obtain ⟨c0, c1, c2, c3⟩ := d4.box
    have cf := d4.fz
    clear d4
    go_wp2_with fail
    clear c0 c1 c2 c3 cf
    generalize w4.setCell ⟨Bs, 0, none⟩ (.int .i64 (y - 1)) = wz at *
    obtain ⟨k0, k1, k2, k3⟩ := DF.out.box
    (try simp only [List.length_replicate] at k2)
    obtain ⟨b0, b1, b2, b3⟩ := DF.out.rbox
    have bf := DF.out.rfz
    have zR : w.heap.size < wz.heap.size := DF.out.rbox.lt
    have dR : Bs ≠ w.heap.size := DF.out.hR.2.2.1.symm
    have dR' : w.heap.size ≠ Bs := DF.out.hR.2.2.1
    go_region
    go_wp2
    exact bodyPost_ret (v := .tuple #[.slice (some ⟨gb, 0, none⟩) n gc, stV (y - 1) (some ⟨bx, 0, none⟩) 4 rc1 oa1 os.length oc1 code]) (by simp [results, Try.results35, go_sem, b0, b1, b2, b3]) rfl ⟨gb, n, gc, G, (y - 1), code, (some ⟨bx, 0, none⟩), rc1, oa1, oc1, [r1, r2, r3, r4], os, rfl, hn, tailP, (DF.out.done _ _ _ _).dr⟩
  by_cases h1 : x = 1
  · subst h1
    go_wp2_with fail
    have P4 : Hid (∀ w : World, IntsAt (w.alloc (.cells #[.int .i64 1000000000, .int .i64 (-1000000000), .int .i64 1000000001, .int .i64 40000] 3)) w.heap.size 4 pick4) := pick4_at
    obtain ⟨f0, f1, f2, f3⟩ := O3.out.cells4
    have ff := O3.out.frozen
    have zx3 : bx < w3.heap.size := (O3.out.lt bx rfl).2
    have zb3 : Bs < w3.heap.size := D3.out.box.lt
    have nx : bx ≠ c := (D3.out.n1 _ rfl).1
    have nxB : bx ≠ Bs := (D3.out.n1 _ rfl).2.1
    have nxB' : Bs ≠ bx := fun e => nxB e.symm
    have z3 : w3.heap.size ≠ c := by have := D3.out.cu.lt; omega
    have dB3 : w3.heap.size ≠ Bs := by omega
    have dx3 : w3.heap.size ≠ bx := by omega
    go_region_held3 (fun w' => w'.cell? ⟨Bs, 1, none⟩ = some (.slice (some ⟨bx, 0, none⟩) 4 rc1)) (go_keep)
      (first
        | (go_at_call 36; refine (l1Below_any W0 c len cap a0 _ _ (D3.out.below (by go_grown)).cu (by omega) (by omega)).mono ?_; rintro e w5 ⟨j', rfl, ⟨j0, j1⟩, hc5, hg5⟩; have D5 : Hid (Dq w w5 w.heap.size gb n G W0 c len cap a0 Bs p code (some ⟨bx, 0, none⟩) rc1 oa1 oc1 [r1, r2, r3, r4] os) := (D3.out.below (by go_grown)).turn hc5 hg5; have e5 : w5.heap[bx]? = w3.heap[bx]? := (hg5.block bx (by first | exact zx3 | (simp; omega)) (by simp [nx])).trans (Below.block (w := w3) (B := w3.heap.size) (by go_grown) bx zx3); have E5 : Hid (w5.heap[bx]? = w3.heap[bx]?) := e5; obtain ⟨m0, m1', m2', m3'⟩ := D5.out.box; have p5 := hg5.block w3.heap.size; have z5 := hg5.size; (try simp only [World.size_alloc, World.size_drew, Nat.add_one_le_iff] at z5); have zb5 : Bs < w5.heap.size := D5.out.box.lt; have dB5 : w5.heap.size ≠ Bs := (by omega); have dx5 : w5.heap.size ≠ bx := (by omega); have nc5 : w5.heap.size ≠ c := (by have := D5.out.cu.lt; omega); obtain ⟨j, rfl⟩ : ∃ j : Nat, j' = j := ⟨j'.toNat, by omega⟩; clear hc5 hg5 e5 j0)
        | (go_at_call 37; refine (l1PickInt_any W0 c len cap _ 4 4 a0 pick4 _ (D5.out.below (by go_grown)).cu (by omega) (by omega) (by first | (simp; done) | exact z5 | omega) (by first | (with_reducible exact nc5) | (with_reducible exact z3)) (by first | (with_reducible exact P4.out w5) | exact (fun i hi => (World.cell?_of_block (p5 (by simp) (by simp [z3]))).trans (P4.out w3 i hi)))).mono ?_; rintro e w6 ⟨x6, rfl, hc6, hg6⟩; have D6 : Hid (Dq w w6 w.heap.size gb n G W0 c len cap a0 Bs p code (some ⟨bx, 0, none⟩) rc1 oa1 oc1 [r1, r2, r3, r4] os) := (D5.out.below (by go_grown)).turn hc6 hg6; have e6 : w6.heap[bx]? = w3.heap[bx]? := (hg6.block bx (by have := z5; first | omega | (simp; omega)) (by simp [nx])).trans ((Below.block (w := w5) (B := w5.heap.size) (by go_grown) bx (by omega)).trans E5.out); obtain ⟨yj, hyj⟩ := D6.out.s1.at0 (k := j) (by simp; omega); have yf := (fun i => (World.frozen?_of_block e6).trans (ff i)); obtain ⟨n0, n1', n2', n3'⟩ := D6.out.box; clear hc6 hg6 e6))
    all_goals
      have DF : Hid (Dq w (w6.setCell ⟨bx, j, none⟩ (.int .i64 x6)) w.heap.size gb n G W0 c len cap a0 Bs p code (some ⟨bx, 0, none⟩) rc1 oa1 oc1 ([r1, r2, r3, r4].set j x6) os) := D6.out.reg (by simp; omega) x6 (by omega) (by omega) (fun a ha e => MA.out ⟨bx, 0, none⟩ a rfl ha (by simp; exact e.symm))
      go_wp2_with fail
      generalize w6.setCell ⟨bx, j, none⟩ (.int .i64 x6) = wz at *
      obtain ⟨k0, k1, k2, k3⟩ := DF.out.box
      rw [List.length_set, show [r1, r2, r3, r4].length = 4 from rfl] at k1
      obtain ⟨b0, b1, b2, b3⟩ := DF.out.rbox
      have bf := DF.out.rfz
      have zR : w.heap.size < wz.heap.size := DF.out.rbox.lt
      have dR : Bs ≠ w.heap.size := DF.out.hR.2.2.1.symm
      have dR' : w.heap.size ≠ Bs := DF.out.hR.2.2.1
      go_region
      go_wp2
      exact bodyPost_ret (v := .tuple #[.slice (some ⟨gb, 0, none⟩) n gc, stV p (some ⟨bx, 0, none⟩) 4 rc1 oa1 os.length oc1 code]) (by simp [results, Try.results35, go_sem, b0, b1, b2, b3]) rfl ⟨gb, n, gc, G, p, code, some ⟨bx, 0, none⟩, rc1, oa1, oc1, [r1, r2, r3, r4].set j x6, os, by rw [List.length_set]; rfl, hn, tailP, (DF.out.done _ _ _ _).dr⟩
  by_cases h2 : x = 2
  · subst h2
    go_wp2_with fail
    refine (l1Below_any W0 c len cap a0 _ _ D3.out.cu (by omega) (by omega)).mono ?_
    rintro e w4 ⟨y, rfl, ⟨y0, y1⟩, hc4, hg4⟩
    have d4 := D3.out.turn hc4 hg4
    have DF : Hid (Dq w (w4.setCell ⟨Bs, 3, none⟩ (.int .i64 y)) w.heap.size gb n G W0 c len cap a0 Bs p y (some ⟨bx, 0, none⟩) rc1 oa1 oc1 [r1, r2, r3, r4] os) := d4.tag 3 _ (by
      obtain ⟨c0, c1, c2, c3⟩ := d4.box
      exact ⟨by go_cell, by go_cell, by go_cell, by go_cell⟩) d4.s1 d4.s2 d4.n1 d4.n2 d4.lr d4.lo d4.u1 d4.u2
    clear c0 c1 c2 c3 cf hc4 hg4 D3 O3
    obtain ⟨c0, c1, c2, c3⟩ := d4.box
    have cf := d4.fz
    clear d4
    go_wp2_with fail
    clear c0 c1 c2 c3 cf
    generalize w4.setCell ⟨Bs, 3, none⟩ (.int .i64 y) = wz at *
    obtain ⟨k0, k1, k2, k3⟩ := DF.out.box
    (try simp only [List.length_replicate] at k2)
    obtain ⟨b0, b1, b2, b3⟩ := DF.out.rbox
    have bf := DF.out.rfz
    have zR : w.heap.size < wz.heap.size := DF.out.rbox.lt
    have dR : Bs ≠ w.heap.size := DF.out.hR.2.2.1.symm
    have dR' : w.heap.size ≠ Bs := DF.out.hR.2.2.1
    go_region
    go_wp2
    exact bodyPost_ret (v := .tuple #[.slice (some ⟨gb, 0, none⟩) n gc, stV p (some ⟨bx, 0, none⟩) 4 rc1 oa1 os.length oc1 y]) (by simp [results, Try.results35, go_sem, b0, b1, b2, b3]) rfl ⟨gb, n, gc, G, p, y, (some ⟨bx, 0, none⟩), rc1, oa1, oc1, [r1, r2, r3, r4], os, rfl, hn, tailP, (DF.out.done _ _ _ _).dr⟩
  by_cases h3 : x = 3
  · subst h3
    go_wp2_with fail
    refine (l1Below_any W0 c len cap a0 _ _ D3.out.cu (by omega) (by omega)).mono ?_
    rintro e w4 ⟨y, rfl, ⟨y0, y1⟩, hc4, hg4⟩
    have d4 := D3.out.turn hc4 hg4
    have hy : y = 0 ∨ y = 1 := by omega
    clear y0 y1 c0 c1 c2 c3 cf hc4 hg4 D3 O3
    obtain ⟨c0, c1, c2, c3⟩ := d4.box
    have cf := d4.fz
    have zB : Bs < w4.heap.size := d4.box.lt
    have dB : Bs ≠ w4.heap.size := by omega
    have dB' : w4.heap.size ≠ Bs := by omega
    have D4 : Hid (Dq w w4 w.heap.size gb n G W0 c len cap a0 Bs p code (some ⟨bx, 0, none⟩) rc1 oa1 oc1 [r1, r2, r3, r4] os) := d4
    clear d4
    rcases hy with rfl | rfl
    · have hmk : ∀ w : World, (Instr.makeSlice 25 (.int .i64 60) (.int .i64 60)).run Try.prog w = .ok (.slice (some ⟨w.heap.size, 0, none⟩) 60 60) (w.alloc (.cells (madeCells #[.int .i64 0] 60) 3)) := fun w => run_make_int 60 (by omega) w
      have bM := below_alloc w4 (.cells (madeCells #[.int .i64 0] 60) 3)
      have d5 := D4.out.below bM
      have sM := (made_own w4 60 (by omega)).slOf
      have eb := (bcell bM).1
      have ef := (bcell bM).2
      have DF : Hid (Dq w ((w4.alloc (.cells (madeCells #[.int .i64 0] 60) 3)).setCell ⟨Bs, 2, none⟩ (.slice (some ⟨w4.heap.size, 0, none⟩) 60 60)) w.heap.size gb n G W0 c len cap a0 Bs p code (some ⟨bx, 0, none⟩) rc1 (some ⟨w4.heap.size, 0, none⟩) 60 [r1, r2, r3, r4] (List.replicate 60 0)) := d5.tag 2 _ (by
        obtain ⟨c0, c1, c2, c3⟩ := d5.box
        rw [List.length_replicate]
        exact ⟨by go_cell, by go_cell, by go_cell, by go_cell⟩) d5.s1 sM d5.n1 (fun a ha => by
          simp only [Option.some.injEq] at ha
          subst ha
          have q1 := D4.out.cu.lt
          have q2 := D4.out.rbox.lt
          exact ⟨by simp; omega, by simp; omega, by simp; omega⟩) d5.lr (by simp) d5.u1 (fun a ha => by
          simp only [Option.some.injEq] at ha
          subst ha
          have q2 := D4.out.rbox.lt
          have q3 := D4.out.hR.1
          simp
          omega)
      rw [World.setCell_alloc_past _ _ _ _ zB] at DF
      obtain ⟨k0, k1, k2, k3⟩ := d5.box
      have kf := d5.fz
      clear d5 sM bM
      go_wp2_with fail
      clear c0 c1 c2 c3 cf hmk eb ef D4 k0 k1 k2 k3 kf
      generalize (w4.setCell ⟨Bs, 2, none⟩ (.slice (some ⟨w4.heap.size, 0, none⟩) 60 60)).alloc (.cells (madeCells #[.int .i64 0] 60) 3) = wz at *
      obtain ⟨k0, k1, k2, k3⟩ := DF.out.box
      (try simp only [List.length_replicate] at k2)
      obtain ⟨b0, b1, b2, b3⟩ := DF.out.rbox
      have bf := DF.out.rfz
      have zR : w.heap.size < wz.heap.size := DF.out.rbox.lt
      have dR : Bs ≠ w.heap.size := DF.out.hR.2.2.1.symm
      have dR' : w.heap.size ≠ Bs := DF.out.hR.2.2.1
      go_region
      go_wp2
      exact bodyPost_ret (v := .tuple #[.slice (some ⟨gb, 0, none⟩) n gc, stV p (some ⟨bx, 0, none⟩) 4 rc1 (some ⟨w4.heap.size, 0, none⟩) 60 60 code]) (by simp [results, Try.results35, go_sem, b0, b1, b2, b3]) rfl ⟨gb, n, gc, G, p, code, (some ⟨bx, 0, none⟩), rc1, (some ⟨w4.heap.size, 0, none⟩), 60, [r1, r2, r3, r4], (List.replicate 60 0), rfl, hn, tailP, (DF.out.done _ _ _ _).dr⟩
    · have hmk : ∀ w : World, (Instr.makeSlice 25 (.int .i64 61) (.int .i64 61)).run Try.prog w = .ok (.slice (some ⟨w.heap.size, 0, none⟩) 61 61) (w.alloc (.cells (madeCells #[.int .i64 0] 61) 3)) := fun w => run_make_int 61 (by omega) w
      have bM := below_alloc w4 (.cells (madeCells #[.int .i64 0] 61) 3)
      have d5 := D4.out.below bM
      have sM := (made_own w4 61 (by omega)).slOf
      have eb := (bcell bM).1
      have ef := (bcell bM).2
      have DF : Hid (Dq w ((w4.alloc (.cells (madeCells #[.int .i64 0] 61) 3)).setCell ⟨Bs, 2, none⟩ (.slice (some ⟨w4.heap.size, 0, none⟩) 61 61)) w.heap.size gb n G W0 c len cap a0 Bs p code (some ⟨bx, 0, none⟩) rc1 (some ⟨w4.heap.size, 0, none⟩) 61 [r1, r2, r3, r4] (List.replicate 61 0)) := d5.tag 2 _ (by
        obtain ⟨c0, c1, c2, c3⟩ := d5.box
        rw [List.length_replicate]
        exact ⟨by go_cell, by go_cell, by go_cell, by go_cell⟩) d5.s1 sM d5.n1 (fun a ha => by
          simp only [Option.some.injEq] at ha
          subst ha
          have q1 := D4.out.cu.lt
          have q2 := D4.out.rbox.lt
          exact ⟨by simp; omega, by simp; omega, by simp; omega⟩) d5.lr (by simp) d5.u1 (fun a ha => by
          simp only [Option.some.injEq] at ha
          subst ha
          have q2 := D4.out.rbox.lt
          have q3 := D4.out.hR.1
          simp
          omega)
      rw [World.setCell_alloc_past _ _ _ _ zB] at DF
      obtain ⟨k0, k1, k2, k3⟩ := d5.box
      have kf := d5.fz
      clear d5 sM bM
      go_wp2_with fail
      clear c0 c1 c2 c3 cf hmk eb ef D4 k0 k1 k2 k3 kf
      generalize (w4.setCell ⟨Bs, 2, none⟩ (.slice (some ⟨w4.heap.size, 0, none⟩) 61 61)).alloc (.cells (madeCells #[.int .i64 0] 61) 3) = wz at *
      obtain ⟨k0, k1, k2, k3⟩ := DF.out.box
      (try simp only [List.length_replicate] at k2)
      obtain ⟨b0, b1, b2, b3⟩ := DF.out.rbox
      have bf := DF.out.rfz
      have zR : w.heap.size < wz.heap.size := DF.out.rbox.lt
      have dR : Bs ≠ w.heap.size := DF.out.hR.2.2.1.symm
      have dR' : w.heap.size ≠ Bs := DF.out.hR.2.2.1
      go_region
      go_wp2
      exact bodyPost_ret (v := .tuple #[.slice (some ⟨gb, 0, none⟩) n gc, stV p (some ⟨bx, 0, none⟩) 4 rc1 (some ⟨w4.heap.size, 0, none⟩) 61 61 code]) (by simp [results, Try.results35, go_sem, b0, b1, b2, b3]) rfl ⟨gb, n, gc, G, p, code, (some ⟨bx, 0, none⟩), rc1, (some ⟨w4.heap.size, 0, none⟩), 61, [r1, r2, r3, r4], (List.replicate 61 0), rfl, hn, tailP, (DF.out.done _ _ _ _).dr⟩
  by_cases h4 : x = 4
  · subst h4
    have hrc1 : ¬ rc1 = 1 := by omega
    have hrc2 : (4 : Int) ≤ (rc1 : Int) := by omega
    have DF : Hid (Dq w (w3.setCell ⟨Bs, 1, none⟩ (.slice (some ⟨bx, 1, none⟩) 3 (rc1 - 1))) w.heap.size gb n G W0 c len cap a0 Bs p code (some ⟨bx, 1, none⟩) (rc1 - 1) oa1 oc1 [r2, r3, r4] os) := D3.out.tag 1 _ (by exact ⟨by go_cell, by go_cell, by go_cell, by go_cell⟩) (by
      obtain ⟨bq, oq, e, hlt, -⟩ := D3.out.s1.at (k := 0) (by simp)
      cases e
      refine .inr ⟨bx, 1, rfl, hlt, fun i hi => ?_⟩
      obtain ⟨bq, oq, e, -, hci⟩ := D3.out.s1.at (k := i + 1) (by simp at hi ⊢; omega)
      cases e
      rw [show (1 + i) = 0 + (i + 1) by omega, hci]
      rfl) D3.out.s2 (fun a ha => by
        simp only [Option.some.injEq] at ha
        subst ha
        exact D3.out.n1 ⟨bx, 0, none⟩ rfl) D3.out.n2 (by simp) D3.out.lo (fun a ha => by
        simp only [Option.some.injEq] at ha
        subst ha
        exact D3.out.u1 ⟨bx, 0, none⟩ rfl) D3.out.u2
    go_wp2_with fail
    clear c0 c1 c2 c3 cf
    generalize w3.setCell ⟨Bs, 1, none⟩ (.slice (some ⟨bx, 1, none⟩) 3 (rc1 - 1)) = wz at *
    obtain ⟨k0, k1, k2, k3⟩ := DF.out.box
    (try simp only [List.length_replicate] at k2)
    obtain ⟨b0, b1, b2, b3⟩ := DF.out.rbox
    have bf := DF.out.rfz
    have zR : w.heap.size < wz.heap.size := DF.out.rbox.lt
    have dR : Bs ≠ w.heap.size := DF.out.hR.2.2.1.symm
    have dR' : w.heap.size ≠ Bs := DF.out.hR.2.2.1
    go_region
    go_wp2
    exact bodyPost_ret (v := .tuple #[.slice (some ⟨gb, 0, none⟩) n gc, stV p (some ⟨bx, 1, none⟩) 3 (rc1 - 1) oa1 os.length oc1 code]) (by simp [results, Try.results35, go_sem, b0, b1, b2, b3]) rfl ⟨gb, n, gc, G, p, code, (some ⟨bx, 1, none⟩), (rc1 - 1), oa1, oc1, [r2, r3, r4], os, rfl, hn, tailP, (DF.out.done _ _ _ _).dr⟩
  have y0 : (x == 0) = false := by simpa using h0
  have y1 : (x == 1) = false := by simpa using h1
  have y2 : (x == 2) = false := by simpa using h2
  have y3 : (x == 3) = false := by simpa using h3
  have y4 : (x == 4) = false := by simpa using h4
  have DF := D3
  clear D3
  go_wp2_with fail
  clear c0 c1 c2 c3 cf
  generalize w3 = wz at *
  obtain ⟨k0, k1, k2, k3⟩ := DF.out.box
  (try simp only [List.length_replicate] at k2)
  obtain ⟨b0, b1, b2, b3⟩ := DF.out.rbox
  have bf := DF.out.rfz
  have zR : w.heap.size < wz.heap.size := DF.out.rbox.lt
  have dR : Bs ≠ w.heap.size := DF.out.hR.2.2.1.symm
  have dR' : w.heap.size ≠ Bs := DF.out.hR.2.2.1
  go_region
  go_wp2
  exact bodyPost_ret (v := .tuple #[.slice (some ⟨gb, 0, none⟩) n gc, stV p (some ⟨bx, 0, none⟩) 4 rc1 oa1 os.length oc1 code]) (by simp [results, Try.results35, go_sem, b0, b1, b2, b3]) rfl ⟨gb, n, gc, G, p, code, (some ⟨bx, 0, none⟩), rc1, oa1, oc1, [r1, r2, r3, r4], os, rfl, hn, tailP, (DF.out.done _ _ _ _).dr⟩

end Go.Proofs.Ytmbmhpginegggaa

