/- The law of Restore, walked. -/
import Derived.Test.YtkoghgnbolaooaaGreatRa40
import Derived.Test.YtkoghgnbolaooaaGreatRa42
import Derived.Test.YtkoghgnbolaooaaGreatRa34
namespace Go.Proofs.YtkoghgnbolaooaaGreat
open Go.ChangeShapes Go.WideShapes Go.ChangeAt Go.RowKit Go.Deep

theorem rs_len (g : Nat → I5) (n : Nat) (eh : Nat → E3) (m : Nat) (q : Nat → K9) (c : Nat) (z : Int) : (rsS g n eh m q c z).rs.length ≤ 1048576 ∧ (rsS g n eh m q c z).os.length ≤ 1048576 := by
  by_cases h : RsOk g n eh m q c z
  · obtain ⟨a, j, S, Sm, -, -, -, -, -, -, -, hS, -, hp, e, -⟩ := rs_yes h
    have := OkS.len (rp_ok hp _ _ hS)
    rw [e]
    omega
  · rw [(rs_no h).1]
    exact ⟨Nat.zero_le _, Nat.zero_le _⟩

/-- What the law holds: the model's answer, its own arguments, the program's answer. -/
structure Kz (w wi : World) (B C N A E D H M M1 N1 : Nat) (rw0 : Option Addr) (cw0 : Nat) (ow0 : Option Addr) (dw0 : Nat) (rg : Option Addr) (cg : Nat) (og : Option Addr) (dg : Nat) (len m c : Nat) (g : Nat → I5) (eh : Nat → E3) (q : Nat → K9) (S : S4) : Prop where
  rx : Rx w wi B C N rw0 cw0 ow0 dw0 S
  ix : Ix wi A len g
  ex : Ex wi E m eh
  kx : ∃ vs, OutKept wi D H c (fun i => (q i).n) (fun i => (q i).s) vs
  gl : Tl wi M M1 N1 S.p S.c rg S.rs.length cg og S.os.length dg S.rs S.os
theorem Kz.below {w wi w' : World} {B C N A E D H M M1 N1 : Nat} {rw0 : Option Addr} {cw0 : Nat} {ow0 : Option Addr} {dw0 : Nat} {rg : Option Addr} {cg : Nat} {og : Option Addr} {dg : Nat} {len m c : Nat} {g : Nat → I5} {eh : Nat → E3} {q : Nat → K9} {S : S4} (h : Kz w wi B C N A E D H M M1 N1 rw0 cw0 ow0 dw0 rg cg og dg len m c g eh q S) (hb : Below wi.heap.size wi w') : Kz w w' B C N A E D H M M1 N1 rw0 cw0 ow0 dw0 rg cg og dg len m c g eh q S := by
  obtain ⟨vs, o⟩ := h.kx
  exact ⟨h.rx.below hb, h.ix.below hb, h.ex.below hb, ⟨vs, o.below hb o.le⟩, h.gl.below hb⟩

set_option maxRecDepth 100000 in
set_option maxHeartbeats 8000000 in
theorem restoreLaw_small (a0 : Option Addr) (len cap : Nat) (g : Nat → I5) (e0 : Option Addr) (m ec : Nat) (eh : Nat → E3) (k0 : Option Addr) (c kc : Nat) (q : Nat → K9) (z : Int) (w : World) (hs : (len : Int) + m + (c + (sumL (lenS fun i => (q i).s) c : Nat)) ≤ 1048576) (HT : Hid (CopiesF w a0 len cap g)) (HU : Hid (CopiesE w e0 m ec eh)) (hA : AllKept w k0 c q) (hw : ∀ i, i < c → (Lit.int .i64 (q i).n).wf = true) :
    Calls Tryz.prog 4 #[.slice a0 len cap, .slice e0 m ec, .slice k0 c kc, .int .i64 z] w fun e w' => e = .returned (.bool true) ∧ Below w.heap.size w w' := by
  have hl : len ≤ 1048576 := by omega
  have hm : m ≤ 1048576 := by omega
  have hc : c ≤ 1048576 := by omega
  have hm' : (m : Int) ≤ 1048576 - len := by omega
  have hk' : (c : Int) + (sumL (lenS fun i => (q i).s) c : Nat) ≤ 1048576 - len - m := by omega
  have n1 : ¬ (1048576 - (len : Int) < 0) := by omega
  have n2 : ¬ (1048576 - (len : Int) - m < 0) := by omega
  have n3 : ¬ (1048576 - (len : Int) - m - c - (sumL (lenS fun i => (q i).s) c : Nat) < 0) := by omega
  have HM : Hid (len ≤ maxLen) := by show len ≤ maxLen; unfold maxLen; omega
  have HLq : Hid (∀ i, i < c → (q i).rs.length ≤ 1048576 ∧ (q i).os.length ≤ 1048576) := fun i hi => by
    have h1 := sumL_at (lenS fun i => (q i).s) hi
    have h2 : lenS (fun i => (q i).s) i = (q i).rs.length + (q i).os.length := rfl
    omega
  have HQ : Hid (sumL (lenS fun i => (q i).s) c ≤ 1048576) := by
    show sumL (lenS fun i => (q i).s) c ≤ 1048576
    omega
  have HC : Hid (CopiesK w k0 c kc q) := fun wx hb => toKeptS_any k0 c kc q w wx hc HLq.out hA hb
  have HA : Hid (AllKept w k0 c q) := hA
  have HW : Hid (∀ i, i < c → (Lit.int .i64 (q i).n).wf = true) := hw
  have HS : Hid (∀ wx i0 e0 k0 k1, Kx w wx i0 e0 k0 k1 len m c g eh q → Calls Tryz.prog 19 #[.slice (some ⟨i0, 0, none⟩) len len, .slice (some ⟨e0, 0, none⟩) m m, .slice (some ⟨k0, 0, none⟩) c c, .int .i64 z] wx (ResR wx (rsS g len eh m q c z) (rsK g len eh m q c z))) := fun wx i0 e0 k0 k1 X => by
    obtain ⟨vs, o⟩ := X.k
    obtain ⟨q', hq, he⟩ := o.all
    have := specRestore_any i0 len len (some ⟨e0, 0, none⟩) m m (some ⟨k0, 0, none⟩) c c g eh q' z wx HM.out X.i.2 X.i.1 (.inr ⟨e0, 0, rfl, X.e.2, X.e.1⟩) hm (Nat.le_refl _) hc hq (fun i hi => by
      have h1 := HLq.out i hi
      have h2 : (q' i).rs = (q i).rs ∧ (q' i).os = (q i).os := ⟨congrArg S4.rs (he i).2, congrArg S4.os (he i).2⟩
      rw [h2.1, h2.2]
      exact h1)
    rw [(rs_congr he).1, (rs_congr he).2] at this
    exact this
  have HP : Hid (∀ wx i0 e0 k0 k1, Kx w wx i0 e0 k0 k1 len m c g eh q → Calls Tryz.prog 21 #[.slice (some ⟨i0, 0, none⟩) len len, .slice (some ⟨e0, 0, none⟩) m m, .slice (some ⟨k0, 0, none⟩) c c, .int .i64 z] wx (ResR wx (rsS g len eh m q c z) (rsK g len eh m q c z))) := fun wx i0 e0 k0 k1 X => by
    obtain ⟨vs, o⟩ := X.k
    obtain ⟨q', hq, he⟩ := o.all
    have := implRestore_any i0 len len (some ⟨e0, 0, none⟩) m m (some ⟨k0, 0, none⟩) c c g eh q' z wx HM.out X.i.2 X.i.1 (.inr ⟨e0, 0, rfl, X.e.2, X.e.1⟩) hm (Nat.le_refl _) hc hq (fun i hi => by
      have h1 := HLq.out i hi
      have h2 : (q' i).rs = (q i).rs ∧ (q' i).os = (q i).os := ⟨congrArg S4.rs (he i).2, congrArg S4.os (he i).2⟩
      rw [h2.1, h2.2]
      exact h1) (fun i hi => by
      rw [(he i).1]
      exact HW.out i hi)
    rw [(rs_congr he).1, (rs_congr he).2] at this
    exact this
  have hSL := rs_len g len eh m q c z
  generalize rsK g len eh m q c z = K0 at *
  generalize rsS g len eh m q c z = S at *
  have HSL : Hid (S.rs.length ≤ 1048576 ∧ S.os.length ≤ 1048576) := hSL
  clear hs hA hw hSL
  go_enter Tryz.func4, Tryz.ntmps4
  go_wp2_with fail
  refine (szInsS_small _ _ _ _ hl).mono ?_
  rintro e w0 ⟨rfl, rfl⟩
  go_wp2_with fail
  refine (szEventS_small _ _ _ _ _ hm' (by omega)).mono ?_
  rintro e w1 ⟨rfl, rfl⟩
  go_wp2_with fail
  refine (szKeptS_small k0 c kc q _ w1 HA.out hk' (by omega)).mono ?_
  rintro e w2 ⟨rfl, b2⟩
  have B2 : Hid (Below w1.heap.size w1 w2) := b2
  clear b2
  go_wp2_with fail
  clear n1 n2 n3 hk' hm'
  refine (HT.out _ B2.out).mono ?_
  rintro e w3 ⟨rfl, i3, z3, b3, -⟩
  have I3 : Hid (InsAt w3 w2.heap.size 0 len g ∧ w2.heap.size < w3.heap.size) := ⟨i3, z3⟩
  have B3 : Hid (Below w1.heap.size w1 w3) := B2.out.trans (b3.mono B2.out.size)
  clear i3 z3 b3 B2
  go_wp2_with fail
  refine (HU.out _ B3.out).mono ?_
  rintro e w4 ⟨rfl, i4, z4, b4, -⟩
  have I4 : Hid (InsAt w4 w2.heap.size 0 len g ∧ w2.heap.size < w4.heap.size) := ⟨I3.out.1.below b4 I3.out.2, Nat.lt_of_lt_of_le I3.out.2 b4.size⟩
  have E4 : Hid (EvAt w4 w3.heap.size 0 m eh ∧ w3.heap.size < w4.heap.size) := ⟨i4, z4⟩
  have B4 : Hid (Below w1.heap.size w1 w4) := B3.out.trans (b4.mono B3.out.size)
  clear i4 z4 b4 B3 I3
  go_wp2_with fail
  refine (HC.out _ B4.out).mono ?_
  rintro e w5 ⟨rfl, ⟨vs5, o5⟩, b5⟩
  have X5 : Hid (Kx w1 w5 w2.heap.size w3.heap.size w4.heap.size w5.heap.size len m c g eh q) := ⟨B4.out.trans (b5.mono B4.out.size), ⟨I4.out.1.below b5 I4.out.2, Nat.lt_of_lt_of_le I4.out.2 b5.size⟩, ⟨E4.out.1.below b5 E4.out.2, Nat.lt_of_lt_of_le E4.out.2 b5.size⟩, ⟨vs5, o5⟩⟩
  clear o5 b5 B4 I4 E4
  go_wp2_with fail
  refine (HS.out _ _ _ _ _ X5.out).mono ?_
  rintro e w6 ⟨v6, rfl, o6, b6⟩
  obtain ⟨rw0, cw0, ow0, dw0, rfl, -, -⟩ := o6.read
  have B6 : Hid (Below w1.heap.size w1 w6) := X5.out.be.trans (b6.mono X5.out.be.size)
  have X7 : Hid (Rx w1 (w6.alloc (.cells #[.int .i64 S.p, .slice rw0 S.rs.length cw0, .slice ow0 S.os.length dw0, .int .i64 S.c] 43)) w5.heap.size (w6.heap.size + 1) w6.heap.size rw0 cw0 ow0 dw0 S) := ⟨B6.out.trans ((below_alloc _ _).mono B6.out.size), Tl.of_alloc o6 b6.size _⟩
  have Z7 : Hid ((w6.alloc (.cells #[.int .i64 S.p, .slice rw0 S.rs.length cw0, .slice ow0 S.os.length dw0, .int .i64 S.c] 43)).heap.size = w6.heap.size + 1 ∧ w1.heap.size ≤ w5.heap.size ∧ w5.heap.size ≤ w6.heap.size) := ⟨by simp, X5.out.be.size, b6.size⟩
  clear o6 b6 B6 X5
  go_upto_region 12 with fail
  generalize w6.alloc (.cells #[.int .i64 S.p, .slice rw0 S.rs.length cw0, .slice ow0 S.os.length dw0, .int .i64 S.c] 43) = w7 at *
  generalize w6.heap.size = M6 at *
  generalize w5.heap.size = B5 at *
  go_wp2_with fail
  refine (HT.out _ X7.out.be).mono ?_
  rintro e w8 ⟨rfl, i8, z8, b8, f8⟩
  have X8 : Hid (Rx w1 w8 B5 (M6 + 1) M6 rw0 cw0 ow0 dw0 S) := X7.out.below b8
  have I8 : Hid (Ix w8 w7.heap.size len g) := ⟨i8, f8, z8⟩
  clear i8 b8 f8 X7
  go_wp2_with fail
  refine (HU.out _ X8.out.be).mono ?_
  rintro e w9 ⟨rfl, i9, z9, b9, f9⟩
  have X9 : Hid (Rx w1 w9 B5 (M6 + 1) M6 rw0 cw0 ow0 dw0 S) := X8.out.below b9
  have I9 : Hid (Ix w9 w7.heap.size len g) := I8.out.below b9
  have E9 : Hid (Ex w9 w8.heap.size m eh) := ⟨i9, f9, z9⟩
  clear i9 b9 f9 X8 I8
  go_wp2_with fail
  refine (HC.out _ X9.out.be).mono ?_
  rintro e w10 ⟨rfl, ⟨vs10, o10⟩, b10⟩
  have X10 : Hid (Rx w1 w10 B5 (M6 + 1) M6 rw0 cw0 ow0 dw0 S) := X9.out.below b10
  have I10 : Hid (Ix w10 w7.heap.size len g) := I9.out.below b10
  have E10 : Hid (Ex w10 w8.heap.size m eh) := E9.out.below b10
  have O10 : Hid (OutKept w10 w9.heap.size w10.heap.size c (fun i => (q i).n) (fun i => (q i).s) vs10) := o10
  have ZA : Hid (w7.heap.size = M6 + 1 ∧ w7.heap.size < w8.heap.size ∧ w8.heap.size < w9.heap.size ∧ w9.heap.size ≤ w10.heap.size ∧ w1.heap.size ≤ M6) := ⟨Z7.out.1, z8, z9, b10.size, Nat.le_trans Z7.out.2.1 Z7.out.2.2⟩
  clear b10 o10 X9 I9 E9 z8 z9 Z7
  go_wp2_with fail
  refine (HP.out w10 w7.heap.size w8.heap.size w9.heap.size w10.heap.size ⟨X10.out.be, ⟨I10.out.at', I10.out.lt⟩, ⟨E10.out.at', E10.out.lt⟩, ⟨vs10, O10.out⟩⟩).mono ?_
  rintro e w11 ⟨v11, rfl, o11, b11⟩
  obtain ⟨rg, cg, og, dg, rfl, -, -⟩ := o11.read
  have q12 : Below w10.heap.size w10 (w11.alloc (.cells #[.int .i64 S.p, .slice rg S.rs.length cg, .slice og S.os.length dg, .int .i64 S.c] 43)) := b11.trans ((below_alloc _ _).mono b11.size)
  have Y12 : Hid (Kz w1 (w11.alloc (.cells #[.int .i64 S.p, .slice rg S.rs.length cg, .slice og S.os.length dg, .int .i64 S.c] 43)) B5 (M6 + 1) M6 w7.heap.size w8.heap.size w9.heap.size w10.heap.size w10.heap.size (w11.heap.size + 1) w11.heap.size rw0 cw0 ow0 dw0 rg cg og dg len m c g eh q S) := ⟨X10.out.below q12, I10.out.below q12, E10.out.below q12, ⟨vs10, O10.out.below q12 O10.out.le⟩, Tl.of_alloc o11 b11.size _⟩
  have ZB : Hid (w10.heap.size ≤ w11.heap.size) := b11.size
  clear o11 b11 q12 X10 I10 E10 O10
  go_upto_region 16 with fail
  generalize w11.alloc (.cells #[.int .i64 S.p, .slice rg S.rs.length cg, .slice og S.os.length dg, .int .i64 S.c] 43) = w12 at *
  generalize w11.heap.size = M11 at *
  generalize w10.heap.size = H10 at *
  generalize w9.heap.size = A10 at *
  generalize w8.heap.size = A9 at *
  generalize w7.heap.size = A8 at *
  obtain ⟨c0, c1, c2, c3⟩ := Y12.out.gl.box
  obtain ⟨d0, d1, d2, d3⟩ := Y12.out.rx.tl.box
  go_wp2_with fail
  clear c0 c1 c2 c3 d0 d1 d2 d3
  refine (eqState_same S.p S.c rg og rw0 ow0 cg dg cw0 dw0 S.rs S.os _ HSL.out.1 HSL.out.2 Y12.out.gl.sl.1 Y12.out.gl.sl.2 Y12.out.rx.tl.sl.1 Y12.out.rx.tl.sl.2).mono ?_
  rintro e w13 ⟨rfl, b13⟩
  have Y13 : Hid (Kz w1 w13 B5 (M6 + 1) M6 A8 A9 A10 H10 H10 (M11 + 1) M11 rw0 cw0 ow0 dw0 rg cg og dg len m c g eh q S) := Y12.out.below b13
  clear Y12 b13
  go_wp2_with fail
  refine (HT.out _ Y13.out.rx.be).mono ?_
  rintro e w14 ⟨rfl, i14, z14, b14, -⟩
  have J14 : Hid (InsAt w14 w13.heap.size 0 len g ∧ w13.heap.size < w14.heap.size) := ⟨i14, z14⟩
  have Y14 : Hid (Kz w1 w14 B5 (M6 + 1) M6 A8 A9 A10 H10 H10 (M11 + 1) M11 rw0 cw0 ow0 dw0 rg cg og dg len m c g eh q S) := Y13.out.below b14
  clear i14 z14 b14 Y13
  go_wp2_with fail
  refine (eqInsS_same _ _ _ _ _ g _ hl Y14.out.ix.lt J14.out.2 Y14.out.ix.at' J14.out.1).mono ?_
  rintro e w15 ⟨rfl, b15⟩
  have Y15 : Hid (Kz w1 w15 B5 (M6 + 1) M6 A8 A9 A10 H10 H10 (M11 + 1) M11 rw0 cw0 ow0 dw0 rg cg og dg len m c g eh q S) := Y14.out.below b15
  clear b15 Y14 J14
  go_wp2_with fail
  refine (HU.out _ Y15.out.rx.be).mono ?_
  rintro e w16 ⟨rfl, i16, z16, b16, -⟩
  have J16 : Hid (EvAt w16 w15.heap.size 0 m eh ∧ w15.heap.size < w16.heap.size) := ⟨i16, z16⟩
  have Y16 : Hid (Kz w1 w16 B5 (M6 + 1) M6 A8 A9 A10 H10 H10 (M11 + 1) M11 rw0 cw0 ow0 dw0 rg cg og dg len m c g eh q S) := Y15.out.below b16
  clear i16 z16 b16 Y15
  go_wp2_with fail
  refine (eqEventS_same _ _ _ _ _ eh _ hm Y16.out.ex.lt J16.out.2 Y16.out.ex.at' J16.out.1).mono ?_
  rintro e w17 ⟨rfl, b17⟩
  have Y17 : Hid (Kz w1 w17 B5 (M6 + 1) M6 A8 A9 A10 H10 H10 (M11 + 1) M11 rw0 cw0 ow0 dw0 rg cg og dg len m c g eh q S) := Y16.out.below b17
  clear b17 Y16 J16
  go_wp2_with fail
  refine (HC.out _ Y17.out.rx.be).mono ?_
  rintro e w18 ⟨rfl, ⟨vs18, o18⟩, b18⟩
  have Y18 : Hid (Kz w1 w18 B5 (M6 + 1) M6 A8 A9 A10 H10 H10 (M11 + 1) M11 rw0 cw0 ow0 dw0 rg cg og dg len m c g eh q S) := Y17.out.below b18
  have O18 : Hid (OutKept w18 w17.heap.size w18.heap.size c (fun i => (q i).n) (fun i => (q i).s) vs18) := o18
  clear o18 b18 Y17
  go_wp2_with fail
  obtain ⟨vs, O⟩ := Y18.out.kx
  refine (eqKeptS_same _ _ _ _ _ _ _ (fun i => (q i).n) (fun i => (q i).s) vs vs18 w18 hc HLq.out O O18.out).mono ?_
  rintro e w19 ⟨rfl, b19⟩
  have Y19 : Hid (Kz w1 w19 B5 (M6 + 1) M6 A8 A9 A10 H10 H10 (M11 + 1) M11 rw0 cw0 ow0 dw0 rg cg og dg len m c g eh q S) := Y18.out.below b19
  clear b19 Y18 O18 O
  go_wp2_with fail
  refine (markInsS_any A8 len len 1 _ hl (by omega) (by omega) (Room.of_ins Y19.out.ix.at' Y19.out.ix.fr)).mono ?_
  rintro e w20 ⟨rfl, m20⟩
  have t20 := Tu.of_row m20
  have X20 : Hid (Rx w1 w20 B5 (M6 + 1) M6 rw0 cw0 ow0 dw0 S) := Y19.out.rx.tu t20 (by have := ZA.out; omega) (.inl (by have := ZA.out; omega))
  have E20 : Hid (Ex w20 A9 m eh) := Y19.out.ex.tu t20 (.inr (by have := ZA.out; omega))
  have K20 : Hid (∃ vs, OutKept w20 A10 H10 c (fun i => (q i).n) (fun i => (q i).s) vs) := by
    obtain ⟨vs, o⟩ := Y19.out.kx
    exact ⟨vs, o.keep t20.size fun k h1 h2 => t20.block k (Nat.lt_of_lt_of_le h2 o.le) (.inr (by have := ZA.out; omega))⟩
  have G20 : Hid (Tl w20 H10 (M11 + 1) M11 S.p S.c rg S.rs.length cg og S.os.length dg S.rs S.os) := Y19.out.gl.tu t20 (.inr (by have := ZA.out; omega))
  clear Y19 m20 t20
  go_wp2_with fail
  refine (markEventS_any A9 m m (1 + 5 * len) _ hm (by omega) (by omega) (RoomE.of_ev E20.out.at' E20.out.fr)).mono ?_
  rintro e w21 ⟨rfl, m21⟩
  have t21 := Tu.of_row m21
  have X21 : Hid (Rx w1 w21 B5 (M6 + 1) M6 rw0 cw0 ow0 dw0 S) := X20.out.tu t21 (by have := ZA.out; omega) (.inl (by have := ZA.out; omega))
  have K21 : Hid (∃ vs, OutKept w21 A10 H10 c (fun i => (q i).n) (fun i => (q i).s) vs) := by
    obtain ⟨vs, o⟩ := K20.out
    exact ⟨vs, o.keep t21.size fun k h1 h2 => t21.block k (Nat.lt_of_lt_of_le h2 o.le) (.inr (by have := ZA.out; omega))⟩
  have G21 : Hid (Tl w21 H10 (M11 + 1) M11 S.p S.c rg S.rs.length cg og S.os.length dg S.rs S.os) := G20.out.tu t21 (.inr (by have := ZA.out; omega))
  clear X20 E20 K20 G20 m21 t21
  go_wp2_with fail
  obtain ⟨vs, O⟩ := K21.out
  have hkk : ¬ (1 + 5 * (len : Int) + 3 * m + (3 * c + sumL (lenS fun i => (q i).s) c : Nat) < 0) := by omega
  refine (markKeptS_any A10 H10 c c (fun i => (q i).n) (fun i => (q i).s) vs (1 + 5 * len + 3 * m) _ hc HQ.out (by omega) (by omega) O).mono ?_
  rintro e w22 ⟨rfl, m22⟩
  have t22 := Tu.of_touch m22
  have X22 : Hid (Rx w1 w22 B5 (M6 + 1) M6 rw0 cw0 ow0 dw0 S) := X21.out.tu t22 (by have := ZA.out; omega) (.inl (by have := ZA.out; omega))
  have G22 : Hid (Tl w22 H10 (M11 + 1) M11 S.p S.c rg S.rs.length cg og S.os.length dg S.rs S.os) := G21.out.tu t22 (.inr (Nat.le_refl _))
  clear X21 K21 G21 O m22 t22
  obtain ⟨c0, c1, c2, c3⟩ := G22.out.box
  obtain ⟨d0, d1, d2, d3⟩ := X22.out.tl.box
  go_wp2_with fail
  clear c0 c1 c2 c3 d0 d1 d2 d3
  refine (eqState_same S.p S.c rg og rw0 ow0 cg dg cw0 dw0 S.rs S.os _ HSL.out.1 HSL.out.2 G22.out.sl.1 G22.out.sl.2 X22.out.tl.sl.1 X22.out.tl.sl.2).mono ?_
  rintro e w23 ⟨rfl, b23⟩
  have X23 : Hid (Rx w1 w23 B5 (M6 + 1) M6 rw0 cw0 ow0 dw0 S) := X22.out.below b23
  have G23 : Hid (Tl w23 H10 (M11 + 1) M11 S.p S.c rg S.rs.length cg og S.os.length dg S.rs S.os) := G22.out.below b23
  clear X22 G22 b23
  obtain ⟨c0, c1, c2, c3⟩ := G23.out.box
  go_wp2_with fail
  clear c0 c1 c2 c3 hkk
  refine (markState_any _ H10 S.p S.c S.rs S.os 1 _ HSL.out.1 HSL.out.2 (by omega) (by omega) G23.out.own).mono ?_
  rintro e w24 ⟨rfl, o24, m24⟩
  have t24 : Tu H10 (M11 + 1) w23 w24 := Tu.of_marked m24 G23.out.span
  have X24 : Hid (Rx w1 w24 B5 (M6 + 1) M6 rw0 cw0 ow0 dw0 S) := X23.out.tu t24 (by have := ZA.out; have := ZB.out; omega) (.inl (by have := ZA.out; have := ZB.out; omega))
  have K24 : Hid (Tl w24 H10 (M11 + 1) M11 S.p S.c rg S.rs.length cg og S.os.length dg (marks 1 S.rs.length) (marks (1 + S.rs.length) S.os.length)) := G23.out.marked o24 m24
  clear X23 G23 m24 t24 o24
  obtain ⟨c0, c1, c2, c3⟩ := K24.out.box
  go_wp2_with fail
  clear c0 c1 c2 c3
  refine (heldState_marks S.p S.c rg og S.rs.length cg S.os.length dg 1 _ HSL.out.1 HSL.out.2 (by omega) (by omega) K24.out.sl.1 K24.out.sl.2).mono ?_
  rintro e w25 ⟨rfl, b25⟩
  have hq : ¬ (1 + (S.rs.length : Int) + S.os.length < 0) := by omega
  have X25 : Hid (Rx w1 w25 B5 (M6 + 1) M6 rw0 cw0 ow0 dw0 S) := X24.out.below b25
  have K25 : Hid (Tl w25 H10 (M11 + 1) M11 S.p S.c rg S.rs.length cg og S.os.length dg (marks 1 S.rs.length) (marks (1 + S.rs.length) S.os.length)) := K24.out.below b25
  clear X24 K24 b25
  go_wp2_with fail
  refine (HT.out _ X25.out.be).mono ?_
  rintro e w26 ⟨rfl, i26, z26, b26, f26⟩
  have I26 : Hid (Ix w26 w25.heap.size len g) := ⟨i26, f26, z26⟩
  have X26 : Hid (Rx w1 w26 B5 (M6 + 1) M6 rw0 cw0 ow0 dw0 S) := X25.out.below b26
  have K26 : Hid (Tl w26 H10 (M11 + 1) M11 S.p S.c rg S.rs.length cg og S.os.length dg (marks 1 S.rs.length) (marks (1 + S.rs.length) S.os.length)) := K25.out.below b26
  clear i26 z26 f26 X25 K25 b26
  go_wp2_with fail
  refine (HU.out _ X26.out.be).mono ?_
  rintro e w27 ⟨rfl, i27, z27, b27, f27⟩
  have I27 : Hid (Ix w27 w25.heap.size len g) := I26.out.below b27
  have E27 : Hid (Ex w27 w26.heap.size m eh) := ⟨i27, f27, z27⟩
  have X27 : Hid (Rx w1 w27 B5 (M6 + 1) M6 rw0 cw0 ow0 dw0 S) := X26.out.below b27
  have K27 : Hid (Tl w27 H10 (M11 + 1) M11 S.p S.c rg S.rs.length cg og S.os.length dg (marks 1 S.rs.length) (marks (1 + S.rs.length) S.os.length)) := K26.out.below b27
  clear i27 z27 f27 I26 X26 K26 b27
  go_wp2_with fail
  refine (HC.out _ X27.out.be).mono ?_
  rintro e w28 ⟨rfl, ⟨vs28, o28⟩, b28⟩
  have Q28 : Hid (Kx w1 w28 w25.heap.size w26.heap.size w27.heap.size w28.heap.size len m c g eh q) := ⟨X27.out.be.trans (b28.mono X27.out.be.size), ⟨(I27.out.below b28).at', (I27.out.below b28).lt⟩, ⟨(E27.out.below b28).at', (E27.out.below b28).lt⟩, ⟨vs28, o28⟩⟩
  have X28 : Hid (Rx w1 w28 B5 (M6 + 1) M6 rw0 cw0 ow0 dw0 S) := X27.out.below b28
  have K28 : Hid (Tl w28 H10 (M11 + 1) M11 S.p S.c rg S.rs.length cg og S.os.length dg (marks 1 S.rs.length) (marks (1 + S.rs.length) S.os.length)) := K27.out.below b28
  clear I27 E27 X27 K27 b28 o28
  go_wp2_with fail
  refine (HP.out _ _ _ _ _ Q28.out).mono ?_
  rintro e w29 ⟨v29, rfl, o29, b29⟩
  obtain ⟨rh, ch, oh, dh, rfl, -, -⟩ := o29.read
  have q30 : Below w28.heap.size w28 (w29.alloc (.cells #[.int .i64 S.p, .slice rh S.rs.length ch, .slice oh S.os.length dh, .int .i64 S.c] 43)) := b29.trans ((below_alloc _ _).mono b29.size)
  have X30 : Hid (Rx w1 (w29.alloc (.cells #[.int .i64 S.p, .slice rh S.rs.length ch, .slice oh S.os.length dh, .int .i64 S.c] 43)) B5 (M6 + 1) M6 rw0 cw0 ow0 dw0 S) := X28.out.below q30
  have K30 : Hid (Tl (w29.alloc (.cells #[.int .i64 S.p, .slice rh S.rs.length ch, .slice oh S.os.length dh, .int .i64 S.c] 43)) H10 (M11 + 1) M11 S.p S.c rg S.rs.length cg og S.os.length dg (marks 1 S.rs.length) (marks (1 + S.rs.length) S.os.length)) := K28.out.below q30
  have H30 : Hid (Tl (w29.alloc (.cells #[.int .i64 S.p, .slice rh S.rs.length ch, .slice oh S.os.length dh, .int .i64 S.c] 43)) w28.heap.size (w29.heap.size + 1) w29.heap.size S.p S.c rh S.rs.length ch oh S.os.length dh S.rs S.os) := Tl.of_alloc o29 b29.size _
  clear o29 b29 q30 X28 K28 Q28
  go_upto_region 39 with fail
  generalize w29.alloc (.cells #[.int .i64 S.p, .slice rh S.rs.length ch, .slice oh S.os.length dh, .int .i64 S.c] 43) = w30 at *
  generalize w29.heap.size = M29 at *
  obtain ⟨c0, c1, c2, c3⟩ := H30.out.box
  obtain ⟨d0, d1, d2, d3⟩ := X30.out.tl.box
  go_wp2_with fail
  clear c0 c1 c2 c3 d0 d1 d2 d3
  refine (eqState_same S.p S.c rh oh rw0 ow0 ch dh cw0 dw0 S.rs S.os _ HSL.out.1 HSL.out.2 H30.out.sl.1 H30.out.sl.2 X30.out.tl.sl.1 X30.out.tl.sl.2).mono ?_
  rintro e w31 ⟨rfl, b31⟩
  clear H30
  have X31 : Hid (Rx w1 w31 B5 (M6 + 1) M6 rw0 cw0 ow0 dw0 S) := X30.out.below b31
  have K31 : Hid (Tl w31 H10 (M11 + 1) M11 S.p S.c rg S.rs.length cg og S.os.length dg (marks 1 S.rs.length) (marks (1 + S.rs.length) S.os.length)) := K30.out.below b31
  clear X30 K30 b31
  obtain ⟨c0, c1, c2, c3⟩ := K31.out.box
  go_wp2_with fail
  clear c0 c1 c2 c3
  refine (heldState_marks S.p S.c rg og S.rs.length cg S.os.length dg 1 _ HSL.out.1 HSL.out.2 (by omega) (by omega) K31.out.sl.1 K31.out.sl.2).mono ?_
  rintro e w32 ⟨rfl, b32⟩
  have X32 : Hid (Rx w1 w32 B5 (M6 + 1) M6 rw0 cw0 ow0 dw0 S) := X31.out.below b32
  clear X31 K31 b32
  go_wp2
  go_ret
  exact ⟨rfl, X32.out.be⟩

set_option maxRecDepth 100000 in
set_option maxHeartbeats 1000000 in
theorem restoreLaw_great (a0 : Option Addr) (len cap : Nat) (e0 : Option Addr) (m ec : Nat) (k0 : Option Addr) (c kc : Nat) (q : Nat → K9) (z : Int) (w : World) (hA : AllKept w k0 c q) (hl : len ≤ maxLen) (hm : m ≤ maxLen) (hc : c ≤ maxLen) (hq : ∀ i, i < c → (q i).rs.length ≤ maxLen ∧ (q i).os.length ≤ maxLen) (hs : 1048576 < (len : Int) + m + (c + (sumL (lenS fun i => (q i).s) c : Nat))) :
    Calls Tryz.prog 4 #[.slice a0 len cap, .slice e0 m ec, .slice k0 c kc, .int .i64 z] w fun e w' => e = .returned (.bool true) ∧ Below w.heap.size w w' := by
  by_cases h1 : len ≤ 1048576
  · have n1 : ¬ (1048576 - (len : Int) < 0) := by omega
    by_cases h2 : (m : Int) ≤ 1048576 - len
    · have n2 : ¬ (1048576 - (len : Int) - m < 0) := by omega
      have hs' : 1048576 - (len : Int) - m < (c : Int) + (sumL (lenS fun i => (q i).s) c : Nat) := by omega
      go_enter Tryz.func4, Tryz.ntmps4
      go_wp2_with fail
      refine (szInsS_small _ _ _ _ h1).mono ?_
      rintro e w0 ⟨rfl, rfl⟩
      go_wp2_with fail
      refine (szEventS_small _ _ _ _ _ h2 (by omega)).mono ?_
      rintro e w1 ⟨rfl, rfl⟩
      go_wp2_with fail
      refine (szKeptS_great k0 c kc q _ w1 hA hs' (by omega) (by omega) hc hq).mono ?_
      rintro e w2 ⟨rfl, b2⟩
      have B2 : Hid (Below w1.heap.size w1 w2) := b2
      clear b2 n1 n2 hs' hs h2
      go_wp2
      go_ret
      exact ⟨rfl, B2.out⟩
    · go_enter Tryz.func4, Tryz.ntmps4
      go_wp2_with fail
      refine (szInsS_small _ _ _ _ h1).mono ?_
      rintro e w0 ⟨rfl, rfl⟩
      go_wp2_with fail
      refine (szEventS_great _ _ _ _ _ (by omega) (by omega) (by omega) hm).mono ?_
      rintro e w1 ⟨rfl, rfl⟩
      go_wp2
      go_ret
      exact ⟨rfl, Below.refl _ _⟩
  · go_enter Tryz.func4, Tryz.ntmps4
    go_wp2_with fail
    refine (szInsS_great _ _ _ _ (by omega) hl).mono ?_
    rintro e w0 ⟨rfl, rfl⟩
    go_wp2
    go_ret
    exact ⟨rfl, Below.refl _ _⟩

end Go.Proofs.YtkoghgnbolaooaaGreat
