/- Proved: called with whatever list of places, events and kept states, the program's KeptOk answers as the model's KeptOk, and writes into no argument. No condition. -/
import Derived.Test.YtkoghgnbolaooaaKa43
import Derived.Test.YtkoghgnbolaooaaKa44
import Derived.Test.YtkoghgnbolaooaaKa27
namespace Go.Proofs.Ytkoghgnbolaooaa
open Go.ChangeShapes Go.WideShapes Go.ChangeAt Go.RowKit Go.Deep

/-- Kept states that came in are copied, whatever has been made since. -/
def CopiesK (w : World) (a0 : Option Addr) (n cap : Nat) (q : Nat → K9) : Prop := ∀ wx, Below w.heap.size w wx →
  Calls Try.prog 11 #[.slice a0 n cap] wx fun e w' => e = .returned (.slice (some ⟨wx.heap.size, 0, none⟩) n n) ∧ (∃ vs, OutKept w' wx.heap.size w'.heap.size n (fun i => (q i).n) (fun i => (q i).s) vs) ∧ Below wx.heap.size wx w'
/-- Copies of kept states, seen as ones that came in. -/
theorem OutKept.all {w : World} {D hi n : Nat} {q : Nat → K9} {vs : Nat → Value} (o : OutKept w D hi n (fun i => (q i).n) (fun i => (q i).s) vs) : ∃ q', AllKept w (some ⟨D, 0, none⟩) n q' ∧ ∀ i, (q' i).n = (q i).n ∧ (q' i).s = (q i).s := by
  have h : ∀ i, ∃ x : K9, (x.n = (q i).n ∧ x.s = (q i).s) ∧ (i < n → (w.cell? ⟨D, 0 + i * 5, none⟩ = some (.int .i64 x.n) ∧ w.cell? ⟨D, 0 + i * 5 + 1, none⟩ = some (.int .i64 x.p) ∧ w.cell? ⟨D, 0 + i * 5 + 2, none⟩ = some (.slice x.ra x.rs.length x.rc) ∧ w.cell? ⟨D, 0 + i * 5 + 3, none⟩ = some (.slice x.oa x.os.length x.oc) ∧ w.cell? ⟨D, 0 + i * 5 + 4, none⟩ = some (.int .i64 x.c)) ∧ Sl w x.ra x.rs ∧ Sl w x.oa x.os) := by
    intro i
    by_cases hi : i < n
    · obtain ⟨ra, rc, oa, oc, ev, a0, a1, a2, a3, a4⟩ := o.cel i hi
      refine ⟨⟨⟨(q i).p, ra, rc, (q i).rs, oa, oc, (q i).os, (q i).c⟩, (q i).n⟩, ⟨rfl, rfl⟩, fun _ => ⟨?_, ?_⟩⟩
      · rw [Nat.zero_add]
        exact ⟨a0, a1, a2, a3, a4⟩
      · obtain ⟨x1, x2, x3, x4, e, s1, s2⟩ := (o.own i hi).read
        rw [ev] at e
        simp only [Value.agg.injEq, Array.mk.injEq, List.cons.injEq, Value.slice.injEq, and_true, true_and] at e
        obtain ⟨⟨rfl, rfl⟩, rfl, rfl⟩ := e
        exact ⟨s1, s2⟩
    · exact ⟨q i, ⟨rfl, rfl⟩, fun h => absurd h hi⟩
  have hD : D < w.heap.size := Nat.lt_of_lt_of_le o.lt o.le
  exact ⟨fun i => Classical.choose (h i), ⟨.inr ⟨D, 0, rfl, hD, fun i hi => ((Classical.choose_spec (h i)).2 hi).1⟩, fun i hi => ((Classical.choose_spec (h i)).2 hi).2⟩, fun i => (Classical.choose_spec (h i)).1⟩
theorem KpOk.congr {g : Nat → I5} {n m c : Nat} {eh : Nat → E3} {q q' : Nat → K9} (h : ∀ i, (q' i).n = (q i).n ∧ (q' i).s = (q i).s) : KpOk g n eh m q' c ↔ KpOk g n eh m q c := by
  have h1 : ∀ {q q' : Nat → K9}, (∀ i, (q' i).n = (q i).n ∧ (q' i).s = (q i).s) → KpOk g n eh m q' c → KpOk g n eh m q c := by
    intro q q' h o
    refine ⟨o.so, ⟨o.li.1, (h 0).1 ▸ o.li.2.1, fun j hj => ?_⟩, fun i hi => ?_⟩
    · rw [← (h j).1, ← (h (j + 1)).1]
      exact o.li.2.2 j hj
    · have := o.al i hi
      unfold KpAt at this ⊢
      rw [(h i).1, (h i).2] at this
      exact this
  exact ⟨h1 h, h1 fun i => ⟨(h i).1.symm, (h i).2.symm⟩⟩

/-- What stands of the law's own arguments: places, events, kept states. -/
structure Kx (w wi : World) (i0 e0 k0 k1 len m c : Nat) (g : Nat → I5) (eh : Nat → E3) (q : Nat → K9) : Prop where
  be : Below w.heap.size w wi
  i : InsAt wi i0 0 len g ∧ i0 < wi.heap.size
  e : EvAt wi e0 0 m eh ∧ e0 < wi.heap.size
  k : ∃ vs, OutKept wi k0 k1 c (fun i => (q i).n) (fun i => (q i).s) vs
theorem Kx.below {w wi w' : World} {i0 e0 k0 k1 len m c : Nat} {g : Nat → I5} {eh : Nat → E3} {q : Nat → K9} (h : Kx w wi i0 e0 k0 k1 len m c g eh q) (hb : Below wi.heap.size wi w') : Kx w w' i0 e0 k0 k1 len m c g eh q := by
  obtain ⟨vs, o⟩ := h.k
  exact ⟨h.be.trans (hb.mono h.be.size), ⟨h.i.1.below hb h.i.2, Nat.lt_of_lt_of_le h.i.2 hb.size⟩, ⟨h.e.1.below hb h.e.2, Nat.lt_of_lt_of_le h.e.2 hb.size⟩, ⟨vs, o.below hb o.le⟩⟩

set_option maxRecDepth 100000 in
set_option maxHeartbeats 4000000 in
theorem keptOkLaw_small (a0 : Option Addr) (len cap : Nat) (g : Nat → I5) (e0 : Option Addr) (m ec : Nat) (eh : Nat → E3) (k0 : Option Addr) (c kc : Nat) (q : Nat → K9) (w : World) (hs : (len : Int) + m + (c + (sumL (lenS fun i => (q i).s) c : Nat)) ≤ 1048576) (HT : Hid (CopiesF w a0 len cap g)) (HU : Hid (CopiesE w e0 m ec eh)) (hA : AllKept w k0 c q) (hw : ∀ i, i < c → (Lit.int .i64 (q i).n).wf = true) :
    Calls Try.prog 3 #[.slice a0 len cap, .slice e0 m ec, .slice k0 c kc] w fun e w' => e = .returned (.bool true) ∧ Below w.heap.size w w' := by
  have hl : len ≤ 1048576 := by omega
  have hm : m ≤ 1048576 := by omega
  have hc : c ≤ 1048576 := by omega
  have hm' : (m : Int) ≤ 1048576 - len := by omega
  have hk' : (c : Int) + (sumL (lenS fun i => (q i).s) c : Nat) ≤ 1048576 - len - m := by omega
  have n1 : ¬ (1048576 - (len : Int) < 0) := by omega
  have n2 : ¬ (1048576 - (len : Int) - m < 0) := by omega
  have n3 : ¬ (1048576 - (len : Int) - m - c - (sumL (lenS fun i => (q i).s) c : Nat) < 0) := by omega
  have HM : Hid (len ≤ maxLen) := by show len ≤ maxLen; unfold maxLen; omega
  have HLq : Hid (∀ i, i < c → (q i).rs.length ≤ 1048576 ∧ (q i).os.length ≤ 1048576) := fun i hi => by
    have h1 := sumL_at (lenS fun i => (q i).s) hi
    have h2 : lenS (fun i => (q i).s) i = (q i).rs.length + (q i).os.length := rfl
    omega
  have HC : Hid (CopiesK w k0 c kc q) := fun wx hb => toKeptS_any k0 c kc q w wx hc HLq.out hA hb
  have HA : Hid (AllKept w k0 c q) := hA
  have HW : Hid (∀ i, i < c → (Lit.int .i64 (q i).n).wf = true) := hw
  have HS : Hid (∀ wx i0 e0 k0 k1, Kx w wx i0 e0 k0 k1 len m c g eh q → Calls Try.prog 8 #[.slice (some ⟨i0, 0, none⟩) len len, .slice (some ⟨e0, 0, none⟩) m m, .slice (some ⟨k0, 0, none⟩) c c] wx fun e w' => e = .returned (.bool (pB (KpOk g len eh m q c))) ∧ Below wx.heap.size wx w') := fun wx i0 e0 k0 k1 X => by
    obtain ⟨vs, o⟩ := X.k
    obtain ⟨q', hq, he⟩ := o.all
    have := specKeptOk_any i0 len len (some ⟨e0, 0, none⟩) m m (some ⟨k0, 0, none⟩) c c g eh q' wx HM.out X.i.2 X.i.1 (.inr ⟨e0, 0, rfl, X.e.2, X.e.1⟩) hm (Nat.le_refl _) hc hq (fun i hi => by
      have h1 := HLq.out i hi
      have h2 : (q' i).rs = (q i).rs ∧ (q' i).os = (q i).os := ⟨congrArg S4.rs (he i).2, congrArg S4.os (he i).2⟩
      rw [h2.1, h2.2]
      exact h1)
    rw [propext (KpOk.congr he)] at this
    exact this
  have HP : Hid (∀ wx i0 e0 k0 k1, Kx w wx i0 e0 k0 k1 len m c g eh q → Calls Try.prog 12 #[.slice (some ⟨i0, 0, none⟩) len len, .slice (some ⟨e0, 0, none⟩) m m, .slice (some ⟨k0, 0, none⟩) c c] wx fun e w' => e = .returned (.bool (pB (KpOk g len eh m q c))) ∧ Below wx.heap.size wx w') := fun wx i0 e0 k0 k1 X => by
    obtain ⟨vs, o⟩ := X.k
    obtain ⟨q', hq, he⟩ := o.all
    have := implKeptOk_any i0 len len (some ⟨e0, 0, none⟩) m m (some ⟨k0, 0, none⟩) c c g eh q' wx HM.out X.i.2 X.i.1 (.inr ⟨e0, 0, rfl, X.e.2, X.e.1⟩) hm hc hq (fun i hi => by
      have h1 := HLq.out i hi
      have h2 : (q' i).rs = (q i).rs ∧ (q' i).os = (q i).os := ⟨congrArg S4.rs (he i).2, congrArg S4.os (he i).2⟩
      rw [h2.1, h2.2]
      exact h1) (fun i hi => by
      rw [(he i).1]
      exact HW.out i hi)
    rw [propext (KpOk.congr he)] at this
    exact this
  generalize pB (KpOk g len eh m q c) = T at *
  clear hs hA hw
  go_enter Try.func3, Try.ntmps3
  go_wp2_with fail
  refine (szInsS_small _ _ _ _ hl).mono ?_
  rintro e w0 ⟨rfl, rfl⟩
  go_wp2_with fail
  refine (szEventS_small _ _ _ _ _ hm' (by omega)).mono ?_
  rintro e w1 ⟨rfl, rfl⟩
  go_wp2_with fail
  refine (szKeptS_small k0 c kc q _ w1 HA.out hk' (by omega)).mono ?_
  rintro e w2 ⟨rfl, b2⟩
  have B2 : Hid (Below w1.heap.size w1 w2) := b2
  clear b2
  go_wp2_with fail
  clear n1 n2 n3 hk' hm'
  refine (HT.out _ B2.out).mono ?_
  rintro e w3 ⟨rfl, i3, z3, b3, -⟩
  have I3 : Hid (InsAt w3 w2.heap.size 0 len g ∧ w2.heap.size < w3.heap.size) := ⟨i3, z3⟩
  have B3 : Hid (Below w1.heap.size w1 w3) := B2.out.trans (b3.mono B2.out.size)
  clear i3 z3 b3 B2
  go_wp2_with fail
  refine (HU.out _ B3.out).mono ?_
  rintro e w4 ⟨rfl, i4, z4, b4, -⟩
  have I4 : Hid (InsAt w4 w2.heap.size 0 len g ∧ w2.heap.size < w4.heap.size) := ⟨I3.out.1.below b4 I3.out.2, Nat.lt_of_lt_of_le I3.out.2 b4.size⟩
  have E4 : Hid (EvAt w4 w3.heap.size 0 m eh ∧ w3.heap.size < w4.heap.size) := ⟨i4, z4⟩
  have B4 : Hid (Below w1.heap.size w1 w4) := B3.out.trans (b4.mono B3.out.size)
  clear i4 z4 b4 B3 I3
  go_wp2_with fail
  refine (HC.out _ B4.out).mono ?_
  rintro e w5 ⟨rfl, ⟨vs5, o5⟩, b5⟩
  have X5 : Hid (Kx w1 w5 w2.heap.size w3.heap.size w4.heap.size w5.heap.size len m c g eh q) := ⟨B4.out.trans (b5.mono B4.out.size), ⟨I4.out.1.below b5 I4.out.2, Nat.lt_of_lt_of_le I4.out.2 b5.size⟩, ⟨E4.out.1.below b5 E4.out.2, Nat.lt_of_lt_of_le E4.out.2 b5.size⟩, ⟨vs5, o5⟩⟩
  clear o5 b5 B4 I4 E4
  go_wp2_with fail
  refine (HS.out _ _ _ _ _ X5.out).mono ?_
  rintro e w6 ⟨rfl, b6⟩
  have B6 : Hid (Below w1.heap.size w1 w6) := X5.out.be.trans (b6.mono X5.out.be.size)
  clear b6 X5
  go_wp2_with fail
  refine (HT.out _ B6.out).mono ?_
  rintro e w7 ⟨rfl, i7, z7, b7, -⟩
  have I7 : Hid (InsAt w7 w6.heap.size 0 len g ∧ w6.heap.size < w7.heap.size) := ⟨i7, z7⟩
  have B7 : Hid (Below w1.heap.size w1 w7) := B6.out.trans (b7.mono B6.out.size)
  clear i7 z7 b7 B6
  go_wp2_with fail
  refine (HU.out _ B7.out).mono ?_
  rintro e w8 ⟨rfl, i8, z8, b8, -⟩
  have I8 : Hid (InsAt w8 w6.heap.size 0 len g ∧ w6.heap.size < w8.heap.size) := ⟨I7.out.1.below b8 I7.out.2, Nat.lt_of_lt_of_le I7.out.2 b8.size⟩
  have E8 : Hid (EvAt w8 w7.heap.size 0 m eh ∧ w7.heap.size < w8.heap.size) := ⟨i8, z8⟩
  have B8 : Hid (Below w1.heap.size w1 w8) := B7.out.trans (b8.mono B7.out.size)
  clear i8 z8 b8 B7 I7
  go_wp2_with fail
  refine (HC.out _ B8.out).mono ?_
  rintro e w9 ⟨rfl, ⟨vs9, o9⟩, b9⟩
  have X9 : Hid (Kx w1 w9 w6.heap.size w7.heap.size w8.heap.size w9.heap.size len m c g eh q) := ⟨B8.out.trans (b9.mono B8.out.size), ⟨I8.out.1.below b9 I8.out.2, Nat.lt_of_lt_of_le I8.out.2 b9.size⟩, ⟨E8.out.1.below b9 E8.out.2, Nat.lt_of_lt_of_le E8.out.2 b9.size⟩, ⟨vs9, o9⟩⟩
  clear o9 b9 B8 I8 E8
  go_wp2_with fail
  refine (HP.out _ _ _ _ _ X9.out).mono ?_
  rintro e w10 ⟨rfl, b10⟩
  have X10 : Hid (Kx w1 w10 w6.heap.size w7.heap.size w8.heap.size w9.heap.size len m c g eh q) := X9.out.below b10
  clear b10 X9
  go_wp2_with fail
  refine (HT.out _ X10.out.be).mono ?_
  rintro e w11 ⟨rfl, i11, z11, b11, -⟩
  have J11 : Hid (InsAt w11 w10.heap.size 0 len g ∧ w10.heap.size < w11.heap.size) := ⟨i11, z11⟩
  have X11 : Hid (Kx w1 w11 w6.heap.size w7.heap.size w8.heap.size w9.heap.size len m c g eh q) := X10.out.below b11
  clear i11 z11 b11 X10
  go_wp2_with fail
  refine (eqInsS_same _ _ _ _ _ g _ hl X11.out.i.2 J11.out.2 X11.out.i.1 J11.out.1).mono ?_
  rintro e w12 ⟨rfl, b12⟩
  have X12 : Hid (Kx w1 w12 w6.heap.size w7.heap.size w8.heap.size w9.heap.size len m c g eh q) := X11.out.below b12
  clear b12 X11 J11
  go_wp2_with fail
  refine (HU.out _ X12.out.be).mono ?_
  rintro e w13 ⟨rfl, i13, z13, b13, -⟩
  have J13 : Hid (EvAt w13 w12.heap.size 0 m eh ∧ w12.heap.size < w13.heap.size) := ⟨i13, z13⟩
  have X13 : Hid (Kx w1 w13 w6.heap.size w7.heap.size w8.heap.size w9.heap.size len m c g eh q) := X12.out.below b13
  clear i13 z13 b13 X12
  go_wp2_with fail
  refine (eqEventS_same _ _ _ _ _ eh _ hm X13.out.e.2 J13.out.2 X13.out.e.1 J13.out.1).mono ?_
  rintro e w14 ⟨rfl, b14⟩
  have X14 : Hid (Kx w1 w14 w6.heap.size w7.heap.size w8.heap.size w9.heap.size len m c g eh q) := X13.out.below b14
  clear b14 X13 J13
  go_wp2_with fail
  refine (HC.out _ X14.out.be).mono ?_
  rintro e w15 ⟨rfl, ⟨vs15, o15⟩, b15⟩
  have X15 : Hid (Kx w1 w15 w6.heap.size w7.heap.size w8.heap.size w9.heap.size len m c g eh q) := X14.out.below b15
  have O15 : Hid (OutKept w15 w14.heap.size w15.heap.size c (fun i => (q i).n) (fun i => (q i).s) vs15) := o15
  clear o15 b15 X14
  go_wp2_with fail
  obtain ⟨vs, O⟩ := X15.out.k
  refine (eqKeptS_same _ _ _ _ _ _ _ (fun i => (q i).n) (fun i => (q i).s) vs vs15 w15 hc HLq.out O O15.out).mono ?_
  rintro e w16 ⟨rfl, b16⟩
  have B16 : Hid (Below w1.heap.size w1 w16) := X15.out.be.trans (b16.mono X15.out.be.size)
  clear b16 X15 O15 O
  go_wp2
  go_ret
  exact ⟨rfl, B16.out⟩

set_option maxRecDepth 100000 in
set_option maxHeartbeats 1000000 in
theorem keptOkLaw_great (a0 : Option Addr) (len cap : Nat) (e0 : Option Addr) (m ec : Nat) (k0 : Option Addr) (c kc : Nat) (q : Nat → K9) (w : World) (hA : AllKept w k0 c q) (hl : len ≤ maxLen) (hm : m ≤ maxLen) (hc : c ≤ maxLen) (hq : ∀ i, i < c → (q i).rs.length ≤ maxLen ∧ (q i).os.length ≤ maxLen) (hs : 1048576 < (len : Int) + m + (c + (sumL (lenS fun i => (q i).s) c : Nat))) :
    Calls Try.prog 3 #[.slice a0 len cap, .slice e0 m ec, .slice k0 c kc] w fun e w' => e = .returned (.bool true) ∧ Below w.heap.size w w' := by
  by_cases h1 : len ≤ 1048576
  · have n1 : ¬ (1048576 - (len : Int) < 0) := by omega
    by_cases h2 : (m : Int) ≤ 1048576 - len
    · have n2 : ¬ (1048576 - (len : Int) - m < 0) := by omega
      have hs' : 1048576 - (len : Int) - m < (c : Int) + (sumL (lenS fun i => (q i).s) c : Nat) := by omega
      go_enter Try.func3, Try.ntmps3
      go_wp2_with fail
      refine (szInsS_small _ _ _ _ h1).mono ?_
      rintro e w0 ⟨rfl, rfl⟩
      go_wp2_with fail
      refine (szEventS_small _ _ _ _ _ h2 (by omega)).mono ?_
      rintro e w1 ⟨rfl, rfl⟩
      go_wp2_with fail
      refine (szKeptS_great k0 c kc q _ w1 hA hs' (by omega) (by omega) hc hq).mono ?_
      rintro e w2 ⟨rfl, b2⟩
      have B2 : Hid (Below w1.heap.size w1 w2) := b2
      clear b2 n1 n2 hs' hs h2
      go_wp2
      go_ret
      exact ⟨rfl, B2.out⟩
    · go_enter Try.func3, Try.ntmps3
      go_wp2_with fail
      refine (szInsS_small _ _ _ _ h1).mono ?_
      rintro e w0 ⟨rfl, rfl⟩
      go_wp2_with fail
      refine (szEventS_great _ _ _ _ _ (by omega) (by omega) (by omega) hm).mono ?_
      rintro e w1 ⟨rfl, rfl⟩
      go_wp2
      go_ret
      exact ⟨rfl, Below.refl _ _⟩
  · go_enter Try.func3, Try.ntmps3
    go_wp2_with fail
    refine (szInsS_great _ _ _ _ (by omega) hl).mono ?_
    rintro e w0 ⟨rfl, rfl⟩
    go_wp2
    go_ret
    exact ⟨rfl, Below.refl _ _⟩

end Go.Proofs.Ytkoghgnbolaooaa

namespace Go.Proofs.Ytkoghgnbolaooaa
open Go.ChangeShapes Go.WideShapes Go.ChangeAt Go.RowKit

set_option maxRecDepth 100000 in
theorem keptOkLifted (os : Os) (started : os.Started) (H : Type) (enc : TypeId × Value → H) :
    ReturnsInHanded {} Try.checked os 3 .any (Rows.fnExactKeptOkSpec.pre6 enc Try.prog Try.f3 Rows.fnExactKeptOkRow.domain false) (Rows.fnExactKeptOkSpec.post enc Try.prog Try.f3 false true false false) := by
  refine returnsInHanded_of_change (C := Try.checked) Try.own started (by kernel_rfl) Try.func3
    (ChangeSpec.witness6 (enc := enc) (C := Try.checked) false ⟨#[], #[.slice none 0 0, .slice none 0 0, .slice none 0 0], []⟩ 8 (by kernel_rfl) (by kernel_rfl) (by kernel_rfl) (by kernel_rfl)) ?_
  intro W base args ds gs before hval0 hW _ _
  have hval : ∀ (j : Nat) t v, Try.f3.params[j]? = some t → args[j]? = some v → Value.okWide Try.prog W .any base t v := hval0
  have hW' := hW
  obtain ⟨p, q, hA0, hV, rfl, hfz, hnd⟩ := hW
  have hA : DataW.TrodAll enc Try.prog W 0 (fun _ => true) true Try.f3.params.toList args.toList ds p := hA0
  rw [Try.params3] at hA hval
  obtain ⟨v0, v1, v2, d0, d1, d2, p0, p1, p2, rfl, rfl, rfl, h0, h1, h2⟩ := trodAll_three hA
  obtain ⟨rfl, rfl⟩ := trodVars_none hV
  obtain ⟨a0, len, cap, rfl⟩ := okWide_slice Try.underlying22 (hval 0 22 v0 rfl rfl)
  obtain ⟨e0, m, ec, rfl⟩ := okWide_slice Try.underlying23 (hval 1 23 v1 rfl rfl)
  obtain ⟨k0, c, kc, rfl⟩ := okWide_slice Try.underlying24 (hval 2 24 v2 rfl rfl)
  have lt0 : ∀ x ∈ p0, x.block < W.heap.size := by obtain ⟨m, hm⟩ := h0; exact DataW.trod_lt m _ _ _ hm
  have lt1 : ∀ x ∈ p1, x.block < W.heap.size := by obtain ⟨m, hm⟩ := h1; exact DataW.trod_lt m _ _ _ hm
  have lt2 : ∀ x ∈ p2, x.block < W.heap.size := by obtain ⟨m, hm⟩ := h2; exact DataW.trod_lt m _ _ _ hm
  clear hA0 hval0
  have hlaw : Calls Try.prog 3 #[.slice a0 len cap, .slice e0 m ec, .slice k0 c kc] W fun e w' => e = .returned (.bool true) ∧ Below W.heap.size W w' := by
    obtain ⟨hm0, hrow0⟩ := open_insRow h0
    obtain ⟨hm1, hrow1⟩ := open_evRow h1
    obtain ⟨hm2, q, hq, hlq, hwq⟩ := open_KeptS h2
    by_cases hs : (len : Int) + m + (c + (sumL (lenS fun i => (q i).s) c : Nat)) ≤ 1048576
    · obtain ⟨g, hg⟩ := copiesF_of (cap := cap) (by omega) hrow0
      obtain ⟨eh, he⟩ := copiesE_of (cap := ec) (by omega) hrow1
      exact keptOkLaw_small a0 len cap g e0 m ec eh k0 c kc q W hs hg he hq hwq
    · exact keptOkLaw_great a0 len cap e0 m ec k0 c kc q W hq hm0 hm1 hm2 hlq (by omega)
  refine hlaw.mono fun e W' ⟨he, bel⟩ => ?_
  subst he
  exact ⟨_, rfl, _, _, _, [], _, [], hW', trodAll_mk1 (shut_bool Try.underlying4 _), (trodAll_cons_mk (Below.trod Try.laidOut (by kernel_rfl) (of_decide_eq_true (by kernel_rfl)) h0 bel lt0) (trodAll_cons_mk (Below.trod Try.laidOut (by kernel_rfl) (of_decide_eq_true (by kernel_rfl)) h1 bel lt1) (trodAll_cons_mk (Below.trod Try.laidOut (by kernel_rfl) (of_decide_eq_true (by kernel_rfl)) h2 bel lt2) trodAll_mk0))), rfl, bel.frame _, fun h => by cases h⟩

theorem keptOk_holds : Rows.FnExactKeptOkSaid :=
  OpenClaim.holds_of_wide 3 Try.f3 rfl rfl rfl rfl rfl rfl rfl ⟨rfl, rfl, rfl, rfl, rfl⟩ rfl rfl rfl rfl rfl (by kernel_rfl) Try.func3 (by kernel_rfl)
    (of_decide_eq_true (by kernel_rfl)) (by unfold Func.isWrapper; first | (rw [if_pos (by decide +kernel)]; kernel_rfl) | (rw [if_neg (by decide +kernel)]; exact ⟨rfl, rfl⟩))
    (fun os started H enc _ => keptOkLifted os started H enc)

end Go.Proofs.Ytkoghgnbolaooaa
