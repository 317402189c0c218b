/- The law of KeepAll, walked. -/
import Derived.Test.YtkoghgnbolaooaaGreatRa51
import Derived.Test.YtkoghgnbolaooaaGreatRa53
import Derived.Test.YtkoghgnbolaooaaGreatRa34
import Derived.Test.YtkoghgnbolaooaaGreatRa32
namespace Go.Proofs.YtkoghgnbolaooaaGreat
open Go.ChangeShapes Go.WideShapes Go.ChangeAt Go.RowKit Go.Deep

theorem ka_len (g : Nat → I5) (n : Nat) (eh : Nat → E3) (m : Nat) : kaN g n eh m ≤ 26 ∧ ∀ i, i < kaN g n eh m → (kaS g n eh i).rs.length ≤ 4 ∧ (kaS g n eh i).os.length ≤ 60 := by
  unfold kaN
  by_cases h : (repO g n eh m).isSome = true
  · rw [if_pos h]
    unfold repO at h
    by_cases h1 : progOkB g n 4 = true ∧ m ≤ 200
    · rw [if_pos h1] at h
      obtain ⟨S, hS⟩ := Option.isSome_iff_exists.1 h
      refine ⟨by omega, fun i hi => ?_⟩
      obtain ⟨S', hS'⟩ := rp_some hS (k := 8 * i) (by omega)
      have := OkS.len (rp_ok h1.1 _ _ hS')
      unfold kaS repO
      rw [if_pos ⟨h1.1, by omega⟩, hS']
      show S'.rs.length ≤ 4 ∧ S'.os.length ≤ 60
      omega
    · rw [if_neg h1] at h
      cases h
  · rw [if_neg h]
    exact ⟨by omega, fun i hi => by omega⟩
theorem ka_sum {S : Nat → S4} {nn : Nat} (h : ∀ i, i < nn → (S i).rs.length ≤ 4 ∧ (S i).os.length ≤ 60) : sumL (lenS S) nn ≤ 64 * nn := by
  induction nn with
  | zero => exact Nat.le_refl _
  | succ k ih =>
    have h1 := ih fun i hi => h i (by omega)
    have h2 := h k (by omega)
    have h3 : lenS S k = (S k).rs.length + (S k).os.length := rfl
    simp only [sumL]
    omega

/-- Kept states as an answer, in memory of its own. -/
def AnsK (nn : Nat) (N : Nat → Int) (S : Nat → S4) (w : World) (e : Ending) (w' : World) : Prop := ∃ D cap vs, e = .returned (.slice (some ⟨D, 0, none⟩) nn cap) ∧ OKB w' (fun k => w.heap.size ≤ k ∧ k < w'.heap.size) D nn N vs S ∧ Below w.heap.size w w'

/-- What the law holds: the model's answer, its own arguments, the program's answer. -/
structure Kv (w wi : World) (B C D1 A E M H D2 len m nn : Nat) (g : Nat → I5) (eh : Nat → E3) (N : Nat → Int) (S : Nat → S4) : Prop where
  be : Below w.heap.size w wi
  o1 : ∃ vs, OKB wi (fun k => B ≤ k ∧ k < C) D1 nn N vs S
  ix : Ix wi A len g
  ex : Ex wi E m eh
  o2 : ∃ vs, OKB wi (fun k => M ≤ k ∧ k < H) D2 nn N vs S
theorem Kv.below {w wi w' : World} {B C D1 A E M H D2 len m nn : Nat} {g : Nat → I5} {eh : Nat → E3} {N : Nat → Int} {S : Nat → S4} (h : Kv w wi B C D1 A E M H D2 len m nn g eh N S) (hb : Below wi.heap.size wi w') : Kv w w' B C D1 A E M H D2 len m nn g eh N S := by
  obtain ⟨v1, p1⟩ := h.o1
  obtain ⟨v2, p2⟩ := h.o2
  exact ⟨h.be.trans (hb.mono h.be.size), ⟨v1, p1.below hb⟩, h.ix.below hb, h.ex.below hb, ⟨v2, p2.below hb⟩⟩

set_option maxRecDepth 100000 in
set_option maxHeartbeats 8000000 in
theorem keepAllLaw_small (a0 : Option Addr) (len cap : Nat) (g : Nat → I5) (e0 : Option Addr) (m ec : Nat) (eh : Nat → E3) (w : World) (hs : (len : Int) + m ≤ 1048576) (HT : Hid (CopiesF w a0 len cap g)) (HU : Hid (CopiesE w e0 m ec eh)) :
    Calls Tryz.prog 3 #[.slice a0 len cap, .slice e0 m ec] w fun e w' => e = .returned (.bool true) ∧ Below w.heap.size w w' := by
  have hl : len ≤ 1048576 := by omega
  have hm : m ≤ 1048576 := by omega
  have hm' : (m : Int) ≤ 1048576 - len := by omega
  have n1 : ¬ (1048576 - (len : Int) < 0) := by omega
  have n2 : ¬ (1048576 - (len : Int) - m < 0) := by omega
  have HM : Hid (len ≤ maxLen) := by show len ≤ maxLen; unfold maxLen; omega
  have HS : Hid (∀ wx i0 e0, (InsAt wx i0 0 len g ∧ i0 < wx.heap.size) → (EvAt wx e0 0 m eh ∧ e0 < wx.heap.size) → Calls Tryz.prog 7 #[.slice (some ⟨i0, 0, none⟩) len len, .slice (some ⟨e0, 0, none⟩) m m] wx (AnsK (kaN g len eh m) (fun i => ((8 * i : Nat) : Int)) (kaS g len eh) wx)) := fun wx i0 e0 hi he =>
    (specKeepAll_any i0 len len (some ⟨e0, 0, none⟩) m m g eh wx HM.out hi.2 hi.1 (.inr ⟨e0, 0, rfl, he.2, he.1⟩) hm (Nat.le_refl _)).mono fun e w' h => by
      obtain ⟨a, cap, vs, rfl, o, b, ha⟩ := h
      obtain ⟨D, rfl, o'⟩ := o.okb ha
      exact ⟨D, cap, vs, rfl, o'.mono fun k h1 h2 => ⟨h1, h2⟩, b⟩
  have HP : Hid (∀ wx i0 e0, (InsAt wx i0 0 len g ∧ i0 < wx.heap.size) → (EvAt wx e0 0 m eh ∧ e0 < wx.heap.size) → Calls Tryz.prog 10 #[.slice (some ⟨i0, 0, none⟩) len len, .slice (some ⟨e0, 0, none⟩) m m] wx (AnsK (kaN g len eh m) (fun i => ((8 * i : Nat) : Int)) (kaS g len eh) wx)) := fun wx i0 e0 hi he =>
    (implKeepAll_any i0 len len (some ⟨e0, 0, none⟩) m m g eh wx HM.out hi.2 hi.1 (.inr ⟨e0, 0, rfl, he.2, he.1⟩) hm).mono fun e w' h => by
      obtain ⟨D, cap, vs, rfl, o, b⟩ := h
      exact ⟨D, cap, vs, rfl, o.mono fun k h1 h2 => ⟨h1, h2⟩, b⟩
  have hSL := ka_len g len eh m
  generalize kaN g len eh m = nn at *
  generalize kaS g len eh = S at *
  generalize (fun i : Nat => ((8 * i : Nat) : Int)) = N at *
  have hsum := ka_sum hSL.2
  have HNN : Hid (nn ≤ 1048576) := by show nn ≤ 1048576; omega
  have HL : Hid (∀ i, i < nn → (S i).rs.length ≤ 1048576 ∧ (S i).os.length ≤ 1048576) := fun i hi => by have := hSL.2 i hi; omega
  have HQ : Hid (sumL (lenS S) nn ≤ 1048576) := by show sumL (lenS S) nn ≤ 1048576; omega
  clear hs hSL hsum
  go_enter Tryz.func3, Tryz.ntmps3
  go_wp2_with fail
  refine (szInsS_small _ _ _ _ hl).mono ?_
  rintro e w0 ⟨rfl, rfl⟩
  go_wp2_with fail
  refine (szEventS_small _ _ _ _ _ hm' (by omega)).mono ?_
  rintro e w1 ⟨rfl, rfl⟩
  go_wp2_with fail
  clear n1 n2 hm'
  refine (HT.out _ (Below.refl _ _)).mono ?_
  rintro e w3 ⟨rfl, i3, z3, b3, -⟩
  have I3 : Hid (InsAt w3 w1.heap.size 0 len g ∧ w1.heap.size < w3.heap.size) := ⟨i3, z3⟩
  have B3 : Hid (Below w1.heap.size w1 w3) := b3
  clear i3 z3 b3
  go_wp2_with fail
  refine (HU.out _ B3.out).mono ?_
  rintro e w4 ⟨rfl, i4, z4, b4, -⟩
  have I4 : Hid (InsAt w4 w1.heap.size 0 len g ∧ w1.heap.size < w4.heap.size) := ⟨I3.out.1.below b4 I3.out.2, Nat.lt_of_lt_of_le I3.out.2 b4.size⟩
  have E4 : Hid (EvAt w4 w3.heap.size 0 m eh ∧ w3.heap.size < w4.heap.size) := ⟨i4, z4⟩
  have B4 : Hid (Below w1.heap.size w1 w4) := B3.out.trans (b4.mono B3.out.size)
  clear i4 z4 b4 B3 I3
  go_wp2_with fail
  refine (HS.out _ _ _ I4.out E4.out).mono ?_
  rintro e w5 ⟨D1, c1, vs5, rfl, o5, b5⟩
  have B5 : Hid (Below w1.heap.size w1 w5) := B4.out.trans (b5.mono B4.out.size)
  have O5 : Hid (∃ vs, OKB w5 (fun k => w4.heap.size ≤ k ∧ k < w5.heap.size) D1 nn N vs S) := ⟨vs5, o5⟩
  have Z5 : Hid (w1.heap.size ≤ w4.heap.size ∧ w4.heap.size ≤ w5.heap.size) := ⟨B4.out.size, b5.size⟩
  clear o5 b5 B4 I4 E4
  go_wp2_with fail
  refine (HT.out _ B5.out).mono ?_
  rintro e w6 ⟨rfl, i6, z6, b6, f6⟩
  have B6 : Hid (Below w1.heap.size w1 w6) := B5.out.trans (b6.mono B5.out.size)
  have O6 : Hid (∃ vs, OKB w6 (fun k => w4.heap.size ≤ k ∧ k < w5.heap.size) D1 nn N vs S) := by
    obtain ⟨vs, o⟩ := O5.out
    exact ⟨vs, o.below b6⟩
  have I6 : Hid (Ix w6 w5.heap.size len g) := ⟨i6, f6, z6⟩
  clear i6 b6 f6 B5 O5
  go_wp2_with fail
  refine (HU.out _ B6.out).mono ?_
  rintro e w7 ⟨rfl, i7, z7, b7, f7⟩
  have B7 : Hid (Below w1.heap.size w1 w7) := B6.out.trans (b7.mono B6.out.size)
  have O7 : Hid (∃ vs, OKB w7 (fun k => w4.heap.size ≤ k ∧ k < w5.heap.size) D1 nn N vs S) := by
    obtain ⟨vs, o⟩ := O6.out
    exact ⟨vs, o.below b7⟩
  have I7 : Hid (Ix w7 w5.heap.size len g) := I6.out.below b7
  have E7 : Hid (Ex w7 w6.heap.size m eh) := ⟨i7, f7, z7⟩
  clear i7 b7 f7 B6 O6 I6
  go_wp2_with fail
  refine (HP.out _ _ _ ⟨I7.out.at', I7.out.lt⟩ ⟨E7.out.at', E7.out.lt⟩).mono ?_
  rintro e w8 ⟨D2, c2, vs8, rfl, o8, b8⟩
  have ZA : Hid (w1.heap.size ≤ w4.heap.size ∧ w4.heap.size ≤ w5.heap.size ∧ w5.heap.size < w6.heap.size ∧ w6.heap.size < w7.heap.size ∧ w7.heap.size ≤ w8.heap.size) := ⟨Z5.out.1, Z5.out.2, z6, z7, b8.size⟩
  have Y8 : Hid (Kv w1 w8 w4.heap.size w5.heap.size D1 w5.heap.size w6.heap.size w7.heap.size w8.heap.size D2 len m nn g eh N S) := by
    obtain ⟨vs, o⟩ := O7.out
    exact ⟨B7.out.trans (b8.mono B7.out.size), ⟨vs, o.below b8⟩, I7.out.below b8, E7.out.below b8, ⟨vs8, o8⟩⟩
  clear o8 b8 B7 O7 I7 E7 z6 z7 Z5
  generalize w7.heap.size = M at *
  generalize w6.heap.size = E at *
  generalize w5.heap.size = A at *
  generalize w4.heap.size = B at *
  generalize hH : w8.heap.size = H at *
  clear hH
  go_wp2_with fail
  obtain ⟨va, p1⟩ := Y8.out.o1
  obtain ⟨vb, p2⟩ := Y8.out.o2
  refine (eqKeptS_own _ _ _ _ _ _ _ N S _ _ _ HNN.out HL.out p2 p1).mono ?_
  clear p1 p2
  rintro e w9 ⟨rfl, b9⟩
  have Y9 : Hid (Kv w1 w9 B A D1 A E M H D2 len m nn g eh N S) := Y8.out.below b9
  clear b9 Y8
  go_wp2_with fail
  refine (HT.out _ Y9.out.be).mono ?_
  rintro e w14 ⟨rfl, i14, z14, b14, -⟩
  have J14 : Hid (InsAt w14 w9.heap.size 0 len g ∧ w9.heap.size < w14.heap.size) := ⟨i14, z14⟩
  have Y14 : Hid (Kv w1 w14 B A D1 A E M H D2 len m nn g eh N S) := Y9.out.below b14
  clear i14 z14 b14 Y9
  go_wp2_with fail
  refine (eqInsS_same _ _ _ _ _ g _ hl Y14.out.ix.lt J14.out.2 Y14.out.ix.at' J14.out.1).mono ?_
  rintro e w15 ⟨rfl, b15⟩
  have Y15 : Hid (Kv w1 w15 B A D1 A E M H D2 len m nn g eh N S) := Y14.out.below b15
  clear b15 Y14 J14
  go_wp2_with fail
  refine (HU.out _ Y15.out.be).mono ?_
  rintro e w16 ⟨rfl, i16, z16, b16, -⟩
  have J16 : Hid (EvAt w16 w15.heap.size 0 m eh ∧ w15.heap.size < w16.heap.size) := ⟨i16, z16⟩
  have Y16 : Hid (Kv w1 w16 B A D1 A E M H D2 len m nn g eh N S) := Y15.out.below b16
  clear i16 z16 b16 Y15
  go_wp2_with fail
  refine (eqEventS_same _ _ _ _ _ eh _ hm Y16.out.ex.lt J16.out.2 Y16.out.ex.at' J16.out.1).mono ?_
  rintro e w17 ⟨rfl, b17⟩
  have Y17 : Hid (Kv w1 w17 B A D1 A E M H D2 len m nn g eh N S) := Y16.out.below b17
  clear b17 Y16 J16
  go_wp2_with fail
  refine (markInsS_any A len len 1 _ hl (by omega) (by omega) (Room.of_ins Y17.out.ix.at' Y17.out.ix.fr)).mono ?_
  rintro e w20 ⟨rfl, m20⟩
  have t20 := Tu.of_row m20
  have O20 : Hid (Below w1.heap.size w1 w20 ∧ (∃ vs, OKB w20 (fun k => B ≤ k ∧ k < A) D1 nn N vs S) ∧ Ex w20 E m eh ∧ ∃ vs, OKB w20 (fun k => M ≤ k ∧ k < H) D2 nn N vs S) := by
    obtain ⟨v1, p1⟩ := Y17.out.o1
    obtain ⟨v2, p2⟩ := Y17.out.o2
    have hz := ZA.out
    exact ⟨Y17.out.be.trans (t20.below Y17.out.be.size (by omega)), ⟨v1, p1.keep t20.size fun k h1 h2 => t20.block k h2 (.inl h1.2)⟩, Y17.out.ex.tu t20 (.inr (by omega)), ⟨v2, p2.keep t20.size fun k h1 h2 => t20.block k h2 (.inr (by have := h1.1; omega))⟩⟩
  clear Y17 m20 t20
  go_wp2_with fail
  have hkk : ¬ (1 + 5 * (len : Int) + 3 * m < 0) := by omega
  refine (markEventS_any E m m (1 + 5 * len) _ hm (by omega) (by omega) (RoomE.of_ev O20.out.2.2.1.at' O20.out.2.2.1.fr)).mono ?_
  rintro e w21 ⟨rfl, m21⟩
  have t21 := Tu.of_row m21
  have O21 : Hid (Below w1.heap.size w1 w21 ∧ (∃ vs, OKB w21 (fun k => B ≤ k ∧ k < A) D1 nn N vs S) ∧ ∃ vs, OKB w21 (fun k => M ≤ k ∧ k < H) D2 nn N vs S) := by
    obtain ⟨h0, ⟨v1, p1⟩, -, ⟨v2, p2⟩⟩ := O20.out
    have hz := ZA.out
    exact ⟨h0.trans (t21.below h0.size (by omega)), ⟨v1, p1.keep t21.size fun k h1 h2 => t21.block k h2 (.inl (by have := h1.2; omega))⟩, ⟨v2, p2.keep t21.size fun k h1 h2 => t21.block k h2 (.inr (by have := h1.1; omega))⟩⟩
  clear O20 m21 t21
  go_wp2_with fail
  clear hkk
  obtain ⟨-, ⟨va, p1⟩, ⟨vb, p2⟩⟩ := O21.out
  refine (eqKeptS_own _ _ _ _ _ _ _ N S _ _ _ HNN.out HL.out p2 p1).mono ?_
  clear p1 p2
  rintro e w23 ⟨rfl, b23⟩
  have O23 : Hid (Below w1.heap.size w1 w23 ∧ (∃ vs, OKB w23 (fun k => B ≤ k ∧ k < A) D1 nn N vs S) ∧ ∃ vs, OKB w23 (fun k => M ≤ k ∧ k < H) D2 nn N vs S) := by
    obtain ⟨h0, ⟨v1, p1⟩, ⟨v2, p2⟩⟩ := O21.out
    exact ⟨h0.trans (b23.mono h0.size), ⟨v1, p1.below b23⟩, ⟨v2, p2.below b23⟩⟩
  clear O21 b23
  go_wp2_with fail
  obtain ⟨-, -, ⟨vb, p2⟩⟩ := O23.out
  refine (markKeptS_own D2 c2 _ nn N vb S 1 w23 HNN.out HQ.out (by omega) (by omega) p2).mono ?_
  clear p2
  rintro e w24 ⟨rfl, o24, t24⟩
  have O24 : Hid (Below w1.heap.size w1 w24 ∧ (∃ vs, OKB w24 (fun k => B ≤ k ∧ k < A) D1 nn N vs S)) := by
    obtain ⟨h0, ⟨v1, p1⟩, -⟩ := O23.out
    have hz := ZA.out
    refine ⟨h0.trans ⟨t24.os, t24.tape, t24.output, t24.size, fun k hk => t24.block k (Nat.lt_of_lt_of_le hk h0.size) fun h => ?_⟩, ⟨v1, p1.keep t24.size fun k h1 h2 => t24.block k h2 fun h => ?_⟩⟩
    · have := h.1
      omega
    · have := h.1
      have := h1.2
      omega
  have P24 : Hid (∃ us, OKB w24 (fun k => M ≤ k ∧ k < H) D2 nn (fun i => (1 + (3 * i + sumL (lenS S) i : Nat))) us (fun i => mkSk ((1 + (3 * i + sumL (lenS S) i : Nat)) + 1) (S i))) := o24
  clear O23 o24 t24
  generalize hQ0 : 3 * nn + sumL (lenS S) nn = Q
  have HQ0 : Hid (3 * nn + sumL (lenS S) nn = Q) := hQ0
  clear hQ0
  have hq : ¬ (1 + (Q : Int) < 0) := by omega
  have hq9 : Q ≤ 4194304 := by have := HQ0.out; have := HQ.out; have := HNN.out; omega
  go_wp2_with fail
  obtain ⟨us, p2⟩ := P24.out
  refine (heldKeptS_own D2 c2 _ nn us S 1 w24 HNN.out HQ.out (by omega) (by omega) p2).mono ?_
  clear p2
  rintro e w25 ⟨rfl, b25⟩
  rw [HQ0.out]
  have O25 : Hid (Below w1.heap.size w1 w25 ∧ (∃ vs, OKB w25 (fun k => B ≤ k ∧ k < A) D1 nn N vs S)) := by
    obtain ⟨h0, ⟨v1, p1⟩⟩ := O24.out
    exact ⟨h0.trans (b25.mono h0.size), ⟨v1, p1.below b25⟩⟩
  have P25 : Hid (∃ us, OKB w25 (fun k => M ≤ k ∧ k < H) D2 nn (fun i => (1 + (3 * i + sumL (lenS S) i : Nat))) us (fun i => mkSk ((1 + (3 * i + sumL (lenS S) i : Nat)) + 1) (S i))) := by
    obtain ⟨us, p2⟩ := P24.out
    exact ⟨us, p2.below b25⟩
  clear O24 P24 b25
  go_wp2_with fail
  refine (HT.out _ O25.out.1).mono ?_
  rintro e w26 ⟨rfl, i26, z26, b26, -⟩
  have I26 : Hid (InsAt w26 w25.heap.size 0 len g ∧ w25.heap.size < w26.heap.size) := ⟨i26, z26⟩
  have O26 : Hid (Below w1.heap.size w1 w26 ∧ (∃ vs, OKB w26 (fun k => B ≤ k ∧ k < A) D1 nn N vs S)) := by
    obtain ⟨h0, ⟨v1, p1⟩⟩ := O25.out
    exact ⟨h0.trans (b26.mono h0.size), ⟨v1, p1.below b26⟩⟩
  have P26 : Hid (∃ us, OKB w26 (fun k => M ≤ k ∧ k < H) D2 nn (fun i => (1 + (3 * i + sumL (lenS S) i : Nat))) us (fun i => mkSk ((1 + (3 * i + sumL (lenS S) i : Nat)) + 1) (S i))) := by
    obtain ⟨us, p2⟩ := P25.out
    exact ⟨us, p2.below b26⟩
  clear O25 P25 i26 z26 b26
  go_wp2_with fail
  refine (HU.out _ O26.out.1).mono ?_
  rintro e w27 ⟨rfl, i27, z27, b27, -⟩
  have I27 : Hid (InsAt w27 w25.heap.size 0 len g ∧ w25.heap.size < w27.heap.size) := ⟨I26.out.1.below b27 I26.out.2, Nat.lt_of_lt_of_le I26.out.2 b27.size⟩
  have E27 : Hid (EvAt w27 w26.heap.size 0 m eh ∧ w26.heap.size < w27.heap.size) := ⟨i27, z27⟩
  have O27 : Hid (Below w1.heap.size w1 w27 ∧ (∃ vs, OKB w27 (fun k => B ≤ k ∧ k < A) D1 nn N vs S)) := by
    obtain ⟨h0, ⟨v1, p1⟩⟩ := O26.out
    exact ⟨h0.trans (b27.mono h0.size), ⟨v1, p1.below b27⟩⟩
  have P27 : Hid (∃ us, OKB w27 (fun k => M ≤ k ∧ k < H) D2 nn (fun i => (1 + (3 * i + sumL (lenS S) i : Nat))) us (fun i => mkSk ((1 + (3 * i + sumL (lenS S) i : Nat)) + 1) (S i))) := by
    obtain ⟨us, p2⟩ := P26.out
    exact ⟨us, p2.below b27⟩
  clear O26 P26 I26 i27 z27 b27
  go_wp2_with fail
  refine (HP.out _ _ _ I27.out E27.out).mono ?_
  rintro e w28 ⟨D3, c3, vs28, rfl, o28, b28⟩
  have O28 : Hid (Below w1.heap.size w1 w28 ∧ (∃ vs, OKB w28 (fun k => B ≤ k ∧ k < A) D1 nn N vs S)) := by
    obtain ⟨h0, ⟨v1, p1⟩⟩ := O27.out
    exact ⟨h0.trans (b28.mono h0.size), ⟨v1, p1.below b28⟩⟩
  have P28 : Hid (∃ us, OKB w28 (fun k => M ≤ k ∧ k < H) D2 nn (fun i => (1 + (3 * i + sumL (lenS S) i : Nat))) us (fun i => mkSk ((1 + (3 * i + sumL (lenS S) i : Nat)) + 1) (S i))) := by
    obtain ⟨us, p2⟩ := P27.out
    exact ⟨us, p2.below b28⟩
  have Q28 : Hid (OKB w28 (fun k => w27.heap.size ≤ k ∧ k < w28.heap.size) D3 nn N vs28 S) := o28
  clear O27 P27 I27 E27 o28 b28
  go_wp2_with fail
  obtain ⟨-, ⟨va, p1⟩⟩ := O28.out
  refine (eqKeptS_own _ _ _ _ _ _ _ N S _ _ _ HNN.out HL.out Q28.out p1).mono ?_
  clear p1
  rintro e w29 ⟨rfl, b29⟩
  have O29 : Hid (Below w1.heap.size w1 w29) := O28.out.1.trans (b29.mono O28.out.1.size)
  have P29 : Hid (∃ us, OKB w29 (fun k => M ≤ k ∧ k < H) D2 nn (fun i => (1 + (3 * i + sumL (lenS S) i : Nat))) us (fun i => mkSk ((1 + (3 * i + sumL (lenS S) i : Nat)) + 1) (S i))) := by
    obtain ⟨us, p2⟩ := P28.out
    exact ⟨us, p2.below b29⟩
  clear O28 P28 Q28 b29
  go_wp2_with fail
  obtain ⟨us, p2⟩ := P29.out
  refine (heldKeptS_own D2 c2 _ nn us S 1 w29 HNN.out HQ.out (by omega) (by omega) p2).mono ?_
  clear p2
  rintro e w30 ⟨rfl, b30⟩
  rw [HQ0.out]
  have O30 : Hid (Below w1.heap.size w1 w30) := O29.out.trans (b30.mono O29.out.size)
  clear O29 P29 b30
  go_wp2
  go_ret
  exact ⟨rfl, O30.out⟩

set_option maxRecDepth 100000 in
set_option maxHeartbeats 1000000 in
theorem keepAllLaw_great (a0 : Option Addr) (len cap : Nat) (e0 : Option Addr) (m ec : Nat) (w : World) (hl : len ≤ maxLen) (hm : m ≤ maxLen) (hs : 1048576 < (len : Int) + m) :
    Calls Tryz.prog 3 #[.slice a0 len cap, .slice e0 m ec] w fun e w' => e = .returned (.bool true) ∧ Below w.heap.size w w' := by
  by_cases h1 : len ≤ 1048576
  · have n1 : ¬ (1048576 - (len : Int) < 0) := by omega
    go_enter Tryz.func3, Tryz.ntmps3
    go_wp2_with fail
    refine (szInsS_small _ _ _ _ h1).mono ?_
    rintro e w0 ⟨rfl, rfl⟩
    go_wp2_with fail
    refine (szEventS_great _ _ _ _ _ (by omega) (by omega) (by omega) hm).mono ?_
    rintro e w1 ⟨rfl, rfl⟩
    go_wp2
    go_ret
    exact ⟨rfl, Below.refl _ _⟩
  · go_enter Tryz.func3, Tryz.ntmps3
    go_wp2_with fail
    refine (szInsS_great _ _ _ _ (by omega) hl).mono ?_
    rintro e w0 ⟨rfl, rfl⟩
    go_wp2
    go_ret
    exact ⟨rfl, Below.refl _ _⟩

end Go.Proofs.YtkoghgnbolaooaaGreat
