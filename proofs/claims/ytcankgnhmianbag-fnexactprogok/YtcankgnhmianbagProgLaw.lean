/- Proved: called with whatever list of places and count of processes, the program's ProgOk answers as the model's ProgOk, and writes into no argument. No condition. -/
import Derived.Test.YtcankgnhmianbagProgB
import Derived.Test.YtcankgnhmianbagInsLaw
import Derived.Deep.Slices
namespace Go.Proofs.Ytcankgnhmianbag
open Go.ChangeShapes Go.WideShapes Go.ChangeAt Go.RowKit

theorem below_mid {w w1 w2 : World} {B : Nat} (h1 : Below B w w1) (h2 : Below w1.heap.size w1 w2) (hB : B ≤ w1.heap.size) : Below B w w2 := h1.trans (h2.mono hB)

/-- What toInsS does with this list, whatever has been made since. -/
def Copies (w : World) (a0 : Option Addr) (len cap : Nat) (g : Nat → I5) : Prop := ∀ wx, Below w.heap.size w wx →
  Calls Try.prog 10 #[.slice a0 len cap] wx fun e w' => e = .returned (.slice (some ⟨wx.heap.size, 0, none⟩) len len) ∧ InsAt w' wx.heap.size 0 len g ∧ wx.heap.size < w'.heap.size ∧ Below wx.heap.size wx w'

set_option maxRecDepth 100000 in
set_option maxHeartbeats 1000000 in
theorem progLaw_small (a0 : Option Addr) (len cap : Nat) (g : Nat → I5) (procs : Int) (w : World) (hlen : len ≤ 1048576) (HT : Hid (Copies w a0 len cap g)) :
    Calls Try.prog 4 #[.slice a0 len cap, .int .i64 procs] w fun e w' => e = .returned (.bool true) ∧ Below w.heap.size w w' := by
  have hm : len ≤ maxLen := by unfold maxLen; omega
  have hl' : (len : Int) ≤ 1048576 := by omega
  have hl0 : ¬ (1048576 - (len : Int) < 0) := by omega
  go_enter Try.func4, Try.ntmps4
  go_wp2_with fail
  refine (szInsS_small _ _ _ _ hlen).mono ?_
  rintro e w0 ⟨rfl, rfl⟩
  go_wp2_with fail
  refine (HT.out _ (Below.refl _ _)).mono ?_
  rintro e w1 ⟨rfl, hi1, hz1, hb1⟩
  go_wp2_with fail
  refine (specProgOk_any _ _ _ _ g _ _ hm hz1 hi1).mono ?_
  rintro e w2 ⟨rfl, hb2⟩
  clear hi1
  have hs2 := hb2.size
  have B2 := below_mid hb1 hb2 (Nat.le_of_lt hz1)
  clear hb1 hb2
  go_wp2_with fail
  refine (HT.out _ B2).mono ?_
  rintro e w3 ⟨rfl, hi3, hz3, hb3⟩
  have HI3 : Hid (InsAt w3 w2.heap.size 0 len g) := hi3
  have B3 := below_mid B2 hb3 (by omega)
  clear hi3 hb3 B2
  go_wp2_with fail
  refine (implProgOk_any _ _ _ _ g _ _ hm hz3 HI3.out).mono ?_
  rintro e w4 ⟨rfl, hb4⟩
  have hs4 := hb4.size
  have B4 := below_mid B3 hb4 (by omega)
  have HI4 : Hid (InsAt w4 w2.heap.size 0 len g) := HI3.out.below hb4 hz3
  clear HI3 B3 hb4
  go_wp2_with fail
  refine (HT.out _ B4).mono ?_
  rintro e w5 ⟨rfl, hi5, hz5, hb5⟩
  have HI5 : Hid (InsAt w5 w4.heap.size 0 len g) := hi5
  have HJ5 : Hid (InsAt w5 w2.heap.size 0 len g) := HI4.out.below hb5 (by omega)
  have B5 := below_mid B4 hb5 (by omega)
  clear hi5 HI4 B4 hb5
  go_wp2_with fail
  refine (eqInsS_same _ _ _ _ _ g _ hlen (by omega) hz5 HJ5.out HI5.out).mono ?_
  rintro e w6 ⟨rfl, hb6⟩
  have B6 := below_mid B5 hb6 (by omega)
  clear HJ5 HI5 B5 hb6
  go_wp2
  go_ret
  exact ⟨rfl, B6⟩

set_option maxHeartbeats 1000000 in
theorem progLaw_great (a0 : Option Addr) (len cap : Nat) (procs : Int) (w : World) (hlen : 1048576 < len) (hm : len ≤ maxLen) :
    Calls Try.prog 4 #[.slice a0 len cap, .int .i64 procs] w fun e w' => e = .returned (.bool true) ∧ Below w.heap.size w w' := by
  go_enter Try.func4, Try.ntmps4
  go_wp2_with fail
  refine (szInsS_great _ _ _ _ hlen hm).mono ?_
  rintro e w0 ⟨rfl, rfl⟩
  go_wp2
  go_ret
  exact ⟨rfl, Below.refl _ _⟩

theorem addr_add (b off j : Nat) : Addr.add ⟨b, off, none⟩ j = ⟨b, off + j, none⟩ := by
  unfold Addr.add
  by_cases h : j = 0
  · rw [if_pos h, h, Nat.add_zero]
  · rw [if_neg h]

theorem cell_lt {w : World} {p : Addr} {v : Value} (h : w.cell? p = some v) : p.block < w.heap.size := by
  apply Classical.byContradiction
  intro hn
  have e : w.heap[p.block]? = none := by simp; omega
  simp [World.cell?, e] at h

/-- A list of places that came in: empty, or a row in memory. -/
theorem open_insRow {H : Type} {enc : TypeId × Value → H} {w : World} {spare : Nat → Bool} {held : Bool} {base : Nat} {a0 : Option Addr} {len cap : Nat} {d : DataW H} {p : List MemPlace}
    (h : DataW.Trod enc Try.prog w base spare held 28 (.slice a0 len cap) d p) :
    len ≤ maxLen ∧ (len = 0 ∨ ∃ b off g, a0 = some ⟨b, off, none⟩ ∧ b < w.heap.size ∧ InsAt w b off len g) := by
  obtain ⟨fuel, hf⟩ := h
  rcases Go.Deep.open_slice Try.underlying28 hf with ⟨hcs, _⟩ | ⟨a, len', cap', m, n, D, Pl, hcs, _, hl, hm, hmm, _, hx⟩
  · simp [Value.cells] at hcs
    obtain ⟨_, rfl, _⟩ := hcs
    exact ⟨Nat.zero_le _, .inl rfl⟩
  · simp [Value.cells] at hcs
    obtain ⟨rfl, rfl, rfl⟩ := hcs
    refine ⟨Nat.le_trans hl hm, ?_⟩
    by_cases h0 : len = 0
    · exact .inl h0
    right
    have hle : len ≤ m := by rw [hmm]; split <;> omega
    rw [cellsLawIns] at hx
    obtain ⟨b, off, spot⟩ := a
    have hcell : ∀ i, i < len → ∃ x : I5, w.cell? (Addr.add (Addr.add ⟨b, off, spot⟩ (i * 5)) 0) = some (.int .i64 x.o) ∧ w.cell? (Addr.add (Addr.add ⟨b, off, spot⟩ (i * 5)) 1) = some (.int .i64 x.r) ∧ w.cell? (Addr.add (Addr.add ⟨b, off, spot⟩ (i * 5)) 2) = some (.int .i64 x.a) ∧ w.cell? (Addr.add (Addr.add ⟨b, off, spot⟩ (i * 5)) 3) = some (.int .i64 x.b) ∧ w.cell? (Addr.add (Addr.add ⟨b, off, spot⟩ (i * 5)) 4) = some (.int .i64 x.n) := by
      intro i hi
      obtain ⟨cs', h1, h2⟩ := hx i (by omega)
      obtain ⟨_, hlen, hc⟩ := World.cells?_some h1
      match cs', hlen with
      | [c0, c1, c2, c3, c4], _ =>
        obtain ⟨o, r, a, b, n, rfl, rfl, rfl, rfl, rfl⟩ := open_insCells h2
        exact ⟨⟨o, r, a, b, n⟩, hc 0 (by omega), hc 1 (by omega), hc 2 (by omega), hc 3 (by omega), hc 4 (by omega)⟩
    have hspot : spot = none := by
      obtain ⟨x, hx0, _⟩ := hcell 0 (by omega)
      simpa [Addr.add] using World.cell?_spot hx0
    subst hspot
    have inh : Inhabited I5 := ⟨⟨0, 0, 0, 0, 0⟩⟩
    obtain ⟨g, hg⟩ := Go.Deep.choose_lt (α := I5) hcell
    have hI : InsAt w b off len g := by
      intro i hi
      obtain ⟨q0, q1, q2, q3, q4⟩ := hg i hi
      rw [addr_add, addr_add] at q0 q1 q2 q3 q4
      exact ⟨q0, q1, q2, q3, q4⟩
    exact ⟨b, off, g, rfl, cell_lt (hI 0 (by omega)).1, hI⟩

set_option maxRecDepth 100000 in
theorem progLifted (os : Os) (started : os.Started) (H : Type) (enc : TypeId × Value → H) :
    ReturnsInHanded {} Try.checked os 4 .any (Rows.fnExactProgOkSpec.pre6 enc Try.prog Try.f4 Rows.fnExactProgOkRow.domain false) (Rows.fnExactProgOkSpec.post enc Try.prog Try.f4 false true false false) := by
  refine returnsInHanded_of_change (C := Try.checked) Try.own started (by kernel_rfl) Try.func4
    (ChangeSpec.witness6 (enc := enc) (C := Try.checked) false ⟨#[], #[.slice none 0 0, .int .i64 0], []⟩ 8 (by kernel_rfl) (by kernel_rfl) (by kernel_rfl) (by kernel_rfl)) ?_
  intro W base args ds gs before hval0 hW _ _
  have hval : ∀ (j : Nat) t v, Try.f4.params[j]? = some t → args[j]? = some v → Value.okWide Try.prog W .any base t v := hval0
  have hW' := hW
  obtain ⟨p, q, hA0, hV, rfl, hfz, hnd⟩ := hW
  have hA : DataW.TrodAll enc Try.prog W 0 (fun _ => true) true Try.f4.params.toList args.toList ds p := hA0
  rw [Try.params4] at hA hval
  obtain ⟨v0, v1, d0, d1, p0, p1, rfl, rfl, rfl, h0, h1⟩ := trodAll_two hA
  obtain ⟨rfl, rfl⟩ := trodVars_none hV
  obtain ⟨a0, len, cap, rfl⟩ := okWide_slice Try.underlying28 (hval 0 28 v0 rfl rfl)
  obtain ⟨procs, rfl, rfl, rfl, w1⟩ := open_int Try.underlying3 (hval 1 3 v1 rfl rfl) h1
  have lt0 : ∀ x ∈ p0, x.block < W.heap.size := by obtain ⟨m, hm⟩ := h0; exact DataW.trod_lt m _ _ _ hm
  clear hA0 hval0
  have hlaw : Calls Try.prog 4 #[.slice a0 len cap, .int .i64 procs] W fun e w' => e = .returned (.bool true) ∧ Below W.heap.size W w' := by
    obtain ⟨hm, hr⟩ := open_insRow h0
    by_cases hl : len ≤ 1048576
    · rcases hr with rfl | ⟨b, off, g, rfl, hb, hI⟩
      · exact progLaw_small a0 0 cap (fun _ => ⟨0, 0, 0, 0, 0⟩) procs W hl (fun wx _ => toInsS_empty a0 cap _ wx)
      · exact progLaw_small _ len cap g procs W hl (fun wx hB => toInsS_any b off len cap g wx hl (Nat.lt_of_lt_of_le hb hB.size) (hI.below hB hb))
    · exact progLaw_great a0 len cap procs W (by omega) hm
  refine hlaw.mono fun e W' ⟨he, bel⟩ => ?_
  subst he
  exact ⟨_, rfl, _, _, _, [], _, [], hW', trodAll_mk1 (shut_bool Try.underlying4 _), (trodAll_cons_mk (Below.trod Try.laidOut (by kernel_rfl) (of_decide_eq_true (by kernel_rfl)) h0 bel lt0) (trodAll_cons_mk (shut_int Try.underlying3 w1) trodAll_mk0)), rfl, bel.frame _, fun h => by cases h⟩

theorem progOk_holds : Rows.FnExactProgOkSaid :=
  OpenClaim.holds_of_wide 4 Try.f4 rfl rfl rfl rfl rfl rfl rfl ⟨rfl, rfl, rfl, rfl, rfl⟩ rfl rfl rfl rfl rfl (by kernel_rfl) Try.func4 (by kernel_rfl)
    (of_decide_eq_true (by kernel_rfl)) (by unfold Func.isWrapper; first | (rw [if_pos (by decide +kernel)]; kernel_rfl) | (rw [if_neg (by decide +kernel)]; exact ⟨rfl, rfl⟩))
    (fun os started H enc _ => progLifted os started H enc)

end Go.Proofs.Ytcankgnhmianbag
