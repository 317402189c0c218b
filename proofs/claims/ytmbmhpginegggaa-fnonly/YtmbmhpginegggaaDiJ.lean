/- The program's Do: what it leaves, for every program, state and event in memory. -/
import Derived.Test.YtmbmhpginegggaaDiI
namespace Go.Proofs.Ytmbmhpginegggaa
open Go.RowKit

theorem jump_to {x : I5} {len : Nat} (h : insOkB x.o x.r x.a x.b x.n len 4 = true) (h9 : x.o = 9 ∨ x.o = 10) : belB x.n len = true := by
  simp only [insOkB, Bool.and_eq_true] at h
  have h5 := h.2
  unfold opOkB at h5
  rcases h9 with h9 | h9 <;> (rw [h9] at h5; simp [belB] at h5 ⊢; omega)

theorem doIn_any (b off len cap : Nat) (g : Nat → I5) (p code : Int) (ra oa : Option Addr) (rc oc : Nat) (rs os : List Int) (ek eq ev : Int) (w : World) (hlen : len ≤ maxLen) (hb : b < w.heap.size) (hI : InsAt w b off len g) (hr : rs.length ≤ 1048576) (ho : os.length ≤ 1048576) (h1 : Sl w ra rs) (h2 : Sl w oa os) (hP : progOkB g len 4 = true) :
    Calls Try.prog 40 #[.slice (some ⟨b, off, none⟩) len cap, stV p ra rs.length rc oa os.length oc code, evV ek eq ev] w (DoneR w (doS g len p rs os code ek eq ev) (doB g len p rs os code ek eq ev)) := by
  rcases Bool.eq_false_or_eq_true (doB g len p rs os code ek eq ev) with hB | hB
  case inr =>
    have hS : doS g len p rs os code ek eq ev = ⟨p, rs, os, code⟩ := by
      unfold doS
      rw [if_neg (by rw [hB]; decide)]
    rw [hB, hS]
    exact doIn_no b off len cap g p code ra oa rc oc rs os ek eq ev w hlen hb hI hr ho h1 h2 hB hP
  have hR := doB_right hB
  obtain ⟨hp, hs, rfl⟩ := right_parts hR
  obtain ⟨⟨a1, a2, a3, a4, rfl, n1, n2, n3, n4⟩, ⟨k, rfl, hk⟩, h60, -⟩ := st_parts hs
  have hS : doS g len k [a1, a2, a3, a4] os 0 ek eq ev = doneS len (g k) k [a1, a2, a3, a4] os 0 ev := by
    unfold doS
    rw [if_pos hB, Int.toNat_natCast]
  rw [hB, hS]
  have hl : (len : Int) ≤ 30 := by
    simp only [progOkB, Bool.and_eq_true] at hp
    have := hp.2.1
    simp [inB] at this
    omega
  have hins := right_ins hp hk
  obtain ⟨⟨o1, o11⟩, ⟨r0, r3⟩, ⟨m0, m3⟩, ⟨q0, q3⟩⟩ := ins_range hins
  have hn : numB a1 = true ∧ numB a2 = true ∧ numB a3 = true ∧ numB a4 = true := ⟨n1, n2, n3, n4⟩
  have hz : ∀ j, j < 4 → numB (zi [a1, a2, a3, a4] j) = true := fun j hj => by
    match j, hj with
    | 0, _ => exact n1
    | 1, _ => exact n2
    | 2, _ => exact n3
    | 3, _ => exact n4
  have hj : (g k).r = ((g k).r.toNat : Int) ∧ (g k).a = ((g k).a.toNat : Int) ∧ (g k).b = ((g k).b.toNat : Int) := ⟨by omega, by omega, by omega⟩
  have j4 : (g k).r.toNat < 4 ∧ (g k).a.toNat < 4 ∧ (g k).b.toNat < 4 := ⟨by omega, by omega, by omega⟩
  rcases opCases (g k).o with h | h | h | h | h | h | h | h | h | h | h | h
  · omega
  · exact do_set b off len cap k g ra oa rc oc a1 a2 a3 a4 os ek eq ev w _ _ _ hj j4 hn hz hl hb hI h60 h1 h2 hk hB h
  · exact do_add b off len cap k g ra oa rc oc a1 a2 a3 a4 os ek eq ev w _ _ _ hj j4 hn hz hl hb hI h60 h1 h2 hk hB h
  · exact do_sub b off len cap k g ra oa rc oc a1 a2 a3 a4 os ek eq ev w _ _ _ hj j4 hn hz hl hb hI h60 h1 h2 hk hB h
  · exact do_mul b off len cap k g ra oa rc oc a1 a2 a3 a4 os ek eq ev w _ _ _ hj j4 hn hz hl hb hI h60 h1 h2 hk hB h
  · by_cases hlt : zi [a1, a2, a3, a4] (g k).a.toNat < zi [a1, a2, a3, a4] (g k).b.toNat
    · exact do_less_yes b off len cap k g ra oa rc oc a1 a2 a3 a4 os ek eq ev w _ _ _ hj j4 hn hz hl hb hI h60 h1 h2 hk hB h hlt
    · exact do_less_no b off len cap k g ra oa rc oc a1 a2 a3 a4 os ek eq ev w _ _ _ hj j4 hn hz hl hb hI h60 h1 h2 hk hB h hlt
  · exact do_send b off len cap k g ra oa rc oc a1 a2 a3 a4 os ek eq ev w _ _ _ hj j4 hn hz hl hb hI h60 h1 h2 hk hB h
  · have hv : numB ev = true := by
      have hc := hB
      unfold doB nxK at hc
      rw [if_pos hR, Int.toNat_natCast, h, show evK 7 = 3 from rfl, canB_take] at hc
      simp only [Bool.and_eq_true] at hc
      exact hc.1.2
    exact do_take b off len cap k g ra oa rc oc a1 a2 a3 a4 os ek eq ev w _ _ _ hj j4 hn hz hl hb hI h60 h1 h2 hk hB h hv
  · exact do_print b off len cap k g ra oa rc oc a1 a2 a3 a4 os ek eq ev w _ _ _ hj j4 hn hz hl hb hI h60 h1 h2 hk hB h
  · exact do_jump b off len cap k g ra oa rc oc a1 a2 a3 a4 os ek eq ev w _ _ _ hj j4 hn hz hl hb hI h60 h1 h2 hk hB h (jump_to hins (.inl h))
  · by_cases hz0 : zi [a1, a2, a3, a4] (g k).a.toNat = 0
    · exact do_zero_yes b off len cap k g ra oa rc oc a1 a2 a3 a4 os ek eq ev w _ _ _ hj j4 hn hz hl hb hI h60 h1 h2 hk hB h (jump_to hins (.inr h)) hz0
    · exact do_zero_no b off len cap k g ra oa rc oc a1 a2 a3 a4 os ek eq ev w _ _ _ hj j4 hn hz hl hb hI h60 h1 h2 hk hB h hz0
  · exact do_end b off len cap k g ra oa rc oc a1 a2 a3 a4 os ek eq ev w _ _ _ hj j4 hn hz hl hb hI h60 h1 h2 hk hB h

set_option maxRecDepth 100000 in
set_option maxHeartbeats 1000000 in
/-- The program's Do, for every program, state and event in memory. -/
theorem implDo_any (b off len cap : Nat) (g : Nat → I5) (p code : Int) (ra oa : Option Addr) (rc oc : Nat) (rs os : List Int) (ek eq ev : Int) (w : World) (hlen : len ≤ maxLen) (hb : b < w.heap.size) (hI : InsAt w b off len g) (hr : rs.length ≤ 1048576) (ho : os.length ≤ 1048576) (h1 : Sl w ra rs) (h2 : Sl w oa os) :
    Calls Try.prog 9 #[.slice (some ⟨b, off, none⟩) len cap, stV p ra rs.length rc oa os.length oc code, evV ek eq ev] w (DoneR w (doS g len p rs os code ek eq ev) (doB g len p rs os code ek eq ev)) := by
  have HI : Hid (InsAt w b off len g) := hI
  have H1 : Hid (Sl w ra rs) := h1
  have H2 : Hid (Sl w oa os) := h2
  have HL : Hid (len ≤ maxLen) := hlen
  clear hI h1 h2 hlen
  rcases Bool.eq_false_or_eq_true (progOkB g len 4) with t2 | t2
  · have HP : Hid (progOkB g len 4 = true) := t2
    generalize hT : doB g len p rs os code ek eq ev = T
    generalize hS : doS g len p rs os code ek eq ev = S
    have HN : Hid (doS g len p rs os code ek eq ev = S ∧ doB g len p rs os code ek eq ev = T) := ⟨hS, hT⟩
    clear hT hS
    go_enter Try.func9, Try.ntmps9
    go_wp2_with fail
    have X := DoBox.new w (.int .i64 p) (.slice ra rs.length rc) (.slice oa os.length oc) (.int .i64 code) ek eq ev 27 29 27
    have BW : Hid (Below w.heap.size w (((w.alloc (.cells #[.int .i64 p, .slice ra rs.length rc, .slice oa os.length oc, .int .i64 code] 27)).alloc (.cells #[.int .i64 ek, .int .i64 eq, .int .i64 ev] 29)).alloc (.cells #[.int .i64 0, .slice none 0 0, .slice none 0 0, .int .i64 0] 27))) := by
      show Below _ _ _
      go_grown
    generalize (((w.alloc (.cells #[.int .i64 p, .slice ra rs.length rc, .slice oa os.length oc, .int .i64 code] 27)).alloc (.cells #[.int .i64 ek, .int .i64 eq, .int .i64 ev] 29)).alloc (.cells #[.int .i64 0, .slice none 0 0, .slice none 0 0, .int .i64 0] 27)) = W at *
    refine (implProgOk_any b off len cap g 4 W HL.out (Nat.lt_of_lt_of_le hb BW.out.size) (HI.out.below BW.out hb)).mono ?_
    rintro e w3 ⟨rfl, b3⟩
    have B3 : Hid (Below w.heap.size w w3) := BW.out.trans (b3.mono BW.out.size)
    have X3 := X.below b3
    have l3 := X3.lt
    clear b3 BW X
    obtain ⟨p0, p1, p2, p3, e0, e1, e2, r0, r1, r2, r3, rf⟩ := X3
    go_wp2_with fail
    refine (doIn_any b off len cap g p code ra oa rc oc rs os ek eq ev _ HL.out (Nat.lt_of_lt_of_le hb B3.out.size) (HI.out.below B3.out hb) hr ho (H1.out.below B3.out) (H2.out.below B3.out) HP.out).mono ?_
    rintro e w4 hd
    rw [HN.out.1, HN.out.2] at hd
    obtain ⟨v, rfl, o4, b4⟩ := hd
    obtain ⟨ra2, rc2, oa2, oc2, rfl, -, -⟩ := o4.read
    obtain ⟨hc4, hf4⟩ := bcell b4
    have O4 : Hid (StOwn w4 w3.heap.size (stV S.p ra2 S.rs.length rc2 oa2 S.os.length oc2 S.c) S.p S.rs S.os S.c) := o4
    have B4 : Hid (Below w.heap.size w w4) := B3.out.trans (b4.mono B3.out.size)
    clear o4 b4
    go_wp2
    refine bodyPost_ret (v := .tuple #[stV S.p ra2 S.rs.length rc2 oa2 S.os.length oc2 S.c, .bool T]) (by simp [results, Try.results9, go_sem, hc4, l3, r0, r1, r2, r3]) rfl ⟨_, rfl, ?_, ?_⟩
    · exact StOwn.put4 (B' := w3.heap.size) O4.out l3 (by omega)
    · have := B4.out
      go_grown
  · have hB : doB g len p rs os code ek eq ev = false := by
      rcases Bool.eq_false_or_eq_true (doB g len p rs os code ek eq ev) with hB | hB
      · have := (right_parts (doB_right hB)).1
        rw [t2] at this
        cases this
      · exact hB
    have hS : doS g len p rs os code ek eq ev = ⟨p, rs, os, code⟩ := by
      unfold doS
      rw [if_neg (by rw [hB]; decide)]
    rw [hB, hS]
    clear hB hS
    go_enter Try.func9, Try.ntmps9
    go_wp2_with fail
    have X := DoBox.new w (.int .i64 p) (.slice ra rs.length rc) (.slice oa os.length oc) (.int .i64 code) ek eq ev 27 29 27
    have BW : Hid (Below w.heap.size w (((w.alloc (.cells #[.int .i64 p, .slice ra rs.length rc, .slice oa os.length oc, .int .i64 code] 27)).alloc (.cells #[.int .i64 ek, .int .i64 eq, .int .i64 ev] 29)).alloc (.cells #[.int .i64 0, .slice none 0 0, .slice none 0 0, .int .i64 0] 27))) := by
      show Below _ _ _
      go_grown
    generalize (((w.alloc (.cells #[.int .i64 p, .slice ra rs.length rc, .slice oa os.length oc, .int .i64 code] 27)).alloc (.cells #[.int .i64 ek, .int .i64 eq, .int .i64 ev] 29)).alloc (.cells #[.int .i64 0, .slice none 0 0, .slice none 0 0, .int .i64 0] 27)) = W at *
    refine (implProgOk_any b off len cap g 4 W HL.out (Nat.lt_of_lt_of_le hb BW.out.size) (HI.out.below BW.out hb)).mono ?_
    rintro e w3 ⟨rfl, b3⟩
    have B3 : Hid (Below w.heap.size w w3) := BW.out.trans (b3.mono BW.out.size)
    have X3 := X.below b3
    have l3 := X3.lt
    clear b3 BW X
    obtain ⟨p0, p1, p2, p3, e0, e1, e2, r0, r1, r2, r3, rf⟩ := X3
    go_wp2_with fail
    refine (copyState_any p code ra oa rc oc rs os _ hr ho (H1.out.below B3.out) (H2.out.below B3.out)).mono ?_
    rintro e w4 ⟨v, rfl, o4, b4⟩
    obtain ⟨ra2, rc2, oa2, oc2, rfl, -, -⟩ := o4.read
    obtain ⟨hc4, hf4⟩ := bcell b4
    have O4 : Hid (StOwn w4 w3.heap.size (stV p ra2 rs.length rc2 oa2 os.length oc2 code) p rs os code) := o4
    have B4 : Hid (Below w.heap.size w w4) := B3.out.trans (b4.mono B3.out.size)
    clear o4 b4
    go_wp2
    refine bodyPost_ret (v := .tuple #[stV p ra2 rs.length rc2 oa2 os.length oc2 code, .bool false]) (by simp [results, Try.results9, go_sem, hc4, l3, r0, r1, r2, r3]) rfl ⟨_, rfl, ?_, ?_⟩
    · exact StOwn.put4 (B' := w3.heap.size) O4.out l3 (by omega)
    · have := B4.out
      go_grown

end Go.Proofs.Ytmbmhpginegggaa
