/- The walk of the program's Next where the program and the state are right. -/
import Derived.Test.YtcmmlklanjhfoaaGreatDoorGa14
import Derived.Test.YtcmmlklanjhfoaaGreatDoorGa9
namespace Go.Proofs.YtcmmlklanjhfoaaGreatDoor
open Go.RowKit

theorem canB_take (np nv k p v : Int) : canB 3 np nv k p v = ((k == 3) && numB v && (if np = 9 then belB p 4 else p == np)) := by
  unfold canB
  rw [if_pos rfl]
theorem canB_other {nk : Int} (h3 : nk ≠ 3) (h0 : nk ≠ 0) (np nv k p v : Int) : canB nk np nv k p v = evEqB k p v nk np nv := by
  unfold canB evEqB
  rw [if_neg h3]
  have : (nk != 0) = true := by simp [h0]
  rw [this, Bool.true_and]
theorem evEqB_true {a b c a' b' c' : Int} (h : evEqB a b c a' b' c' = true) : a = a' ∧ b = b' ∧ c = c' := by
  simpa [evEqB] using h
theorem take_from {x : I5} {len : Int} (h : insOkB x.o x.r x.a x.b x.n len 4 = true) (h7 : x.o = 7) : x.n = 9 ∨ (0 ≤ x.n ∧ x.n ≤ 3) := by
  simp only [insOkB, Bool.and_eq_true] at h
  have h5 := h.2
  unfold opOkB at h5
  rw [h7] at h5
  simp [inB] at h5
  omega

/-- What the model's l2Do leaves: the answer of doS, in memory of its own. -/
def DoneR (w : World) (s : S4) (t : Bool) (e : Ending) (w' : World) : Prop := ∃ v, e = .returned (.tuple #[v, .bool t]) ∧ StOwn w' w.heap.size v s.p s.rs s.os s.c ∧ Below w.heap.size w w'

set_option maxHeartbeats 1000000 in
theorem l2Do_any (b off len cap k : Nat) (g : Nat → I5) (ra oa : Option Addr) (rc oc : Nat) (rs os : List Int) (ek eq ev : Int) (w : World) (hb : b < w.heap.size) (hI : InsAt w b off len g) (h1 : Sl w ra rs) (h2 : Sl w oa os) (hR : rightB g len (k : Int) rs os 0 = true) :
    Calls Tryz.prog 33 #[.slice (some ⟨b, off, none⟩) len cap, stV k ra rs.length rc oa os.length oc 0, evV ek eq ev] w (DoneR w (doS g len k rs os 0 ek eq ev) (doB g len k rs os 0 ek eq ev)) := by
  obtain ⟨hp, hs, -⟩ := right_parts hR
  obtain ⟨⟨r0, r1, r2, r3, hrs, hn0, hn1, hn2, hn3⟩, ⟨k', hkk, hk'⟩, h60, hall⟩ := st_parts hs
  obtain rfl : k = k' := by omega
  have hk := hk'
  have h4 : rs.length = 4 := by rw [hrs]; rfl
  have hnum : allN rs = true := by rw [hrs]; simp [allN, hn0, hn1, hn2, hn3]
  have hl : (len : Int) ≤ 30 := by
    simp only [progOkB, Bool.and_eq_true] at hp
    have := hp.2.1
    simp [inB] at this
    omega
  have hins := right_ins hp hk
  obtain ⟨⟨o1, o11⟩, -⟩ := ins_range hins
  have hN : ∀ K P V, evK (g k).o = K → evP (g k).o (g k).n = P → evW (g k).o (g k).a rs = V → doB g len k rs os 0 ek eq ev = canB K P V ek eq ev := by
    intro K P V hK hP hV
    unfold doB nxK nxP nxW
    rw [if_pos hR, if_pos hR, if_pos hR, Int.toNat_natCast, hK, hP, hV]
  have hno : doB g len k rs os 0 ek eq ev = false → doS g len k rs os 0 ek eq ev = ⟨k, rs, os, 0⟩ := fun h => by
    unfold doS
    rw [if_neg (by rw [h]; decide)]
  have hyes : doB g len k rs os 0 ek eq ev = true → doS g len k rs os 0 ek eq ev = doneS len (g k) k rs os 0 ev := fun h => by
    unfold doS
    rw [if_pos h, Int.toNat_natCast]
  by_cases h7 : (g k).o = 7
  · have eK : evK (g k).o = 3 := by rw [h7]; rfl
    have eP : evP (g k).o (g k).n = (g k).n := by rw [h7]; rfl
    have eV : evW (g k).o (g k).a rs = 0 := by rw [h7]; rfl
    have hc := hN _ _ _ eK eP eV
    rw [canB_take] at hc
    have HN : Hid (evK (g k).o = 3 ∧ evP (g k).o (g k).n = (g k).n ∧ evW (g k).o (g k).a rs = 0) := ⟨eK, eP, eV⟩
    rcases Bool.eq_false_or_eq_true (ek == 3) with t1 | t1
    case inr =>
      rw [t1] at hc
      rw [hc, hno hc]
      exact l2Do_take_no b off len cap k g ra oa rc oc rs os ek eq ev w hl hb hI h4 h60 h1 h2 hk hp _ _ HN (.inl (by simpa using t1))
    have t1' : (ek != 3) = false := by simpa using t1
    obtain rfl : ek = 3 := by simpa using t1
    rcases Bool.eq_false_or_eq_true (numB ev) with t2 | t2
    case inr =>
      rw [t2] at hc
      rw [hc, hno hc]
      exact l2Do_take_no b off len cap k g ra oa rc oc rs os 3 eq ev w hl hb hI h4 h60 h1 h2 hk hp _ _ HN (.inr (.inl ⟨t1', t2⟩))
    rcases take_from hins h7 with h9 | ⟨n0, n3⟩
    · have t3 : ((g k).n != 9) = false := by simp [h9]
      rw [t1, t2, h9, if_pos rfl] at hc
      have hb4 : inB eq 0 3 = belB eq 4 := inB_below eq 4
      rcases Bool.eq_false_or_eq_true (belB eq 4) with t5 | t5
      · rw [t5] at hc
        rw [hc, hyes hc]
        exact l2Do_take_any b off len cap k g ra oa rc oc rs os eq ev w hl hb hI h4 h60 h1 h2 hk hp _ _ HN h7 t2 t3 (hb4.trans t5)
      · rw [t5] at hc
        rw [hc, hno hc]
        exact l2Do_take_no b off len cap k g ra oa rc oc rs os 3 eq ev w hl hb hI h4 h60 h1 h2 hk hp _ _ HN (.inr (.inr (.inr ⟨t1', t2, t3, hb4.trans t5⟩)))
    · have t3 : ((g k).n != 9) = true := by simp; omega
      rw [t1, t2, if_neg (by omega)] at hc
      rcases Bool.eq_false_or_eq_true (eq == (g k).n) with t4 | t4
      · have e4 : eq = (g k).n := by simpa using t4
        rw [t4] at hc
        rw [hc, hyes hc]
        exact l2Do_take_one b off len cap k g ra oa rc oc rs os eq ev w hl hb hI h4 h60 h1 h2 hk hp _ _ HN h7 t2 t3 (by simpa using t4) (by simp [inB]; omega)
      · rw [t4] at hc
        rw [hc, hno hc]
        exact l2Do_take_no b off len cap k g ra oa rc oc rs os 3 eq ev w hl hb hI h4 h60 h1 h2 hk hp _ _ HN (.inr (.inr (.inl ⟨t1', t2, t3, by simpa using t4⟩)))
  by_cases h6 : (g k).o = 6
  · have eK : evK (g k).o = 2 := by rw [h6]; rfl
    have hc := hN _ _ _ eK rfl rfl
    rw [canB_other (by decide) (by decide)] at hc
    have HN : Hid (evK (g k).o = 2 ∧ evP (g k).o (g k).n = evP (g k).o (g k).n ∧ evW (g k).o (g k).a rs = evW (g k).o (g k).a rs) := ⟨eK, rfl, rfl⟩
    rcases Bool.eq_false_or_eq_true (evEqB ek eq ev 2 (evP (g k).o (g k).n) (evW (g k).o (g k).a rs)) with t | t
    · obtain ⟨rfl, rfl, rfl⟩ := evEqB_true t
      rw [t] at hc
      rw [hc, hyes hc]
      exact l2Do_send b off len cap k g ra oa rc oc rs os w hl hb hI h4 h60 h1 h2 hk hp _ _ HN h6
    · rw [t] at hc
      rw [hc, hno hc]
      exact l2Do_no b off len cap k g ra oa rc oc rs os ek eq ev w hl hb hI h4 h60 h1 h2 hk hp 2 _ _ rfl HN t
  by_cases h8 : (g k).o = 8
  · have eK : evK (g k).o = 4 := by rw [h8]; rfl
    have hc := hN _ _ _ eK rfl rfl
    rw [canB_other (by decide) (by decide)] at hc
    have HN : Hid (evK (g k).o = 4 ∧ evP (g k).o (g k).n = evP (g k).o (g k).n ∧ evW (g k).o (g k).a rs = evW (g k).o (g k).a rs) := ⟨eK, rfl, rfl⟩
    rcases Bool.eq_false_or_eq_true (evEqB ek eq ev 4 (evP (g k).o (g k).n) (evW (g k).o (g k).a rs)) with t | t
    · obtain ⟨rfl, rfl, rfl⟩ := evEqB_true t
      rw [t] at hc
      rw [hc, hyes hc]
      by_cases h : os.length = 60
      · exact l2Do_full b off len cap k g ra oa rc oc rs os w hl hb hI h4 h60 h1 h2 hk hp _ _ HN ⟨h8, h⟩ (by simp [h])
      · exact l2Do_print b off len cap k g ra oa rc oc rs os w hl hb hI h4 h60 h1 h2 hk hp _ _ HN ⟨h8, h⟩ (by simp; omega)
    · rw [t] at hc
      rw [hc, hno hc]
      exact l2Do_no b off len cap k g ra oa rc oc rs os ek eq ev w hl hb hI h4 h60 h1 h2 hk hp 4 _ _ rfl HN t
  have eK : evK (g k).o = 1 := by unfold evK; rw [if_neg h6, if_neg h7, if_neg h8]
  have eV : evW (g k).o (g k).a rs = 0 := by unfold evW; rw [if_neg h6, if_neg h8]
  have hc := hN _ _ _ eK rfl eV
  rw [canB_other (by decide) (by decide)] at hc
  have HN : Hid (evK (g k).o = 1 ∧ evP (g k).o (g k).n = evP (g k).o (g k).n ∧ evW (g k).o (g k).a rs = 0) := ⟨eK, rfl, eV⟩
  rcases Bool.eq_false_or_eq_true (evEqB ek eq ev 1 (evP (g k).o (g k).n) 0) with t | t
  · obtain ⟨rfl, rfl, rfl⟩ := evEqB_true t
    rw [t] at hc
    rw [hc, hyes hc]
    exact l2Do_local b off len cap k g ra oa rc oc rs os w hl hb hI h4 h60 h1 h2 hk hp _ HN ⟨hnum, h6, h7, h8⟩
  · rw [t] at hc
    rw [hc, hno hc]
    exact l2Do_no b off len cap k g ra oa rc oc rs os ek eq ev w hl hb hI h4 h60 h1 h2 hk hp 1 _ _ rfl HN t

set_option maxRecDepth 100000 in
set_option maxHeartbeats 1000000 in
theorem specDo_any (b off len cap : Nat) (g : Nat → I5) (p code : Int) (ra oa : Option Addr) (rc oc : Nat) (rs os : List Int) (ek eq ev : Int) (w : World) (hlen : len ≤ maxLen) (hb : b < w.heap.size) (hI : InsAt w b off len g) (hr : rs.length ≤ 1048576) (ho : os.length ≤ 1048576) (h1 : Sl w ra rs) (h2 : Sl w oa os) :
    Calls Tryz.prog 68 #[.slice (some ⟨b, off, none⟩) len cap, stV p ra rs.length rc oa os.length oc code, evV ek eq ev] w (DoneR w (doS g len p rs os code ek eq ev) (doB g len p rs os code ek eq ev)) := by
  have HI : Hid (InsAt w b off len g) := hI
  have H1 : Hid (Sl w ra rs) := h1
  have H2 : Hid (Sl w oa os) := h2
  have HL : Hid (len ≤ maxLen) := hlen
  clear hI h1 h2 hlen
  rcases Bool.eq_false_or_eq_true (rightB g len p rs os code) with t0 | t0
  case inr =>
    have hB : doB g len p rs os code ek eq ev = false := by
      apply Classical.byContradiction
      intro hn
      rw [doB_right (by simpa using hn)] at t0
      cases t0
    have hS : doS g len p rs os code ek eq ev = ⟨p, rs, os, code⟩ := by
      unfold doS
      rw [if_neg (by rw [hB]; decide)]
    rw [hB, hS]
    clear hB hS
    go_enter Tryz.func68, Tryz.ntmps68
    go_wp2_with fail
    refine (l2Right_any _ _ _ _ g _ _ _ _ _ _ rs os _ HL.out (by simp; omega) (HI.out.below (by go_grown) hb) hr ho (H1.out.below (by go_grown)) (H2.out.below (by go_grown))).mono ?_
    rintro e w1 ⟨rfl, b1⟩
    have B1 : Hid (Below w.heap.size w w1) := below_up (by go_grown) b1 (by simp; omega)
    have X1 : Hid (DoBox w1 w.heap.size (.int .i64 p) (.slice ra rs.length rc) (.slice oa os.length oc) (.int .i64 code) ek eq ev) := (DoBox.new w _ _ _ _ _ _ _ _ _ _).below b1
    clear b1
    obtain ⟨p0, p1, p2, p3, -, -, -, -, -, -, -, -⟩ := X1.out
    go_wp2_with fail
    clear p0 p1 p2 p3
    refine (l2Copy_any _ _ _ _ _ _ rs os _ hr ho (H1.out.below B1.out) (H2.out.below B1.out)).mono ?_
    rintro e w2 ⟨v2, rfl, o2, b2⟩
    obtain ⟨ra2, rc2, oa2, oc2, rfl, -, -⟩ := o2.read
    have X2 : Hid (DoBox w2 w.heap.size (.int .i64 p) (.slice ra rs.length rc) (.slice oa os.length oc) (.int .i64 code) ek eq ev) := X1.out.below b2
    have O2 : Hid (StOwn w2 w1.heap.size (stV p ra2 rs.length rc2 oa2 os.length oc2 code) p rs os code) := o2
    have B2 : Hid (Below w.heap.size w w2) := B1.out.trans (b2.mono B1.out.size)
    have zw : w.heap.size + 1 + 1 < w1.heap.size := X1.out.lt
    clear b2 o2 X1 B1
    obtain ⟨-, -, -, -, -, -, -, r0, r1, r2, r3, rf⟩ := X2.out
    go_wp2
    refine bodyPost_ret (v := .tuple #[stV p ra2 rs.length rc2 oa2 os.length oc2 code, .bool false]) (by simp [results, Tryz.results68, go_sem, r0, r1, r2, r3]) rfl ⟨_, rfl, ?_, ?_⟩
    · exact StOwn.put4 (B' := w1.heap.size) O2.out zw (by omega)
    · have := B2.out
      go_grown
  obtain ⟨-, hs, rfl⟩ := right_parts t0
  obtain ⟨-, ⟨k, rfl, -⟩, -, -⟩ := st_parts hs
  have HR : Hid (rightB g len (k : Int) rs os 0 = true) := t0
  clear hs
  generalize hS : doS g len k rs os 0 ek eq ev = S
  generalize hT : doB g len k rs os 0 ek eq ev = T
  have HE : Hid (doS g len k rs os 0 ek eq ev = S ∧ doB g len k rs os 0 ek eq ev = T) := ⟨hS, hT⟩
  clear hS hT
  go_enter Tryz.func68, Tryz.ntmps68
  go_wp2_with fail
  refine (l2Right_any _ _ _ _ g _ _ _ _ _ _ rs os _ HL.out (by simp; omega) (HI.out.below (by go_grown) hb) hr ho (H1.out.below (by go_grown)) (H2.out.below (by go_grown))).mono ?_
  rintro e w1 ⟨rfl, b1⟩
  have B1 : Hid (Below w.heap.size w w1) := below_up (by go_grown) b1 (by simp; omega)
  have X1 : Hid (DoBox w1 w.heap.size (.int .i64 k) (.slice ra rs.length rc) (.slice oa os.length oc) (.int .i64 0) ek eq ev) := (DoBox.new w _ _ _ _ _ _ _ _ _ _).below b1
  clear b1
  obtain ⟨p0, p1, p2, p3, e0, e1, e2, -, -, -, -, -⟩ := X1.out
  go_wp2_with fail
  clear p0 p1 p2 p3 e0 e1 e2
  refine (l2Do_any _ _ _ _ k g _ _ _ _ rs os _ _ _ _ (by have := B1.out.size; omega) (HI.out.below B1.out hb) (H1.out.below B1.out) (H2.out.below B1.out) HR.out).mono ?_
  rintro e w2 ⟨v2, rfl, o2, b2⟩
  rw [HE.out.1] at o2
  rw [HE.out.2]
  obtain ⟨ra2, rc2, oa2, oc2, hv2, -, -⟩ := o2.read
  subst hv2
  have X2 : Hid (DoBox w2 w.heap.size (.int .i64 k) (.slice ra rs.length rc) (.slice oa os.length oc) (.int .i64 0) ek eq ev) := X1.out.below b2
  have O2 : Hid (StOwn w2 w1.heap.size (stV S.p ra2 S.rs.length rc2 oa2 S.os.length oc2 S.c) S.p S.rs S.os S.c) := o2
  have B2 : Hid (Below w.heap.size w w2) := B1.out.trans (b2.mono B1.out.size)
  have zw : w.heap.size + 1 + 1 < w1.heap.size := X1.out.lt
  clear b2 o2 X1 B1
  obtain ⟨-, -, -, -, -, -, -, r0, r1, r2, r3, rf⟩ := X2.out
  go_wp2
  refine bodyPost_ret (v := .tuple #[stV S.p ra2 S.rs.length rc2 oa2 S.os.length oc2 S.c, .bool T]) (by simp [results, Tryz.results68, go_sem, r0, r1, r2, r3]) rfl ⟨_, rfl, ?_, ?_⟩
  · exact StOwn.put4 (B' := w1.heap.size) O2.out zw (by omega)
  · have := B2.out
    go_grown

end Go.Proofs.YtcmmlklanjhfoaaGreatDoor

namespace Go.Proofs.YtcmmlklanjhfoaaGreatDoor
open Go.RowKit

theorem old_frozen {w : World} {b : Nat} (o : Obj) (j : Nat) (h : b < w.heap.size) : (w.alloc o).frozen? ⟨b, j, none⟩ = w.frozen? ⟨b, j, none⟩ := World.frozen?_of_block (Below.heap_alloc w o b h)

set_option maxRecDepth 100000 in
set_option maxHeartbeats 1000000 in
theorem nextIn_right (b off len cap : Nat) (g : Nat → I5) (k : Nat) (ra oa : Option Addr) (rc oc : Nat) (r0 r1 r2 r3 : Int) (os : List Int) (w : World) (hlen : len ≤ maxLen) (hb : b < w.heap.size) (hI : InsAt w b off len g) (ho : os.length ≤ 1048576) (h1 : Sl w ra [r0, r1, r2, r3]) (h2 : Sl w oa os) (hk : k < len) (t1 : stOkB len (k : Int) [r0, r1, r2, r3] os 0 = true) (t2 : progOkB g len 4 = true) :
    Calls Tryz.prog 53 #[.slice (some ⟨b, off, none⟩) len cap, stV k ra 4 rc oa os.length oc 0] w fun e w' => e = .returned (evV (evK (g k).o) (evP (g k).o (g k).n) (evW (g k).o (g k).a [r0, r1, r2, r3])) ∧ Below w.heap.size w w' := by
  have HI : Hid (InsAt w b off len g) := hI
  have H1 : Hid (Sl w ra [r0, r1, r2, r3]) := h1
  have H2 : Hid (Sl w oa os) := h2
  have HL : Hid (len ≤ maxLen) := hlen
  have hr := ins_range (right_ins t2 hk)
  have hk' : (k : Int) < (len : Int) := by omega
  have hl' : (len : Int) ≤ 9223372036854775807 := by have := HL.out; unfold maxLen at this; omega
  clear hI h1 h2 hlen
  go_enter Tryz.func53, Tryz.ntmps53
  go_wp2_with fail
  refine (implStateOk_any _ _ _ _ _ _ _ _ _ [r0, r1, r2, r3] os _ ho (H1.out.below (by go_grown)) (H2.out.below (by go_grown))).mono ?_
  rintro e w1 ⟨rfl, b1⟩
  have B1 : Hid (Below w.heap.size w w1) := below_up (by go_grown) b1 (by simp; omega)
  have y1 : w.heap.size + 1 < w1.heap.size := by have := b1.size; simp at this; omega
  have y0 : w.heap.size < w1.heap.size := by omega
  obtain ⟨hc1, hf1⟩ := bcell b1
  clear b1
  go_wp2_with fail
  refine (registersOf_any ra rc [r0, r1, r2, r3] _ (H1.out.below B1.out)).mono ?_
  rintro e w3 ⟨⟨q0, q1, q2, q3, rfl, hq⟩, b3⟩
  have hq' := hq rfl
  simp only [List.cons.injEq, and_true] at hq'
  obtain ⟨rfl, rfl, rfl, rfl⟩ := hq'
  have B3 : Hid (Below w.heap.size w w3) := B1.out.trans (b3.mono B1.out.size)
  obtain ⟨hc3, hf3⟩ := bcell b3
  have z1 : w.heap.size + 1 < w3.heap.size := by have := b3.size; omega
  have z0 : w.heap.size < w3.heap.size := by omega
  clear b3 B1 hq
  go_wp2_with fail
  have B4 : Hid (Below w.heap.size w (w3.alloc (.cells #[.int .i64 r0, .int .i64 r1, .int .i64 r2, .int .i64 r3] 99))) := B3.out.alloc (by omega) _
  generalize hW : w3.alloc (.cells #[.int .i64 r0, .int .i64 r1, .int .i64 r2, .int .i64 r3] 99) = W at *
  have lr : w3.heap.size < W.heap.size := by rw [← hW]; simp
  have k0 : W.cell? ⟨w3.heap.size, 0, none⟩ = some (.int .i64 r0) := by rw [← hW]; simp
  have k1 : W.cell? ⟨w3.heap.size, 1, none⟩ = some (.int .i64 r1) := by rw [← hW]; simp
  have k2 : W.cell? ⟨w3.heap.size, 2, none⟩ = some (.int .i64 r2) := by rw [← hW]; simp
  have k3 : W.cell? ⟨w3.heap.size, 3, none⟩ = some (.int .i64 r3) := by rw [← hW]; simp
  have s0 : W.cell? ⟨w.heap.size, 0, none⟩ = some (.int .i64 k) := by rw [← hW, old_cell _ _ z0, hc3 _ _ y0, hc1 _ _ (by simp; omega)]; simp
  have e0 : W.cell? ⟨w.heap.size + 1, 0, none⟩ = some (.int .i64 0) := by rw [← hW, old_cell _ _ z1, hc3 _ _ y1, hc1 _ _ (by simp)]; simp
  have e1 : W.cell? ⟨w.heap.size + 1, 1, none⟩ = some (.int .i64 0) := by rw [← hW, old_cell _ _ z1, hc3 _ _ y1, hc1 _ _ (by simp)]; simp
  have e2 : W.cell? ⟨w.heap.size + 1, 2, none⟩ = some (.int .i64 0) := by rw [← hW, old_cell _ _ z1, hc3 _ _ y1, hc1 _ _ (by simp)]; simp
  have f0 : ∀ j, W.frozen? ⟨w.heap.size + 1, j, none⟩ = false := fun j => by rw [← hW, old_frozen _ _ z1, hf3 _ _ y1, hf1 _ _ (by simp)]; simp
  have l0 : w.heap.size < W.heap.size := by omega
  have l1 : w.heap.size + 1 < W.heap.size := by omega
  have lb : b < W.heap.size := by omega
  clear hc1 hf1 hc3 hf3 hW B3 y0 y1 z0 z1
  obtain ⟨c0, c1, c2, c3, c4⟩ := HI.out.below B4.out hb k hk
  obtain ⟨⟨o1, o11⟩, -, ⟨a0, a3⟩, -⟩ := hr
  first | (go_region_with (first | (go_at_call 85; refine (placeOf_right _ _ _ _ _ _ o1 o11).mono ?_; rintro e w5 ⟨rfl, b5'⟩; have b5 : Below W.heap.size W w5 := (Below.refl W.heap.size W).drew.trans b5'; obtain ⟨hc5, hf5⟩ := bcell b5; have B5 : Hid (Below w.heap.size w w5) := B4.out.trans (b5.mono B4.out.size); have l5 : w.heap.size + 1 < w5.heap.size := Nat.lt_of_lt_of_le l1 b5.size; clear b5 b5') | (go_at_call 84; refine (eventOf_right _ _ _ _ _ _ _ _ _ _ o1 o11 a0 a3).mono ?_; rintro e w6 ⟨rfl, b6⟩; obtain ⟨hc6, hf6⟩ := bcell b6; have B6 : Hid (Below w.heap.size w w6) := B5.out.trans (b6.mono B5.out.size); clear b6))) | fail
  all_goals
    go_wp2
    refine bodyPost_ret (v := evV (evK (g k).o) (evP (g k).o (g k).n) (evW (g k).o (g k).a [r0, r1, r2, r3])) (by simp [results, Tryz.results53, go_sem, hc6, hc5, l5, l1, e0, e1, e2]) rfl ⟨rfl, ?_⟩
    have := B6.out
    go_grown

/-- The program's nextIn: what comes, where the program is right. -/
theorem nextIn_any (b off len cap : Nat) (g : Nat → I5) (p code : Int) (ra oa : Option Addr) (rc oc : Nat) (rs os : List Int) (w : World) (hlen : len ≤ maxLen) (hb : b < w.heap.size) (hI : InsAt w b off len g) (ho : os.length ≤ 1048576) (h1 : Sl w ra rs) (h2 : Sl w oa os) (t2 : progOkB g len 4 = true) :
    Calls Tryz.prog 53 #[.slice (some ⟨b, off, none⟩) len cap, stV p ra rs.length rc oa os.length oc code] w fun e w' => e = .returned (evV (nxK g len p rs os code) (nxP g len p rs os code) (nxW g len p rs os code)) ∧ Below w.heap.size w w' := by
  rcases Bool.eq_false_or_eq_true (rightB g len p rs os code) with hr | hr
  · obtain ⟨h3, h4, rfl⟩ := right_parts hr
    obtain ⟨⟨r0, r1, r2, r3, rfl, _⟩, ⟨k, rfl, hk⟩, _⟩ := st_parts h4
    rw [next_right hr]
    exact nextIn_right b off len cap g k ra oa rc oc r0 r1 r2 r3 os w hlen hb hI ho h1 h2 hk h4 h3
  · rw [next_wrong hr]
    exact nextIn_wrong b off len cap g p code ra oa rc oc rs os w ho h1 h2 t2 hr


end Go.Proofs.YtcmmlklanjhfoaaGreatDoor
