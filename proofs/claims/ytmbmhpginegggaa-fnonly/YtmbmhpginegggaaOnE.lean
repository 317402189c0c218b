/- The walk of the law on what can be done only. -/
import Derived.Test.YtmbmhpginegggaaOnD
import Derived.Test.YtmbmhpginegggaaOnM
import Derived.Test.YtmbmhpginegggaaOnS
namespace Go.Proofs.Ytmbmhpginegggaa
open Go.ChangeShapes Go.WideShapes Go.ChangeAt Go.RowKit Go.Deep Go.Sort

/-- What the law has drawn, in memory: the program, the state in block N, the event behind it. -/
def Od (w wr : World) (N gb n : Nat) (G : Nat → I5) (p code : Int) (ra : Option Addr) (rc : Nat) (oa : Option Addr) (oc : Nat) (rs os : List Int) (ek eq ev : Int) : Prop :=
  Below w.heap.size w wr ∧ (gb < wr.heap.size ∧ InsAt wr gb 0 n G) ∧ (Sl wr ra rs ∧ Sl wr oa os) ∧ BoxC wr N (.int .i64 p) (.slice ra rs.length rc) (.slice oa os.length oc) (.int .i64 code) ∧ EvC3 wr (N + 1) ek eq ev
theorem Od.step {w wr w' : World} {N gb n : Nat} {G : Nat → I5} {p code : Int} {ra : Option Addr} {rc : Nat} {oa : Option Addr} {oc : Nat} {rs os : List Int} {ek eq ev : Int} (h : Od w wr N gb n G p code ra rc oa oc rs os ek eq ev) (hb : Below wr.heap.size wr w') : Od w w' N gb n G p code ra rc oa oc rs os ek eq ev :=
  ⟨h.1.trans (hb.mono h.1.size), ⟨Nat.lt_of_lt_of_le h.2.1.1 hb.size, h.2.1.2.below hb h.2.1.1⟩, ⟨h.2.2.1.1.below hb, h.2.2.1.2.below hb⟩, h.2.2.2.1.below hb, h.2.2.2.2.below hb⟩

set_option maxRecDepth 100000 in
set_option maxHeartbeats 8000000 in
theorem only_small (a0 : Option Addr) (len cap : Nat) (w : World) (hl : len ≤ 1048576) (hB : BytesAt w w.heap.size a0 len) :
    Calls Try.prog 3 #[.slice a0 len cap] w fun e w' => e = .returned (.bool true) ∧ Below w.heap.size w w' := by
  have hl' : ¬ (1048576 : Int) < (len : Int) := by omega
  have HB : Hid (BytesAt w w.heap.size a0 len) := hB
  clear hB
  go_enter Try.func3, Try.ntmps3
  go_wp2_with fail
  refine (big_any a0 len cap _).mono ?_
  rintro e w0 ⟨rfl, rfl⟩
  go_wp2_with fail
  refine (DrawDo_any w0.heap.size len cap a0 _ HB.out (Nat.le_refl _) hl).mono ?_
  rintro e w1 ⟨gb, n, gc, G, p, code, ra, rc, oa, oc, rs, os, ek, eq, ev, rfl, hn, hgl, hI, s1, s2, hr, ho, b1⟩
  have HL : Hid (n ≤ maxLen) := by
    show n ≤ maxLen
    unfold maxLen
    omega
  have bz : Below w1.heap.size w1 ((w1.alloc (.cells #[.int .i64 p, .slice ra rs.length rc, .slice oa os.length oc, .int .i64 code] 27)).alloc (.cells #[.int .i64 ek, .int .i64 eq, .int .i64 ev] 29)) := by go_grown
  have D2 : Hid (Od w0 ((w1.alloc (.cells #[.int .i64 p, .slice ra rs.length rc, .slice oa os.length oc, .int .i64 code] 27)).alloc (.cells #[.int .i64 ek, .int .i64 eq, .int .i64 ev] 29)) w1.heap.size gb n G p code ra rc oa oc rs os ek eq ev) := by
    refine ⟨b1.trans (bz.mono b1.size), ⟨Nat.lt_of_lt_of_le hgl bz.size, hI.below bz hgl⟩, ⟨s1.below bz, s2.below bz⟩, (BoxC.new w1 _ _ _ _ _).below (below_alloc _ _), ?_⟩
    have := EvC3.new (w1.alloc (.cells #[.int .i64 p, .slice ra rs.length rc, .slice oa os.length oc, .int .i64 code] 27)) ek eq ev 29
    rw [World.size_alloc] at this
    exact this
  clear b1 hI s1 s2 bz HB
  go_wp2_with fail
  generalize (w1.alloc (.cells #[.int .i64 p, .slice ra rs.length rc, .slice oa os.length oc, .int .i64 code] 27)).alloc (.cells #[.int .i64 ek, .int .i64 eq, .int .i64 ev] 29) = w2 at *
  generalize w1.heap.size = N at *
  have hok : doB G n p rs os code ek eq ev = true → OkS n (doS G n p rs os code ek eq ev) := doS_ok
  have hno : doB G n p rs os code ek eq ev = false → doS G n p rs os code ek eq ev = ⟨p, rs, os, code⟩ := fun h => by
    unfold doS
    rw [if_neg (by rw [h]; decide)]
  have hnx : doB G n p rs os code ek eq ev = true → (nxK G n p rs os code = 3 ∧ ek = 3) ∨ (nxK G n p rs os code ≠ 3 ∧ ek = nxK G n p rs os code ∧ eq = nxP G n p rs os code ∧ ev = nxW G n p rs os code) := fun h => done_next h
  have hle := doS_len G n p rs os code ek eq ev hr ho
  refine (implDo_any gb 0 n gc G p code ra oa rc oc rs os ek eq ev _ HL.out D2.out.2.1.1 D2.out.2.1.2 hr ho D2.out.2.2.1.1 D2.out.2.2.1.2).mono ?_
  rintro e w3 hd
  generalize hS : doS G n p rs os code ek eq ev = S at *
  generalize hT : doB G n p rs os code ek eq ev = T at *
  have HST : Hid (doS G n p rs os code ek eq ev = S ∧ doB G n p rs os code ek eq ev = T) := ⟨hS, hT⟩
  have HF : Hid ((T = true → OkS n S) ∧ (T = false → S = ⟨p, rs, os, code⟩) ∧ (T = true → (nxK G n p rs os code = 3 ∧ ek = 3) ∨ (nxK G n p rs os code ≠ 3 ∧ ek = nxK G n p rs os code ∧ eq = nxP G n p rs os code ∧ ev = nxW G n p rs os code)) ∧ S.rs.length ≤ 1048576 ∧ S.os.length ≤ 1048576) := ⟨hok, hno, hnx, hle⟩
  clear hS hT hok hno hnx hle
  obtain ⟨v3, rfl, o3, b3⟩ := hd
  obtain ⟨rt, ct, ot, dt, rfl, t1, t2⟩ := o3.read
  have q3 := below_alloc w3 (.cells #[.int .i64 S.p, .slice rt S.rs.length ct, .slice ot S.os.length dt, .int .i64 S.c] 27)
  have D4 : Hid (Od w0 (w3.alloc (.cells #[.int .i64 S.p, .slice rt S.rs.length ct, .slice ot S.os.length dt, .int .i64 S.c] 27)) N gb n G p code ra rc oa oc rs os ek eq ev) := (D2.out.step b3).step q3
  have T4 : Hid (BoxC (w3.alloc (.cells #[.int .i64 S.p, .slice rt S.rs.length ct, .slice ot S.os.length dt, .int .i64 S.c] 27)) w3.heap.size (.int .i64 S.p) (.slice rt S.rs.length ct) (.slice ot S.os.length dt) (.int .i64 S.c) ∧ Sl (w3.alloc (.cells #[.int .i64 S.p, .slice rt S.rs.length ct, .slice ot S.os.length dt, .int .i64 S.c] 27)) rt S.rs ∧ Sl (w3.alloc (.cells #[.int .i64 S.p, .slice rt S.rs.length ct, .slice ot S.os.length dt, .int .i64 S.c] 27)) ot S.os) := ⟨BoxC.new w3 _ _ _ _ _, t1.below q3, t2.below q3⟩
  clear o3 t1 t2 b3 q3 D2
  obtain ⟨c0, c1, c2, c3⟩ := D4.out.2.2.2.1
  obtain ⟨e0, e1, e2⟩ := D4.out.2.2.2.2
  go_wp2_with fail
  generalize w3.alloc (.cells #[.int .i64 S.p, .slice rt S.rs.length ct, .slice ot S.os.length dt, .int .i64 S.c] 27) = w4 at *
  generalize w3.heap.size = M at *
  refine (specDo_any gb 0 n gc G p code ra oa rc oc rs os ek eq ev _ HL.out D4.out.2.1.1 D4.out.2.1.2 hr ho D4.out.2.2.1.1 D4.out.2.2.1.2).mono ?_
  rintro e w5' hd
  rw [HST.out.1, HST.out.2] at hd
  obtain ⟨v5, rfl, o5, b5'⟩ := hd
  obtain ⟨ru, cu, ou, du, rfl, -, -⟩ := o5.read
  have b5 : Below w4.heap.size w4 (w5'.alloc (.cells #[.int .i64 S.p, .slice ru S.rs.length cu, .slice ou S.os.length du, .int .i64 S.c] 27)) := b5'.trans ((below_alloc _ _).mono b5'.size)
  clear o5 b5'
  have D5 : Hid (Od w0 (w5'.alloc (.cells #[.int .i64 S.p, .slice ru S.rs.length cu, .slice ou S.os.length du, .int .i64 S.c] 27)) N gb n G p code ra rc oa oc rs os ek eq ev) := D4.out.step b5
  have T5 : Hid (BoxC (w5'.alloc (.cells #[.int .i64 S.p, .slice ru S.rs.length cu, .slice ou S.os.length du, .int .i64 S.c] 27)) M (.int .i64 S.p) (.slice rt S.rs.length ct) (.slice ot S.os.length dt) (.int .i64 S.c) ∧ Sl (w5'.alloc (.cells #[.int .i64 S.p, .slice ru S.rs.length cu, .slice ou S.os.length du, .int .i64 S.c] 27)) rt S.rs ∧ Sl (w5'.alloc (.cells #[.int .i64 S.p, .slice ru S.rs.length cu, .slice ou S.os.length du, .int .i64 S.c] 27)) ot S.os) := ⟨T4.out.1.below b5, T4.out.2.1.below b5, T4.out.2.2.below b5⟩
  clear b5 D4 T4 c0 c1 c2 c3 e0 e1 e2
  obtain ⟨c0, c1, c2, c3⟩ := D5.out.2.2.2.1
  go_wp2_with fail
  generalize w5'.alloc (.cells #[.int .i64 S.p, .slice ru S.rs.length cu, .slice ou S.os.length du, .int .i64 S.c] 27) = w5 at *
  refine (implNext_any gb 0 n gc G p code ra oa rc oc rs os _ HL.out D5.out.2.1.1 D5.out.2.1.2 ho D5.out.2.2.1.1 D5.out.2.2.1.2).mono ?_
  rintro e w6 ⟨rfl, b6⟩
  have hsn := specNext_any gb 0 n gc G p code ra oa rc oc rs os
  have HSN : Hid (∀ wx, gb < wx.heap.size → InsAt wx gb 0 n G → Sl wx ra rs → Sl wx oa os → Calls Try.prog 12 #[.slice (some ⟨gb, 0, none⟩) n gc, stV p ra rs.length rc oa os.length oc code] wx fun e w' => e = .returned (evV (nxK G n p rs os code) (nxP G n p rs os code) (nxW G n p rs os code)) ∧ Below wx.heap.size wx w') := fun wx h1 h2 h3 h4 => hsn wx HL.out h1 h2 hr ho h3 h4
  clear hsn
  generalize nxK G n p rs os code = K at *
  generalize nxP G n p rs os code = P at *
  generalize nxW G n p rs os code = V at *
  have q6 := below_alloc w6 (.cells #[.int .i64 K, .int .i64 P, .int .i64 V] 29)
  have q7 : Below w5.heap.size w5 (w6.alloc (.cells #[.int .i64 K, .int .i64 P, .int .i64 V] 29)) := b6.trans (q6.mono b6.size)
  have D7 : Hid (Od w0 (w6.alloc (.cells #[.int .i64 K, .int .i64 P, .int .i64 V] 29)) N gb n G p code ra rc oa oc rs os ek eq ev) := D5.out.step q7
  have T7 : Hid (BoxC (w6.alloc (.cells #[.int .i64 K, .int .i64 P, .int .i64 V] 29)) M (.int .i64 S.p) (.slice rt S.rs.length ct) (.slice ot S.os.length dt) (.int .i64 S.c) ∧ Sl (w6.alloc (.cells #[.int .i64 K, .int .i64 P, .int .i64 V] 29)) rt S.rs ∧ Sl (w6.alloc (.cells #[.int .i64 K, .int .i64 P, .int .i64 V] 29)) ot S.os) := ⟨T5.out.1.below q7, T5.out.2.1.below q7, T5.out.2.2.below q7⟩
  have N7 : Hid (EvC3 (w6.alloc (.cells #[.int .i64 K, .int .i64 P, .int .i64 V] 29)) w6.heap.size K P V) := EvC3.new w6 K P V _
  clear b6 q6 q7 D5 T5 c0 c1 c2 c3
  have hneq : ∀ w : World, (binOp .neq 29 (.agg #[.int .i64 K, .int .i64 P, .int .i64 V]) (evV K P V)).run Try.prog w = .ok (.bool false) w := fun w => by
    have h := neq_ev K P V K P V w
    simp [evEqB] at h
    exact h
  obtain ⟨c0, c1, c2, c3⟩ := D7.out.2.2.2.1
  obtain ⟨k0, k1, k2⟩ := N7.out
  have hneq2 : ∀ w : World, (binOp .neq 29 (.agg #[.int .i64 K, .int .i64 P, .int .i64 V]) (.agg #[.int .i64 K, .int .i64 P, .int .i64 V])).run Try.prog w = .ok (.bool false) w := hneq
  have tt : (T != T) = false := by simp
  clear c0 c1 c2 c3 k0 k1 k2
  go_wp2_with fail
  generalize w6.alloc (.cells #[.int .i64 K, .int .i64 P, .int .i64 V] 29) = w7 at *
  generalize w6.heap.size = Nn at *
  obtain ⟨c0, c1, c2, c3⟩ := D7.out.2.2.2.1
  obtain ⟨k0, k1, k2⟩ := N7.out
  have HQ : Hid (∀ d os', Below w7.heap.size w7 (grow (redrawn w7 d) os')) := fun d os' => below_regrown w7 d os'
  have HCn : Hid (∀ wx, Below w7.heap.size w7 wx → Calls Try.prog 12 #[.slice (some ⟨gb, 0, none⟩) n gc, stV p ra rs.length rc oa os.length oc code] wx fun e w' => e = .returned (evV K P V) ∧ Below wx.heap.size wx w') := fun wx hb => HSN.out wx (D7.out.step hb).2.1.1 (D7.out.step hb).2.1.2 (D7.out.step hb).2.2.1.1 (D7.out.step hb).2.2.1.2
  have c0' := cell_regrown c0
  have c1' := cell_regrown c1
  have c2' := cell_regrown c2
  have c3' := cell_regrown c3
  have k0' := cell_regrown k0
  have k1' := cell_regrown k1
  have k2' := cell_regrown k2
  refine wp_region_quiet_below (by kernel_rfl) (by kernel_rfl) ?_
  repeat (quiet_step (first | (go_at_call 12; exact Calls.regrown_of (HCn.out _ (HQ.out _ _))) | fail))
  refine wpQuiet_nil ?_
  intro _ hw'
  obtain ⟨⟨dq, osq⟩, hw''⟩ := hw'
  subst hw''
  have b8 := below_regrown w7 dq osq
  have D8 : Hid (Od w0 (grow (redrawn w7 dq) osq) N gb n G p code ra rc oa oc rs os ek eq ev) := D7.out.step b8
  have T8 : Hid (BoxC (grow (redrawn w7 dq) osq) M (.int .i64 S.p) (.slice rt S.rs.length ct) (.slice ot S.os.length dt) (.int .i64 S.c) ∧ Sl (grow (redrawn w7 dq) osq) rt S.rs ∧ Sl (grow (redrawn w7 dq) osq) ot S.os) := ⟨T7.out.1.below b8, T7.out.2.1.below b8, T7.out.2.2.below b8⟩
  have N8 : Hid (EvC3 (grow (redrawn w7 dq) osq) Nn K P V) := N7.out.below b8
  generalize grow (redrawn w7 dq) osq = w8 at *
  clear c0' c1' c2' c3' k0' k1' k2' HQ HCn HSN D7 T7 N7 b8 hneq tt c0 c1 c2 c3 k0 k1 k2
  cases T
  case false =>
    have hS := HF.out.2.1 rfl
    subst hS
    clear HF HST hneq2
    obtain ⟨c0, c1, c2, c3⟩ := D8.out.2.2.2.1
    obtain ⟨t0, t1, t2, t3⟩ := T8.out.1
    dsimp only at t0 t1 t2 t3
    go_wp2_with fail
    refine (sameState_same p code ra oa rt ot rc oc ct dt rs os _ hr ho D8.out.2.2.1.1 D8.out.2.2.1.2 T8.out.2.1 T8.out.2.2).mono ?_
    rintro e w9 ⟨rfl, b9⟩
    have D9 : Hid (Od w0 w9 N gb n G p code ra rc oa oc rs os ek eq ev) := D8.out.step b9
    clear b9
    go_wp2
    go_ret
    exact ⟨rfl, D9.out.1⟩
  case true =>
    have hok := HF.out.1 rfl
    have hnx := HF.out.2.2.1 rfl
    have hSo := HF.out.2.2.2.2
    unfold OkS at hok
    have HOK : Hid (stOkB n S.p S.rs S.os S.c = true) := hok
    clear hok HF HST
    obtain ⟨k0, k1, k2⟩ := N8.out
    obtain ⟨e0, e1, e2⟩ := D8.out.2.2.2.2
    have HTk : Hid (∀ wx, Below w8.heap.size w8 wx → Calls Try.prog 14 #[.slice (some ⟨gb, 0, none⟩) n gc, stV S.p rt S.rs.length ct ot S.os.length dt S.c] wx fun e w' => e = .returned (.bool true) ∧ Below wx.heap.size wx w') := fun wx hb => by
      have h := implStateOk_any (some ⟨gb, 0, none⟩) n gc S.p S.c rt ot ct dt S.rs S.os wx hSo (T8.out.2.1.below hb) (T8.out.2.2.below hb)
      rw [HOK.out] at h
      exact h
    have HSi : Hid (∀ wx, Below w8.heap.size w8 wx → Calls Try.prog 14 #[.slice (some ⟨gb, 0, none⟩) n gc, stV p ra rs.length rc oa os.length oc code] wx fun e w' => e = .returned (.bool (stOkB n p rs os code)) ∧ Below wx.heap.size wx w') := fun wx hb => implStateOk_any (some ⟨gb, 0, none⟩) n gc p code ra oa rc oc rs os wx ho (D8.out.step hb).2.2.1.1 (D8.out.step hb).2.2.1.2
    have HSp : Hid (∀ wx, Below w8.heap.size w8 wx → Calls Try.prog 15 #[.slice (some ⟨gb, 0, none⟩) n gc, stV p ra rs.length rc oa os.length oc code] wx fun e w' => e = .returned (.bool (stOkB n p rs os code)) ∧ Below wx.heap.size wx w') := fun wx hb => specStateOk_any (some ⟨gb, 0, none⟩) n gc p code ra oa rc oc rs os wx HL.out hr ho (D8.out.step hb).2.2.1.1 (D8.out.step hb).2.2.1.2
    rcases hnx with ⟨rfl, rfl⟩ | ⟨hK, rfl, rfl, rfl⟩
    · go_wp2_with fail
      clear k0 k1 k2 e0 e1 e2
      obtain ⟨c0, c1, c2, c3⟩ := D8.out.2.2.2.1
      obtain ⟨t0, t1, t2, t3⟩ := T8.out.1
      have HQ : Hid (∀ d os', Below w8.heap.size w8 (grow (redrawn w8 d) os')) := fun d os' => below_regrown w8 d os'
      have c0' := cell_regrown c0
      have c1' := cell_regrown c1
      have c2' := cell_regrown c2
      have c3' := cell_regrown c3
      have t0' := cell_regrown t0
      have t1' := cell_regrown t1
      have t2' := cell_regrown t2
      have t3' := cell_regrown t3
      have bb : (stOkB n p rs os code == stOkB n p rs os code) = true := by simp
      generalize stOkB n p rs os code = Z at *
      refine wp_region_quiet_below (by kernel_rfl) (by kernel_rfl) ?_
      repeat (quiet_step (first | (go_at_call_of 14 (rt); exact Calls.regrown_of (HTk.out _ (HQ.out _ _))) | (go_at_call_of 14 (ra); exact Calls.regrown_of (HSi.out _ (HQ.out _ _))) | (go_at_call 15; exact Calls.regrown_of (HSp.out _ (HQ.out _ _))) | fail))
      refine wpQuiet_nil ?_
      intro _ hw'
      obtain ⟨⟨dr, osr⟩, hw''⟩ := hw'
      subst hw''
      have B9 : Hid (Below w0.heap.size w0 (grow (redrawn w8 dr) osr)) := D8.out.1.trans ((below_regrown w8 dr osr).mono D8.out.1.size)
      generalize grow (redrawn w8 dr) osr = w9 at *
      clear c0' c1' c2' c3' t0' t1' t2' t3'
      go_wp2
      go_ret
      exact ⟨rfl, B9.out⟩
    · have tK : (ek == 3) = false := by simpa using hK
      have tK' : (ek != 3) = true := by simpa using hK
      go_wp2_with fail
      clear k0 k1 k2 e0 e1 e2
      obtain ⟨c0, c1, c2, c3⟩ := D8.out.2.2.2.1
      obtain ⟨t0, t1, t2, t3⟩ := T8.out.1
      have HQ : Hid (∀ d os', Below w8.heap.size w8 (grow (redrawn w8 d) os')) := fun d os' => below_regrown w8 d os'
      have c0' := cell_regrown c0
      have c1' := cell_regrown c1
      have c2' := cell_regrown c2
      have c3' := cell_regrown c3
      have t0' := cell_regrown t0
      have t1' := cell_regrown t1
      have t2' := cell_regrown t2
      have t3' := cell_regrown t3
      have bb : (stOkB n p rs os code == stOkB n p rs os code) = true := by simp
      generalize stOkB n p rs os code = Z at *
      refine wp_region_quiet_below (by kernel_rfl) (by kernel_rfl) ?_
      repeat (quiet_step (first | (go_at_call_of 14 (rt); exact Calls.regrown_of (HTk.out _ (HQ.out _ _))) | (go_at_call_of 14 (ra); exact Calls.regrown_of (HSi.out _ (HQ.out _ _))) | (go_at_call 15; exact Calls.regrown_of (HSp.out _ (HQ.out _ _))) | fail))
      refine wpQuiet_nil ?_
      intro _ hw'
      obtain ⟨⟨dr, osr⟩, hw''⟩ := hw'
      subst hw''
      have B9 : Hid (Below w0.heap.size w0 (grow (redrawn w8 dr) osr)) := D8.out.1.trans ((below_regrown w8 dr osr).mono D8.out.1.size)
      generalize grow (redrawn w8 dr) osr = w9 at *
      clear c0' c1' c2' c3' t0' t1' t2' t3'
      go_wp2
      go_ret
      exact ⟨rfl, B9.out⟩

set_option maxHeartbeats 400000 in
theorem only_big (a0 : Option Addr) (len cap : Nat) (w : World) (hl : 1048576 < len) :
    Calls Try.prog 3 #[.slice a0 len cap] w fun e w' => e = .returned (.bool true) ∧ Below w.heap.size w w' := by
  have hl' : (1048576 : Int) < (len : Int) := by omega
  go_enter Try.func3, Try.ntmps3
  go_wp2_with fail
  refine (big_any a0 len cap _).mono ?_
  rintro e w0 ⟨rfl, rfl⟩
  go_wp2
  go_ret
  exact ⟨rfl, Below.refl _ _⟩

end Go.Proofs.Ytmbmhpginegggaa
