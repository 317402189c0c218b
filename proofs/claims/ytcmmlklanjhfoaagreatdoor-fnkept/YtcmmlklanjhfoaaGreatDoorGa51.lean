/- The walk of the law on what is kept: FnKept. -/
import Derived.Test.YtcmmlklanjhfoaaGreatDoorGa39
import Derived.Test.YtcmmlklanjhfoaaGreatDoorGa34
import Derived.Test.YtcmmlklanjhfoaaGreatDoorGa15
import Derived.Test.YtcmmlklanjhfoaaGreatDoorGa50
import Derived.Test.YtcmmlklanjhfoaaGreatDoorGa49
import Derived.Test.YtcmmlklanjhfoaaGreatDoorGa40
import Derived.Test.YtcmmlklanjhfoaaGreatDoorGa42
import Derived.Test.YtcmmlklanjhfoaaGreatDoorGa44
import Derived.Deep.RegionWith
namespace Go.Proofs.YtcmmlklanjhfoaaGreatDoor
open Go.RowKit Go.Deep Go.Sort

set_option maxRecDepth 100000 in
set_option maxHeartbeats 1000000 in
theorem DrawKeepAll_any (B len cap : Nat) (a0 : Option Addr) (w : World) (hB : BytesAt w B a0 len) (hBw : B ≤ w.heap.size) (hl : len ≤ 1048576) :
    Calls Tryz.prog 6 #[.slice a0 len cap] w (DrawnE w) := by
  have HC := DrawReplay_any B len cap a0 w hB hBw hl
  clear hB hBw hl
  go_enter Tryz.func6, Tryz.ntmps6
  go_wp2_with fail
  refine HC.mono ?_
  clear HC
  rintro e w1 ⟨gl, n, gc, ge, k, ec, G, E, rfl, h⟩
  have HD : Hid (DrawnE w (.returned (.tuple #[.slice (some ⟨gl, 0, none⟩) n gc, .slice (some ⟨ge, 0, none⟩) k ec])) w1) := ⟨gl, n, gc, ge, k, ec, G, E, rfl, h⟩
  clear h
  go_wp2
  exact bodyPost_ret (v := .tuple #[.slice (some ⟨gl, 0, none⟩) n gc, .slice (some ⟨ge, 0, none⟩) k ec]) (by simp [results, Tryz.results6, go_sem]) rfl HD.out

/-- What the law holds between its rounds: the list, the events, the kept states. -/
structure Kf (w0 w : World) (gl n ge k D c : Nat) (G : Nat → I5) (E : Nat → E3) (q : Nat → K9) : Prop where
  be : Below w0.heap.size w0 w
  li : gl < w.heap.size ∧ InsAt w gl 0 n G
  ev : ge < w.heap.size ∧ EvAt w ge 0 k E
  ke : AllKept w (some ⟨D, 0, none⟩) c q
theorem Kf.below {w0 w w' : World} {gl n ge k D c : Nat} {G : Nat → I5} {E : Nat → E3} {q : Nat → K9} (h : Kf w0 w gl n ge k D c G E q) (hb : Below w.heap.size w w') : Kf w0 w' gl n ge k D c G E q :=
  ⟨h.be.trans (hb.mono h.be.size), ⟨Nat.lt_of_lt_of_le h.li.1 hb.size, h.li.2.below hb h.li.1⟩, ⟨Nat.lt_of_lt_of_le h.ev.1 hb.size, h.ev.2.below hb h.ev.1⟩, h.ke.below hb⟩

set_option maxRecDepth 100000 in
set_option maxHeartbeats 8000000 in
theorem keptDLaw_small (a0 : Option Addr) (len cap : Nat) (w : World) (hl : len ≤ 1048576) (hB : BytesAt w w.heap.size a0 len) (hV : w.cell? ⟨0, 0, none⟩ = some (.iface 120 (.agg #[.pointer (some ⟨1, 50, none⟩)]))) :
    Calls Tryz.prog 3 #[.slice a0 len cap] w fun e w' => e = .returned (.bool true) ∧ Below w.heap.size w w' := by
  have HB : Hid (BytesAt w w.heap.size a0 len) := hB
  have HV : Hid (w.cell? ⟨0, 0, none⟩ = some (.iface 120 (.agg #[.pointer (some ⟨1, 50, none⟩)]))) := hV
  have HV0 : Hid (0 < w.heap.size) := World.block_lt_of_cell? w _ hV
  clear hB hV
  go_enter Tryz.func3, Tryz.ntmps3
  go_wp2_with fail
  refine (big_any _ _ _ _).mono ?_
  rintro e w0 ⟨rfl, rfl⟩
  rw [show decide ((1048576 : Int) < (len : Int)) = false from decide_eq_false (by omega)]
  go_wp2_with fail
  refine (DrawKeepAll_any w0.heap.size len cap a0 w0 HB.out (Nat.le_refl _) hl).mono ?_
  rintro e w1 ⟨gl, n, gc, ge, k, ec, G, E, rfl, ⟨hn, hk, hkc⟩, ⟨zl, hI⟩, ⟨ze, hE⟩, b1⟩
  have B1 : Hid (Below w0.heap.size w0 w1) := b1
  have D1 : Hid ((gl < w1.heap.size ∧ InsAt w1 gl 0 n G) ∧ (ge < w1.heap.size ∧ EvAt w1 ge 0 k E)) := ⟨⟨zl, hI⟩, ze, hE⟩
  have HL : Hid (n ≤ maxLen) := by show n ≤ maxLen; unfold maxLen; omega
  have hk' : (k : Int) ≤ 25 := by omega
  have HKC : Hid (k ≤ ec) := hkc
  clear b1 zl hI ze hE hkc
  go_wp2_with fail
  refine (implKeepAll_any gl n gc (some ⟨ge, 0, none⟩) k ec G E w1 HL.out D1.out.1.1 D1.out.1.2 (.inr ⟨ge, 0, rfl, D1.out.2.1, D1.out.2.2⟩) (by omega)).mono ?_
  rintro e w2 ⟨D, kc, vs, rfl, o2, b2⟩
  obtain ⟨q, hq, he⟩ := o2.all
  have hlen := ka_len G n E k
  have HLn : Hid (kaN G n E k ≤ 26 ∧ (∀ i, i < kaN G n E k → (kaS G n E i).rs.length ≤ 4 ∧ (kaS G n E i).os.length ≤ 60)) := hlen
  have HQ : Hid (∀ i, (q i).n = ((8 * i : Nat) : Int) ∧ (q i).s = kaS G n E i) := he
  have F2 : Hid (Kf w0 w2 gl n ge k D (kaN G n E k) G E q) := ⟨B1.out.trans (b2.mono B1.out.size), ⟨Nat.lt_of_lt_of_le D1.out.1.1 b2.size, D1.out.1.2.below b2 D1.out.1.1⟩, ⟨Nat.lt_of_lt_of_le D1.out.2.1 b2.size, D1.out.2.2.below b2 D1.out.2.1⟩, hq⟩
  have hc1 : ((kaN G n E k : Nat) : Int) ≤ 26 := by omega
  clear hq he o2 b2 D1 B1 hlen
  generalize hc : kaN G n E k = c at *
  have HC : Hid (kaN G n E k = c) := hc
  clear hc
  go_wp2_with fail
  refine (specKeepAll_any gl n gc (some ⟨ge, 0, none⟩) k ec G E w2 HL.out F2.out.li.1 F2.out.li.2 (.inr ⟨ge, 0, rfl, F2.out.ev.1, F2.out.ev.2⟩) (by omega) HKC.out).mono ?_
  rintro e w3 ⟨a3, kc3, vs3, rfl, -, b3, -⟩
  rw [HC.out]
  have F3 : Hid (Kf w0 w3 gl n ge k D c G E q) := F2.out.below b3
  clear b3 F2
  go_wp2_with fail
  refine (implReplay_any gl n gc ge 0 k ec G E w3 HL.out F3.out.li.1 F3.out.li.2 F3.out.ev.1 F3.out.ev.2 (by omega) ((F3.out.be.cell (p := ⟨0, 0, none⟩) HV0.out).trans HV.out)).mono ?_
  rintro e w4 ⟨v4, rfl, o4, b4⟩
  obtain ⟨ra, rc, oa, oc, rfl, -, -⟩ := o4.read
  generalize hs : (repO G n E k).isSome = ok at *
  have HS : Hid ((repO G n E k).isSome = ok) := hs
  clear hs
  generalize resS (repO G n E k) = S0 at *
  have F4 : Hid (Kf w0 (w4.alloc (.cells #[.int .i64 S0.p, .slice ra S0.rs.length rc, .slice oa S0.os.length oc, .int .i64 S0.c] 32)) gl n ge k D c G E q) := (F3.out.below b4).below (below_alloc _ _)
  clear o4 b4 F3
  go_upto_region 8 with fail
  generalize w4.alloc (.cells #[.int .i64 S0.p, .slice ra S0.rs.length rc, .slice oa S0.os.length oc, .int .i64 S0.c] 32) = w5 at *
  cases ok
  case false =>
    have hc0 : c = 0 := by
      rw [← HC.out]
      unfold kaN
      rw [HS.out]
      rfl
    subst hc0
    have B5 : Hid (Below w0.heap.size w0 w5) := F4.out.be
    clear F4
    go_wp2
    go_ret
    exact ⟨rfl, B5.out⟩
  case true =>
    have HC8 : Hid (c = k / 8 + 1) := by
      show c = k / 8 + 1
      rw [← HC.out]
      unfold kaN
      rw [HS.out]
      rfl
    have HLq : Hid (∀ i, i < c → (q i).rs.length ≤ 1048576 ∧ (q i).os.length ≤ 1048576) := fun i hi => by
      have h1 := HLn.out.2 i hi
      have h2 : (q i).rs = (kaS G n E i).rs ∧ (q i).os = (kaS G n E i).os := ⟨congrArg S4.rs (HQ.out i).2, congrArg S4.os (HQ.out i).2⟩
      rw [h2.1, h2.2]
      omega
    have HW : Hid (∀ i, i < c → (Lit.int .i64 (q i).n).wf = true) := fun i hi => by
      have h1 := HLn.out.1
      rw [(HQ.out i).1]
      simp [Lit.wf, IntKind.min, IntKind.max, IntKind.bits, IntKind.signed]
      omega
    have HQ8 : Hid (∀ i, i < k / 8 + 1 → (q i).n = ((8 * i : Nat) : Int) ∧ (q i).s = kaS G n E i) := fun i _ => HQ.out i
    have hcc : c ≤ 1048576 := by omega
    go_wp2_with fail
    refine (implKeptOk_any gl n gc (some ⟨ge, 0, none⟩) k ec (some ⟨D, 0, none⟩) c kc G E q w5 HL.out F4.out.li.1 F4.out.li.2 (.inr ⟨ge, 0, rfl, F4.out.ev.1, F4.out.ev.2⟩) (by omega) hcc F4.out.ke HLq.out HW.out).mono ?_
    rintro e w6 ⟨rfl, b6⟩
    rw [show pB (KpOk G n E k q c) = true from pB_true (by rw [HC8.out]; exact ka_ok HS.out HQ8.out)]
    have F6 : Hid (Kf w0 w6 gl n ge k D c G E q) := F4.out.below b6
    clear b6 F4
    go_wp2_with fail
    go_loopw [8] (fun i wr => ∃ j : Nat, j ≤ k + 1 ∧ i = .int .i64 j ∧ Hid (Kf w0 wr gl n ge k D c G E q)) (fun i _ => k + 1 - (intOf i).toNat)
    case atStart => exact ⟨0, by omega, rfl, F6.out⟩
    case round =>
      clear F6
      obtain ⟨j, hj, rfl, HF⟩ := hrel
      by_cases hjk : j ≤ k
      · have hjk' : (j : Int) ≤ (k : Int) := by omega
        obtain ⟨r1, r2, r3⟩ := ka_rs HS.out HQ8.out hjk
        rw [← HC8.out] at r1 r2
        generalize hz : ((j % 8 : Nat) : Int) = z at r1
        have z0 : ¬ z < 0 := by omega
        have z8 : ¬ z ≥ 8 := by omega
        have R1 : Hid (rsK G n E k q c j = z) := r1
        clear hz
        obtain ⟨S, hS⟩ := Option.isSome_iff_exists.1 r3
        have R2 : Hid (rsS G n E k q c j = S ∧ repO G n E j = some S) := ⟨by rw [r2, hS]; rfl, hS⟩
        have hSl : S.rs.length ≤ 1048576 ∧ S.os.length ≤ 1048576 := by
          unfold repO at hS
          by_cases h1 : progOkB G n 4 = true ∧ j ≤ 200
          · rw [if_pos h1] at hS
            have := OkS.len (rp_ok h1.1 _ _ hS)
            omega
          · rw [if_neg h1] at hS
            cases hS
        have HSl : Hid (S.rs.length ≤ 1048576 ∧ S.os.length ≤ 1048576) := hSl
        have hsl := slice_kp (some ⟨ge, 0, none⟩) k ec j (Nat.le_trans hjk HKC.out)
        clear r1 r2 r3 hS hSl
        go_wp2_with fail
        refine (implRestore_any gl n gc (some ⟨ge, 0, none⟩) k ec (some ⟨D, 0, none⟩) c kc G E q j wr HL.out HF.out.li.1 HF.out.li.2 (.inr ⟨ge, 0, rfl, HF.out.ev.1, HF.out.ev.2⟩) (by omega) HKC.out hcc HF.out.ke HLq.out HW.out).mono ?_
        rintro e w7 ⟨v7, rfl, o7, b7⟩
        rw [R2.out.1] at o7
        obtain ⟨ra7, rc7, oa7, oc7, rfl, -, -⟩ := o7.read
        rw [R1.out]
        have F8 : Hid (Kf w0 (w7.alloc (.cells #[.int .i64 S.p, .slice ra7 S.rs.length rc7, .slice oa7 S.os.length oc7, .int .i64 S.c] 32)) gl n ge k D c G E q) := (HF.out.below b7).below (below_alloc _ _)
        have T8 : Hid (Tl (w7.alloc (.cells #[.int .i64 S.p, .slice ra7 S.rs.length rc7, .slice oa7 S.os.length oc7, .int .i64 S.c] 32)) wr.heap.size (w7.heap.size + 1) w7.heap.size S.p S.c ra7 S.rs.length rc7 oa7 S.os.length oc7 S.rs S.os) := Tl.of_alloc o7 b7.size _
        clear o7 b7 HF
        go_upto_region 16 with fail
        generalize w7.alloc (.cells #[.int .i64 S.p, .slice ra7 S.rs.length rc7, .slice oa7 S.os.length oc7, .int .i64 S.c] 32) = w8 at *
        generalize w7.heap.size = X at *
        go_wp2_with fail
        clear hsl
        refine (implReplay_any gl n gc ge 0 j ec G E w8 HL.out F8.out.li.1 F8.out.li.2 F8.out.ev.1 (fun i hi => F8.out.ev.2 i (by omega)) (by omega) ((F8.out.be.cell (p := ⟨0, 0, none⟩) HV0.out).trans HV.out)).mono ?_
        rintro e w9 hd
        rw [R2.out.2] at hd
        have hd' : DoneR w8 S true e w9 := hd
        clear hd
        obtain ⟨v9, rfl, o9, b9⟩ := hd'
        obtain ⟨ra9, rc9, oa9, oc9, rfl, -, -⟩ := o9.read
        have F10 : Hid (Kf w0 (w9.alloc (.cells #[.int .i64 S.p, .slice ra9 S.rs.length rc9, .slice oa9 S.os.length oc9, .int .i64 S.c] 32)) gl n ge k D c G E q) := (F8.out.below b9).below (below_alloc _ _)
        have T10 : Hid (Tl (w9.alloc (.cells #[.int .i64 S.p, .slice ra9 S.rs.length rc9, .slice oa9 S.os.length oc9, .int .i64 S.c] 32)) wr.heap.size (X + 1) X S.p S.c ra7 S.rs.length rc7 oa7 S.os.length oc7 S.rs S.os) := (T8.out.below b9).below (below_alloc _ _)
        have U10 : Hid (Tl (w9.alloc (.cells #[.int .i64 S.p, .slice ra9 S.rs.length rc9, .slice oa9 S.os.length oc9, .int .i64 S.c] 32)) w8.heap.size (w9.heap.size + 1) w9.heap.size S.p S.c ra9 S.rs.length rc9 oa9 S.os.length oc9 S.rs S.os) := Tl.of_alloc o9 b9.size _
        clear o9 b9 F8 T8
        go_upto_region 17 with fail
        generalize w9.alloc (.cells #[.int .i64 S.p, .slice ra9 S.rs.length rc9, .slice oa9 S.os.length oc9, .int .i64 S.c] 32) = w10 at *
        generalize w9.heap.size = Y at *
        obtain ⟨x0, x1, x2, x3⟩ := T10.out.box
        obtain ⟨y0, y1, y2, y3⟩ := U10.out.box
        go_wp2_with fail
        clear x0 x1 x2 x3 y0 y1 y2 y3
        refine (sameState_same S.p S.c ra7 oa7 ra9 oa9 rc7 oc7 rc9 oc9 S.rs S.os w10 HSl.out.1 HSl.out.2 T10.out.sl.1 T10.out.sl.2 U10.out.sl.1 U10.out.sl.2).mono ?_
        rintro e w11 ⟨rfl, b11⟩
        have F11 : Hid (Kf w0 w11 gl n ge k D c G E q) := F10.out.below b11
        clear b11 F10 T10 U10
        go_wp2_with fail
        refine (implAgain_any gl n gc (some ⟨ge, 0, none⟩) k ec (some ⟨D, 0, none⟩) c kc G E q j w11 HL.out F11.out.li.1 F11.out.li.2 (.inr ⟨ge, 0, rfl, F11.out.ev.1, F11.out.ev.2⟩) (by omega) HKC.out hcc F11.out.ke HLq.out HW.out).mono ?_
        rintro e w12 ⟨rfl, b12⟩
        rw [R1.out]
        have F12 : Hid (Kf w0 w12 gl n ge k D c G E q) := F11.out.below b12
        clear b12 F11
        go_wp2
        go_roundw
        case rel => exact ⟨j + 1, by omega, by go_num, F12.out⟩
        case measure => simp [intOf]; omega
      · have hjk' : ¬ (j : Int) ≤ (k : Int) := by omega
        have HBe : Hid (Below w0.heap.size w0 wr) := HF.out.be
        clear HF
        go_wp2
        go_ret
        exact ⟨rfl, HBe.out⟩

set_option maxHeartbeats 1000000 in
theorem keptDLaw_great (a0 : Option Addr) (len cap : Nat) (w : World) (_hm : len ≤ maxLen) (hs : 1048576 < len) :
    Calls Tryz.prog 3 #[.slice a0 len cap] w fun e w' => e = .returned (.bool true) ∧ Below w.heap.size w w' := by
  go_enter Tryz.func3, Tryz.ntmps3
  go_wp2_with fail
  refine (big_any _ _ _ _).mono ?_
  rintro e w0 ⟨rfl, rfl⟩
  rw [show decide ((1048576 : Int) < (len : Int)) = true from decide_eq_true (by omega)]
  go_wp2
  go_ret
  exact ⟨rfl, Below.refl _ _⟩

end Go.Proofs.YtcmmlklanjhfoaaGreatDoor
