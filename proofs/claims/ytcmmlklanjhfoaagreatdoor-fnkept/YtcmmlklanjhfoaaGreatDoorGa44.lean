/- Proved: whatever bytes the draw is made of, what the program restores from drawn kept states is what it replays, its Restore, KeptOk and Again answer as the model's. One condition, tied to the program's text: errors.errorType holds what its text lays. -/
import Derived.Test.YtcmmlklanjhfoaaGreatDoorGa43
import Derived.Test.YtcmmlklanjhfoaaGreatDoorGa39
import Derived.Test.YtcmmlklanjhfoaaGreatDoorGa15
import Derived.Test.YtcmmlklanjhfoaaGreatDoorGa41
import Derived.Test.YtcmmlklanjhfoaaGreatDoorGa42
import Derived.Test.YtcmmlklanjhfoaaGreatDoorGa40
import Derived.Deep.RegionWith
import Derived.Test.YtcmmlklanjhfoaaGreatDoorGa29
import Derived.Test.YtcmmlklanjhfoaaGreatDoorCards
import Derived.SevenTiedAt
namespace Go.Proofs.YtcmmlklanjhfoaaGreatDoor
open Go.ChangeShapes Go.WideShapes Go.ChangeAt Go.RowKit Go.Deep

set_option maxRecDepth 100000 in
set_option maxHeartbeats 1000000 in
theorem implAgain_any (gb n gc : Nat) (ea : Option Addr) (m ec : Nat) (ka : Option Addr) (c kc : Nat) (g : Nat → I5) (eh : Nat → E3) (q : Nat → K9) (z : Int) (w : World) (hn : n ≤ maxLen) (hg : gb < w.heap.size) (hI : InsAt w gb 0 n g) (hE : EvL w ea m eh) (hm : m ≤ 1048576) (hec : m ≤ ec) (hc : c ≤ 1048576) (hA : AllKept w ka c q) (hl : ∀ i, i < c → (q i).rs.length ≤ 1048576 ∧ (q i).os.length ≤ 1048576) (hw : ∀ i, i < c → (Lit.int .i64 (q i).n).wf = true) :
    Calls Tryz.prog 13 #[.slice (some ⟨gb, 0, none⟩) n gc, .slice ea m ec, .slice ka c kc, .int .i64 z] w fun e w' => e = .returned (.int .i64 (rsK g n eh m q c z)) ∧ Below w.heap.size w w' := by
  have HC := implRestore_any gb n gc ea m ec ka c kc g eh q z w hn hg hI hE hm hec hc hA hl hw
  generalize rsK g n eh m q c z = K0 at *
  generalize rsS g n eh m q c z = S0 at *
  clear hn hI hE hA hl hw
  go_enter Tryz.func13, Tryz.ntmps13
  go_wp2_with fail
  refine HC.mono ?_
  rintro e w1 ⟨v, rfl, o, b1⟩
  obtain ⟨ra, rc, oa, oc, rfl, -, -⟩ := o.read
  have B1 : Hid (Below w.heap.size w w1) := b1
  clear b1 o HC
  go_wp2
  go_ret
  exact ⟨rfl, B1.out.trans ((below_alloc _ _).mono B1.out.size)⟩

end Go.Proofs.YtcmmlklanjhfoaaGreatDoor

namespace Go.Proofs.YtcmmlklanjhfoaaGreatDoor
open Go.RowKit Go.Deep Go.Sort

theorem rs_lenD (g : Nat → I5) (n : Nat) (eh : Nat → E3) (m : Nat) (q : Nat → K9) (c : Nat) (z : Int) : (rsS g n eh m q c z).rs.length ≤ 1048576 ∧ (rsS g n eh m q c z).os.length ≤ 1048576 := by
  by_cases h : RsOk g n eh m q c z
  · obtain ⟨a, j, S, Sm, -, -, -, -, -, -, -, hS, -, hp, e, -⟩ := rs_yes h
    have := OkS.len (rp_ok hp _ _ hS)
    rw [e]
    omega
  · rw [(rs_no h).1]
    exact ⟨Nat.zero_le _, Nat.zero_le _⟩
/-- Either nothing is restored, or what is replayed, with no more done again than there are. -/
theorem rs_two (g : Nat → I5) (n : Nat) (eh : Nat → E3) (m : Nat) (q : Nat → K9) (c : Nat) (z : Int) : (rsK g n eh m q c z < 0 ∧ (rsS g n eh m q c z).rs.length = 0) ∨ (¬ rsK g n eh m q c z < 0 ∧ ∃ j : Nat, z = j ∧ j ≤ m ∧ rsK g n eh m q c z ≤ j ∧ repO g n eh j = some (rsS g n eh m q c z)) := by
  by_cases h : RsOk g n eh m q c z
  · obtain ⟨a, j, S, Sm, e1, h1, h2, h3, -, -, -, hS, -, hp, e, ek⟩ := rs_yes h
    refine .inr ⟨by rw [ek]; omega, j, e1, h2, by rw [ek]; omega, ?_⟩
    rw [e]
    unfold repO
    rw [if_pos ⟨hp, by omega⟩]
    exact hS
  · rw [(rs_no h).1, (rs_no h).2]
    exact .inl ⟨by omega, rfl⟩

/-- What the law holds: the list, the events, the kept states. -/
structure Kg (w0 w : World) (gl n ge k : Nat) (ka : Option Addr) (c : Nat) (G : Nat → I5) (E : Nat → E3) (q : Nat → K9) : Prop where
  be : Below w0.heap.size w0 w
  li : gl < w.heap.size ∧ InsAt w gl 0 n G
  ev : ge < w.heap.size ∧ EvAt w ge 0 k E
  ke : AllKept w ka c q
theorem Kg.below {w0 w w' : World} {gl n ge k c : Nat} {ka : Option Addr} {G : Nat → I5} {E : Nat → E3} {q : Nat → K9} (h : Kg w0 w gl n ge k ka c G E q) (hb : Below w.heap.size w w') : Kg w0 w' gl n ge k ka c G E q :=
  ⟨h.be.trans (hb.mono h.be.size), ⟨Nat.lt_of_lt_of_le h.li.1 hb.size, h.li.2.below hb h.li.1⟩, ⟨Nat.lt_of_lt_of_le h.ev.1 hb.size, h.ev.2.below hb h.ev.1⟩, h.ke.below hb⟩

set_option maxRecDepth 100000 in
set_option maxHeartbeats 8000000 in
theorem restoreDLaw_small (a0 : Option Addr) (len cap : Nat) (w : World) (hl : len ≤ 1048576) (hB : BytesAt w w.heap.size a0 len) (hV : w.cell? ⟨0, 0, none⟩ = some (.iface 120 (.agg #[.pointer (some ⟨1, 50, none⟩)]))) :
    Calls Tryz.prog 4 #[.slice a0 len cap] w fun e w' => e = .returned (.bool true) ∧ Below w.heap.size w w' := by
  have HB : Hid (BytesAt w w.heap.size a0 len) := hB
  have HV : Hid (w.cell? ⟨0, 0, none⟩ = some (.iface 120 (.agg #[.pointer (some ⟨1, 50, none⟩)]))) := hV
  have HV0 : Hid (0 < w.heap.size) := World.block_lt_of_cell? w _ hV
  clear hB hV
  go_enter Tryz.func4, Tryz.ntmps4
  go_wp2_with fail
  refine (big_any _ _ _ _).mono ?_
  rintro e w0 ⟨rfl, rfl⟩
  rw [show decide ((1048576 : Int) < (len : Int)) = false from decide_eq_false (by omega)]
  go_wp2_with fail
  refine (DrawRestore_any w0.heap.size len cap a0 w0 HB.out (Nat.le_refl _) hl).mono ?_
  rintro e w1 ⟨gl, n, gc, ge, k, ec, G, E, ka, c, kc, q, z, rfl, ⟨hn, hk, hkc⟩, ⟨zl, hI⟩, ⟨ze, hE⟩, hA, ⟨hc, hq⟩, ⟨hz0, hz1⟩, b1⟩
  have F1 : Hid (Kg w0 w1 gl n ge k ka c G E q) := ⟨b1, ⟨zl, hI⟩, ⟨ze, hE⟩, hA⟩
  have HL : Hid (n ≤ maxLen) := by show n ≤ maxLen; unfold maxLen; omega
  have hk' : (k : Int) ≤ 25 := by omega
  have hc' : (c : Int) ≤ 27 := by omega
  have HKC : Hid (k ≤ ec) := hkc
  have HLq : Hid (∀ i, i < c → (q i).rs.length ≤ 1048576 ∧ (q i).os.length ≤ 1048576) := fun i hi => by
    have h1 := hq i hi
    omega
  have HW : Hid (∀ i, i < c → (Lit.int .i64 (q i).n).wf = true) := fun i hi => by
    have h1 := hq i hi
    simp [Lit.wf, IntKind.min, IntKind.max, IntKind.bits, IntKind.signed]
    omega
  have hs := rs_lenD G n E k q c z
  have ht := rs_two G n E k q c z
  have HR : Hid (∀ wx, Kg w0 wx gl n ge k ka c G E q → Calls Tryz.prog 11 #[.slice (some ⟨gl, 0, none⟩) n gc, .slice (some ⟨ge, 0, none⟩) k ec, .slice ka c kc, .int .i64 z] wx (ResR wx (rsS G n E k q c z) (rsK G n E k q c z))) := fun wx F => implRestore_any gl n gc (some ⟨ge, 0, none⟩) k ec ka c kc G E q z wx HL.out F.li.1 F.li.2 (.inr ⟨ge, 0, rfl, F.ev.1, F.ev.2⟩) (by omega) hkc (by omega) F.ke HLq.out HW.out
  have HM : Hid (∀ wx, Kg w0 wx gl n ge k ka c G E q → Calls Tryz.prog 15 #[.slice (some ⟨gl, 0, none⟩) n gc, .slice (some ⟨ge, 0, none⟩) k ec, .slice ka c kc, .int .i64 z] wx (ResR wx (rsS G n E k q c z) (rsK G n E k q c z))) := fun wx F => specRestore_any gl n gc (some ⟨ge, 0, none⟩) k ec ka c kc G E q z wx HL.out F.li.1 F.li.2 (.inr ⟨ge, 0, rfl, F.ev.1, F.ev.2⟩) (by omega) hkc (by omega) F.ke HLq.out
  have HG : Hid (∀ wx, Kg w0 wx gl n ge k ka c G E q → Calls Tryz.prog 13 #[.slice (some ⟨gl, 0, none⟩) n gc, .slice (some ⟨ge, 0, none⟩) k ec, .slice ka c kc, .int .i64 z] wx fun e w' => e = .returned (.int .i64 (rsK G n E k q c z)) ∧ Below wx.heap.size wx w') := fun wx F => implAgain_any gl n gc (some ⟨ge, 0, none⟩) k ec ka c kc G E q z wx HL.out F.li.1 F.li.2 (.inr ⟨ge, 0, rfl, F.ev.1, F.ev.2⟩) (by omega) hkc (by omega) F.ke HLq.out HW.out
  have HK : Hid (∀ wx, Kg w0 wx gl n ge k ka c G E q → Calls Tryz.prog 10 #[.slice (some ⟨gl, 0, none⟩) n gc, .slice (some ⟨ge, 0, none⟩) k ec, .slice ka c kc] wx fun e w' => e = .returned (.bool (pB (KpOk G n E k q c))) ∧ Below wx.heap.size wx w') := fun wx F => implKeptOk_any gl n gc (some ⟨ge, 0, none⟩) k ec ka c kc G E q wx HL.out F.li.1 F.li.2 (.inr ⟨ge, 0, rfl, F.ev.1, F.ev.2⟩) (by omega) (by omega) F.ke HLq.out HW.out
  have HJ : Hid (∀ wx, Kg w0 wx gl n ge k ka c G E q → Calls Tryz.prog 16 #[.slice (some ⟨gl, 0, none⟩) n gc, .slice (some ⟨ge, 0, none⟩) k ec, .slice ka c kc] wx fun e w' => e = .returned (.bool (pB (KpOk G n E k q c))) ∧ Below wx.heap.size wx w') := fun wx F => specKeptOk_any gl n gc (some ⟨ge, 0, none⟩) k ec ka c kc G E q wx HL.out F.li.1 F.li.2 (.inr ⟨ge, 0, rfl, F.ev.1, F.ev.2⟩) (by omega) hkc (by omega) F.ke HLq.out
  generalize rsS G n E k q c z = S at *
  generalize rsK G n E k q c z = K at *
  generalize pB (KpOk G n E k q c) = T at *
  have hT : (T != T) = false := by simp
  have hKK : (K != K) = false := by simp
  have HT : Hid ((K < 0 ∧ S.rs.length = 0) ∨ (¬ K < 0 ∧ ∃ j : Nat, z = j ∧ j ≤ k ∧ K ≤ j ∧ repO G n E j = some S)) := ht
  have HS : Hid (S.rs.length ≤ 1048576 ∧ S.os.length ≤ 1048576) := hs
  clear b1 zl hI ze hE hkc hA hq hn hk hc hs ht HLq HW HB
  go_wp2_with fail
  refine (HR.out w1 F1.out).mono ?_
  rintro e w2 ⟨v2, rfl, o2, b2⟩
  obtain ⟨ra2, rc2, oa2, oc2, rfl, -, -⟩ := o2.read
  have F3 : Hid (Kg w0 (w2.alloc (.cells #[.int .i64 S.p, .slice ra2 S.rs.length rc2, .slice oa2 S.os.length oc2, .int .i64 S.c] 32)) gl n ge k ka c G E q) := (F1.out.below b2).below (below_alloc _ _)
  have T3 : Hid (Tl (w2.alloc (.cells #[.int .i64 S.p, .slice ra2 S.rs.length rc2, .slice oa2 S.os.length oc2, .int .i64 S.c] 32)) w1.heap.size (w2.heap.size + 1) w2.heap.size S.p S.c ra2 S.rs.length rc2 oa2 S.os.length oc2 S.rs S.os) := Tl.of_alloc o2 b2.size _
  clear o2 b2 F1
  go_upto_region 5 with fail
  generalize w2.alloc (.cells #[.int .i64 S.p, .slice ra2 S.rs.length rc2, .slice oa2 S.os.length oc2, .int .i64 S.c] 32) = w3 at *
  generalize w2.heap.size = X at *
  generalize w1.heap.size = B1 at *
  go_wp2_with fail
  refine (HM.out w3 F3.out).mono ?_
  rintro e w4 ⟨v4, rfl, o4, b4⟩
  obtain ⟨ra4, rc4, oa4, oc4, rfl, -, -⟩ := o4.read
  have F5 : Hid (Kg w0 (w4.alloc (.cells #[.int .i64 S.p, .slice ra4 S.rs.length rc4, .slice oa4 S.os.length oc4, .int .i64 S.c] 32)) gl n ge k ka c G E q) := (F3.out.below b4).below (below_alloc _ _)
  have T5 : Hid (Tl (w4.alloc (.cells #[.int .i64 S.p, .slice ra4 S.rs.length rc4, .slice oa4 S.os.length oc4, .int .i64 S.c] 32)) B1 (X + 1) X S.p S.c ra2 S.rs.length rc2 oa2 S.os.length oc2 S.rs S.os) := (T3.out.below b4).below (below_alloc _ _)
  clear o4 b4 F3 T3
  go_upto_region 6 with fail
  generalize w4.alloc (.cells #[.int .i64 S.p, .slice ra4 S.rs.length rc4, .slice oa4 S.os.length oc4, .int .i64 S.c] 32) = w5 at *
  generalize w4.heap.size = X4 at *
  go_wp2_with fail
  refine (HK.out w5 F5.out).mono ?_
  rintro e w6 ⟨rfl, b6⟩
  have F6 : Hid (Kg w0 w6 gl n ge k ka c G E q) := F5.out.below b6
  have T6 : Hid (Tl w6 B1 (X + 1) X S.p S.c ra2 S.rs.length rc2 oa2 S.os.length oc2 S.rs S.os) := T5.out.below b6
  clear b6 F5 T5
  go_wp2_with fail
  refine (HJ.out w6 F6.out).mono ?_
  rintro e w7 ⟨rfl, b7⟩
  have F7 : Hid (Kg w0 w7 gl n ge k ka c G E q) := F6.out.below b7
  have T7 : Hid (Tl w7 B1 (X + 1) X S.p S.c ra2 S.rs.length rc2 oa2 S.os.length oc2 S.rs S.os) := T6.out.below b7
  clear b7 F6 T6
  go_wp2_with fail
  refine (HG.out w7 F7.out).mono ?_
  rintro e w8 ⟨rfl, b8⟩
  have F8 : Hid (Kg w0 w8 gl n ge k ka c G E q) := F7.out.below b8
  have T8 : Hid (Tl w8 B1 (X + 1) X S.p S.c ra2 S.rs.length rc2 oa2 S.os.length oc2 S.rs S.os) := T7.out.below b8
  clear b8 F7 T7 HR HM HG HK HJ
  go_upto_region 8 with fail
  rcases HT.out with ⟨h1, h2⟩ | ⟨h1, j, rfl, h2, h3, h4⟩
  · obtain ⟨x0, x1, x2, x3⟩ := T8.out.box
    have hS0 : ((S.rs.length : Nat) : Int) = 0 := by omega
    have BE : Hid (Below w0.heap.size w0 w8) := F8.out.be
    clear h2 HT T8 F8
    go_wp2
    go_ret
    exact ⟨by first | rfl | simp [hS0], BE.out⟩
  · have hsl := slice_kp (some ⟨ge, 0, none⟩) k ec j (Nat.le_trans h2 HKC.out)
    have HR : Hid (repO G n E j = some S) := h4
    have H2 : Hid (j ≤ k) := h2
    clear h4 HT
    go_wp2_with fail
    clear hsl
    refine (implReplay_any gl n gc ge 0 j ec G E w8 HL.out F8.out.li.1 F8.out.li.2 F8.out.ev.1 (fun i hi => F8.out.ev.2 i (by have := H2.out; omega)) (by have := H2.out; omega) ((F8.out.be.cell (p := ⟨0, 0, none⟩) HV0.out).trans HV.out)).mono ?_
    rintro e w9 hd
    rw [HR.out] at hd
    have hd' : DoneR w8 S true e w9 := hd
    clear hd
    obtain ⟨v9, rfl, o9, b9⟩ := hd'
    obtain ⟨ra9, rc9, oa9, oc9, rfl, -, -⟩ := o9.read
    have F10 : Hid (Kg w0 (w9.alloc (.cells #[.int .i64 S.p, .slice ra9 S.rs.length rc9, .slice oa9 S.os.length oc9, .int .i64 S.c] 32)) gl n ge k ka c G E q) := (F8.out.below b9).below (below_alloc _ _)
    have T10 : Hid (Tl (w9.alloc (.cells #[.int .i64 S.p, .slice ra9 S.rs.length rc9, .slice oa9 S.os.length oc9, .int .i64 S.c] 32)) B1 (X + 1) X S.p S.c ra2 S.rs.length rc2 oa2 S.os.length oc2 S.rs S.os) := (T8.out.below b9).below (below_alloc _ _)
    have U10 : Hid (Tl (w9.alloc (.cells #[.int .i64 S.p, .slice ra9 S.rs.length rc9, .slice oa9 S.os.length oc9, .int .i64 S.c] 32)) w8.heap.size (w9.heap.size + 1) w9.heap.size S.p S.c ra9 S.rs.length rc9 oa9 S.os.length oc9 S.rs S.os) := Tl.of_alloc o9 b9.size _
    clear o9 b9 F8 T8
    go_upto_region 11 with fail
    generalize w9.alloc (.cells #[.int .i64 S.p, .slice ra9 S.rs.length rc9, .slice oa9 S.os.length oc9, .int .i64 S.c] 32) = w10 at *
    generalize w9.heap.size = Y at *
    obtain ⟨x0, x1, x2, x3⟩ := T10.out.box
    obtain ⟨y0, y1, y2, y3⟩ := U10.out.box
    go_wp2_with fail
    clear x0 x1 x2 x3 y0 y1 y2 y3
    refine (sameState_same S.p S.c ra2 oa2 ra9 oa9 rc2 oc2 rc9 oc9 S.rs S.os w10 HS.out.1 HS.out.2 T10.out.sl.1 T10.out.sl.2 U10.out.sl.1 U10.out.sl.2).mono ?_
    rintro e w11 ⟨rfl, b11⟩
    have BE : Hid (Below w0.heap.size w0 w11) := (F10.out.below b11).be
    clear b11 F10 T10 U10
    go_wp2
    go_ret
    exact ⟨by first | rfl | simp [h3], BE.out⟩

set_option maxHeartbeats 1000000 in
theorem restoreDLaw_great (a0 : Option Addr) (len cap : Nat) (w : World) (_hm : len ≤ maxLen) (hs : 1048576 < len) :
    Calls Tryz.prog 4 #[.slice a0 len cap] w fun e w' => e = .returned (.bool true) ∧ Below w.heap.size w w' := by
  go_enter Tryz.func4, Tryz.ntmps4
  go_wp2_with fail
  refine (big_any _ _ _ _).mono ?_
  rintro e w0 ⟨rfl, rfl⟩
  rw [show decide ((1048576 : Int) < (len : Int)) = true from decide_eq_true (by omega)]
  go_wp2
  go_ret
  exact ⟨rfl, Below.refl _ _⟩

end Go.Proofs.YtcmmlklanjhfoaaGreatDoor

namespace Go.Proofs.YtcmmlklanjhfoaaGreatDoor
open Go.ChangeShapes Go.WideShapes Go.ChangeAt Go.RowKit Go.Deep

set_option maxRecDepth 100000 in
theorem restoreDLifted (os : Os) (started : os.Started) (H : Type) (enc : TypeId × Value → H) :
    ReturnsInHanded {} Tryz.checked os 4 .any (fun w args => (Rows.fnRestoreSpec.pre enc Tryz.prog Tryz.f4 [] false w args ∧ laidMetH Tryz.prog [("errors.errorType", Rows.laid_errors_errorType)] w) ∧ sizedMet enc Tryz.prog Tryz.f4 (OpenSpec.ofChange Rows.fnRestoreSpec) false w args)
      (Rows.fnRestoreSpec.post enc Tryz.prog Tryz.f4 false true false false) := by
  refine returnsInHanded_of_change_and (C := Tryz.checked) (X := fun w _ => laidMetH Tryz.prog [("errors.errorType", Rows.laid_errors_errorType)] w) (fun _ _ _ hh h => h.of_heap hh) Tryz.own started (by kernel_rfl) Tryz.func4
    (ChangeSpec.witness_at (enc := enc) (C := Tryz.checked) (os := os) (X := fun w _ => laidMetH Tryz.prog [("errors.errorType", Rows.laid_errors_errorType)] w) false (laidWorld os) #[.slice none 0 0] 8 rfl (by kernel_rfl) (by kernel_rfl) (by kernel_rfl) (by kernel_rfl) (by kernel_rfl) (laidWorld_met os _)) ?_
  intro W base args ds gs before hval0 hW _ _ hL _
  have hval : ∀ (j : Nat) t v, Tryz.f4.params[j]? = some t → args[j]? = some v → Value.okWide Tryz.prog W .any base t v := hval0
  have hW' := hW
  obtain ⟨p, q, hA0, hV, rfl, hfz, hnd⟩ := hW
  have hA : DataW.TrodAll enc Tryz.prog W 0 (fun _ => true) true Tryz.f4.params.toList args.toList ds p := hA0
  rw [Tryz.params4] at hA hval
  obtain ⟨v0, d0, rfl, rfl, h0⟩ := trodAll_one hA
  obtain ⟨rfl, rfl⟩ := trodVars_none hV
  have lt0 : ∀ x ∈ p, x.block < W.heap.size := by obtain ⟨m, hm⟩ := h0; exact DataW.trod_lt m _ _ _ hm
  have hg := handle_of_laid hL
  clear hA0 hval0
  have hlaw : Calls Tryz.prog 4 #[v0] W fun e w' => e = .returned (.bool true) ∧ Below W.heap.size W w' := by
    obtain ⟨a0, len, cap, rfl⟩ := okWide_slice Tryz.underlying22 (hval 0 22 v0 rfl rfl)
    obtain ⟨hm, hB⟩ := open_bytes h0
    by_cases hs : len ≤ 1048576
    · exact restoreDLaw_small a0 len cap W hs hB hg
    · exact restoreDLaw_great a0 len cap W hm (by omega)
  refine hlaw.mono fun e W' ⟨he, bel⟩ => ?_
  subst he
  exact ⟨_, rfl, _, _, _, [], _, [], hW', trodAll_mk1 (shut_bool Tryz.underlying4 _), trodAll_mk1 (Below.trod Tryz.laidOut (by kernel_rfl) (of_decide_eq_true (by kernel_rfl)) h0 bel lt0), rfl, bel.frame _, fun h => by cases h⟩

theorem restoreDSaid : Rows.FnRestoreSaid :=
  OpenClaim.holds_of_wide 4 Tryz.f4 rfl rfl rfl rfl rfl rfl rfl ⟨rfl, rfl, rfl, rfl, rfl⟩ rfl rfl rfl rfl rfl (by kernel_rfl) Tryz.func4 (by kernel_rfl)
    (of_decide_eq_true (by kernel_rfl)) (by unfold Func.isWrapper; first | (rw [if_pos (by decide +kernel)]; kernel_rfl) | (rw [if_neg (by decide +kernel)]; exact ⟨rfl, rfl⟩))
    (fun os started H enc _ => restoreDLifted os started H enc)

theorem restoreDPlain (f : FuncId) (fn : Func) (hf : Tryz.pinned.checked.prog.funcNamed "loop.example/g00196/laws.FnRestore" = some f) (hfn : Tryz.pinned.checked.prog.funcs[f]? = some fn) :
    true = Tryz.pinned.checked.prog.looks [] ∧ ∀ (j : Nat) t, fn.params[j]? = some t → Tryz.pinned.checked.prog.wantsStandIn t = false := by
  obtain rfl : f = 4 := Option.some.inj ((show Tryz.prog.funcNamed "loop.example/g00196/laws.FnRestore" = some 4 by kernel_rfl).symm.trans hf) |>.symm
  obtain rfl : fn = Tryz.f4 := (Option.some.inj (Tryz.func4.symm.trans hfn)).symm
  refine ⟨by kernel_rfl, fun j t ht => ?_⟩
  rw [Tryz.params4] at ht
  have hm := Array.mem_of_getElem? ht
  simp at hm
  obtain rfl := hm
  exact (show Tryz.prog.wantsStandIn 22 = false by kernel_rfl)

theorem restoreD_card : Rows.FnRestoreCardSaid :=
  Claim7.holds_tied_plain_at .later [] _ _ _ _ restoreDSaid (fun _ h => by cases h) (by kernel_rfl) (fun _ h => by cases h) fnRestore_row_tie rfl ⟨rfl, rfl⟩ (by kernel_rfl) rfl restoreDPlain (by kernel_rfl)

end Go.Proofs.YtcmmlklanjhfoaaGreatDoor
