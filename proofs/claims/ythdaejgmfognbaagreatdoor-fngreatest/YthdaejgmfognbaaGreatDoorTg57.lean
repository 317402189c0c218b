/- Proved: whatever bytes are drawn by, of a drawn cut the whole one that is found is the model's, is nowhere above it and is whole, and the first event of each process that it has no more has a clock that is somewhere above the cut; of what is no cut it is empty, and that is not whole. Nothing is written into what was handed in. One condition, tied to the program's text: errors.errorType holds what its text lays. -/
import Derived.Test.YthdaejgmfognbaaGreatDoorTg45
import Derived.Test.YthdaejgmfognbaaGreatDoorTe42
import Derived.Test.YthdaejgmfognbaaGreatDoorTg43
import Derived.Test.YthdaejgmfognbaaGreatDoorTg49
import Derived.Test.YthdaejgmfognbaaGreatDoorTg51
import Derived.Test.YthdaejgmfognbaaGreatDoorTg52
import Derived.Deep.Cut
import Derived.Lib.QuietBelow
import Derived.BigRegion
import Derived.BigQuiet
import Derived.Test.YthdaejgmfognbaaGreatDoorTe14
import Derived.Test.YthdaejgmfognbaaGreatDoorCards
import Derived.SevenTiedAt
namespace Go.Proofs.YthdaejgmfognbaaGreatDoor
open Go.ChangeShapes Go.WideShapes Go.ChangeAt Go.RowKit Go.Deep Go.Sort



theorem clS_len (y : Sy) (c : List Int) : (clS y c).length ≤ 4 := by
  unfold clS
  split
  · rename_i h
    rw [h.2.choose_spec.1.len]
    have h1 := h.1
    unfold cutB at h1
    simp only [Bool.and_eq_true] at h1
    exact (Sy.ok_of h1.1).cn.1.2
  · simp
/-- What was cut off hangs on what the cut has not. -/
theorem clS_above {y : Sy} {c : List Int} (h : cutB y c = true) {p : Nat} (hp : p < y.pn) (hlt : zi (clS y c) p < zi c p) : ∃ i : Nat, zi (clS y c) p = (i : Nat) ∧ i < y.hL p ∧ ∃ q, q < y.pn ∧ zi c q < (clk y p i q : Nat) := by
  obtain ⟨ho, hc⟩ := cutB_parts h
  obtain ⟨h1, h2⟩ := clS_spec h
  have h3 := h1.le p hp
  have h4 := hc.le p hp
  obtain ⟨i, hi⟩ : ∃ i : Nat, zi (clS y c) p = (i : Nat) := ⟨(zi (clS y c) p).toNat, by omega⟩
  have hil : i < y.hL p := by omega
  refine ⟨i, hi, hil, Classical.byContradiction fun hn => ?_⟩
  have h5 := h1.gr (clk y p i) (fun q hq => by
    have h6 : ¬ zi c q < (clk y p i q : Nat) := fun h9 => hn ⟨q, hq, h9⟩
    omega) (clk_whole ho hp hil) p hp
  obtain ⟨D, hD, hall⟩ := ho.ckx
  rw [hD.self p hp i (by rw [hall p hp]; exact hil), hi] at h5
  omega
theorem Sl.cellG {w : World} {b off : Nat} {xs : List Int} (h : Sl w (some ⟨b, off, none⟩) xs) {k : Nat} (hk : k < xs.length) : w.cell? ⟨b, off + k, none⟩ = some (.int .i64 (zi xs k)) := by
  obtain ⟨b', o', e, -, c⟩ := h.at hk
  obtain ⟨rfl, rfl⟩ : b = b' ∧ off = o' := by simpa using e
  exact c
/-- Whether one of the first is above. -/
def abF (f g : Nat → Int) : Nat → Bool
  | 0 => false
  | q + 1 => abF f g q || decide (g q < f q)
theorem abF_true {f g : Nat → Int} {q : Nat} (h : g q < f q) : ∀ {n : Nat}, q < n → abF f g n = true
  | 0, hn => by omega
  | n + 1, hn => by
    unfold abF
    by_cases e : q = n
    · subst e
      simp [h]
    · rw [abF_true h (by omega)]
      rfl

set_option maxRecDepth 100000 in
set_option maxHeartbeats 4000000 in
theorem DrawClose_any (W0 len cap : Nat) (a0 : Option Addr) (w : World) (hB : BytesAt w W0 a0 len) (hW : W0 ≤ w.heap.size) (ln : len ≤ 1048576) :
    Calls Tryz.prog 10 #[.slice a0 len cap] w (DrwH w) := by
  have C0 : Hid (BytesAt (w.alloc (.cells #[.slice none 0 0, .slice none 0 0, .slice none 0 0, .slice none 0 0] 29)) W0 a0 len ∧ W0 ≤ (w.alloc (.cells #[.slice none 0 0, .slice none 0 0, .slice none 0 0, .slice none 0 0] 29)).heap.size ∧ Below w.heap.size w (w.alloc (.cells #[.slice none 0 0, .slice none 0 0, .slice none 0 0, .slice none 0 0] 29)) ∧ Bx (w.alloc (.cells #[.slice none 0 0, .slice none 0 0, .slice none 0 0, .slice none 0 0] 29)) w.heap.size (.slice none 0 0) (.slice none 0 0) (.slice none 0 0) (.slice none 0 0) ∧ (w.alloc (.cells #[.slice none 0 0, .slice none 0 0, .slice none 0 0, .slice none 0 0] 29)).heap.size = w.heap.size + 1) := ⟨hB.kept fun k hk => (zT w _).block k (by omega), by simp; omega, zT _ _, Bx.new w _ _ _ _ _, by simp⟩
  clear hB hW
  go_enter Tryz.func10, Tryz.ntmps10
  go_wp2_with fail
  generalize w.alloc (.cells #[.slice none 0 0, .slice none 0 0, .slice none 0 0, .slice none 0 0] 29) = W2 at *
  refine (l8DrawBoth_any W0 len cap a0 W2 C0.out.1 C0.out.2.1 ln).mono ?_
  rintro e w1 ⟨x, a, cp, xs, B, T, rfl, hm, hX, hB1, hT1, b1, o1, l1⟩
  have h1 := C0.out.2.2.2.2
  have F1 : Hid (Below w.heap.size w (w1.alloc (.cells #[.slice x.pa x.pn x.pc, .slice x.sa x.sn x.sc, .slice x.wa x.wn x.wc, .slice x.ha x.hn x.hc] 29)) ∧ Bx (w1.alloc (.cells #[.slice x.pa x.pn x.pc, .slice x.sa x.sn x.sc, .slice x.wa x.wn x.wc, .slice x.ha x.hn x.hc] 29)) w.heap.size (.slice none 0 0) (.slice none 0 0) (.slice none 0 0) (.slice none 0 0) ∧ OwnI (w1.alloc (.cells #[.slice x.pa x.pn x.pc, .slice x.sa x.sn x.sc, .slice x.wa x.wn x.wc, .slice x.ha x.hn x.hc] 29)) W2.heap.size (.slice a xs.length cp) xs ∧ xs.length ≤ 20 ∧ w.heap.size < W2.heap.size ∧ Bx (w1.alloc (.cells #[.slice x.pa x.pn x.pc, .slice x.sa x.sn x.sc, .slice x.wa x.wn x.wc, .slice x.ha x.hn x.hc] 29)) w1.heap.size (.slice x.pa x.pn x.pc) (.slice x.sa x.sn x.sc) (.slice x.wa x.wn x.wc) (.slice x.ha x.hn x.hc)) := ⟨(C0.out.2.2.1.trans (b1.mono C0.out.2.2.1.size)).trans ((zT _ _).mono (Nat.le_trans C0.out.2.2.1.size b1.size)), (C0.out.2.2.2.1.below b1).below (zT _ _), o1.below (zT _ _), l1, by omega, Bx.new _ _ _ _ _ _⟩
  have F2 : Hid (x.y.Sm ∧ SysX (w1.alloc (.cells #[.slice x.pa x.pn x.pc, .slice x.sa x.sn x.sc, .slice x.wa x.wn x.wc, .slice x.ha x.hn x.hc] 29)) B T x ∧ w.heap.size < B ∧ T ≤ (w1.alloc (.cells #[.slice x.pa x.pn x.pc, .slice x.sa x.sn x.sc, .slice x.wa x.wn x.wc, .slice x.ha x.hn x.hc] 29)).heap.size) := ⟨hm, hX.keep (by simp) fun b _ _ hl => (zT w1 _).block b hl, by omega, by simp; omega⟩
  clear b1 o1 l1 C0 hm hX hB1 hT1 h1
  go_upto_region 2 with fail
  generalize w1.alloc (.cells #[.slice x.pa x.pn x.pc, .slice x.sa x.sn x.sc, .slice x.wa x.wn x.wc, .slice x.ha x.hn x.hc] 29) = wA at *
  generalize w1.heap.size = M at *
  obtain ⟨⟨r0, r1, r2, r3⟩, rf⟩ := F1.out.2.1
  obtain ⟨⟨s0, s1, s2, s3⟩, -⟩ := F1.out.2.2.2.2.2
  go_wp2
  refine bodyPost_ret (v := .tuple #[x.v, .slice a xs.length cp]) (by simp [results, Tryz.results10, go_sem, r0, r1, r2, r3]) rfl ⟨x, a, cp, xs, B, T, rfl, F2.out.1, F2.out.2.1.keep (by simp) fun b hb _ _ => ?_, by have := F2.out.2.2.1; omega, by simpa using F2.out.2.2.2, (((F1.out.1.setCell (Nat.le_refl _) _).setCell (Nat.le_refl _) _).setCell (Nat.le_refl _) _).setCell (Nat.le_refl _) _, (OwnI.set4 F1.out.2.2.1 F1.out.2.2.2.2.1 _ _ _ _).mono (Nat.le_of_lt F1.out.2.2.2.2.1), F1.out.2.2.2.1⟩
  have hne : b ≠ w.heap.size := by have := F2.out.2.2.1; omega
  rw [Below.heap_setCell _ _ _ _ hne, Below.heap_setCell _ _ _ _ hne, Below.heap_setCell _ _ _ _ hne, Below.heap_setCell _ _ _ _ hne]

set_option maxRecDepth 100000 in
set_option maxHeartbeats 8000000 in
theorem greatDLaw_small (a0 : Option Addr) (len cap : Nat) (w : World) (hl : len ≤ 1048576) (hB : BytesAt w w.heap.size a0 len) (hV : w.cell? ⟨0, 0, none⟩ = some (.iface 266 (.agg #[.pointer (some ⟨1, 211, none⟩)]))) :
    Calls Tryz.prog 3 #[.slice a0 len cap] w fun e w' => e = .returned (.bool true) ∧ Below w.heap.size w w' := by
  have HB : Hid (BytesAt w w.heap.size a0 len) := hB
  have HV : Hid (∀ wx, Below w.heap.size w wx → wx.cell? ⟨0, 0, none⟩ = some (.iface 266 (.agg #[.pointer (some ⟨1, 211, none⟩)]))) := fun wx hb => (hb.cell (p := ⟨0, 0, none⟩) (World.block_lt_of_cell? w _ hV)).trans hV
  have hlt : ¬ (1048576 : Int) < (len : Int) := by omega
  clear hB hV
  go_enter Tryz.func3, Tryz.ntmps3
  go_wp2_with fail
  refine (big_any a0 len cap w).mono ?_
  rintro e w1 ⟨rfl, rfl⟩
  rw [decide_eq_false (show ¬ (1048576 : Int) < (len : Int) by omega)]
  go_wp2_with fail
  refine (DrawClose_any w1.heap.size len cap a0 w1 HB.out (Nat.le_refl _) hl).mono ?_
  rintro e w2 ⟨x, a, cp, xs, B, T, rfl, hm, hX, -, -, b2, o2, l2⟩
  have HM : Hid (x.Len ∧ ∀ i, i < x.hn → x.hL i ≤ x.hC i) := ⟨hm.inLen, hX.cap⟩
  have K2 : Hid (WJ w1 (w2.alloc (.cells #[.slice x.pa x.pn x.pc, .slice x.sa x.sn x.sc, .slice x.wa x.wn x.wc, .slice x.ha x.hn x.hc] 29)) w2.heap.size x ∧ Sl (w2.alloc (.cells #[.slice x.pa x.pn x.pc, .slice x.sa x.sn x.sc, .slice x.wa x.wn x.wc, .slice x.ha x.hn x.hc] 29)) a xs) := ⟨⟨hX.self.below (zT _ _), BoxC.new _ _ _ _ _ _, b2.trans ((zT _ _).mono b2.size)⟩, (o2.below (zT _ _)).slOf⟩
  have hlx : xs.length ≤ 1048576 := by omega
  have hlx' : (xs.length : Int) ≤ 20 := by omega
  clear hX b2 hm HB o2 l2
  go_upto_region 4 with fail
  generalize w2.alloc (.cells #[.slice x.pa x.pn x.pc, .slice x.sa x.sn x.sc, .slice x.wa x.wn x.wc, .slice x.ha x.hn x.hc] 29) = W2 at *
  generalize w2.heap.size = X at *
  clear w2
  obtain ⟨C, hC⟩ : ∃ C, clS x.y xs = C := ⟨_, rfl⟩
  have HC : Hid (clS x.y xs = C) := hC
  have hl4 : C.length ≤ 4 := by rw [← hC]; exact clS_len _ _
  have hl9 : C.length ≤ 1048576 := by omega
  have hl4' : (C.length : Int) ≤ 4 := by omega
  clear hC
  have HWh : Hid (∀ ca cc c t, whB x.y c = t → c.length ≤ 1048576 → ∀ wx, WJ w1 wx X x → Sl wx ca c → Calls Tryz.prog 15 #[x.v, .slice ca c.length cc] wx fun e w' => e = .returned (.bool t) ∧ Below wx.heap.size wx w') := fun ca cc c t ht hl wx hw hs => by
    rw [← ht]
    exact implWhole_any x ca cc c wx hw.g HM.out.1 HM.out.2 hs hl (HV.out _ hw.be)
  obtain ⟨k0, k1, k2, k3⟩ := K2.out.1.bx
  go_wp2_with fail
  clear k0 k1 k2 k3
  refine (implClose_any x a cp xs W2 K2.out.1.g HM.out.1 HM.out.2 K2.out.2 hlx (HV.out _ K2.out.1.be)).mono ?_
  rintro e w3 ⟨u3, rfl, o3, d3⟩
  rw [HC.out] at o3
  obtain ⟨ag, cg, rfl, -⟩ := o3.form
  have K3 : Hid (WJ w1 w3 X x ∧ Sl w3 a xs ∧ Sl w3 ag C) := ⟨K2.out.1.below d3, K2.out.2.below d3, OwnI.slOf o3⟩
  clear o3 d3 K2
  obtain ⟨k0, k1, k2, k3⟩ := K3.out.1.bx
  go_wp2_with fail
  clear k0 k1 k2 k3
  refine (specClose_any x a cp xs w3 K3.out.1.g HM.out.1 HM.out.2 K3.out.2.1 hlx).mono ?_
  rintro e w4 ⟨u4, rfl, o4, d4⟩
  rw [HC.out] at o4
  obtain ⟨aw, cw, rfl, -⟩ := o4.form
  have K4 : Hid (WJ w1 w4 X x ∧ Sl w4 a xs ∧ Sl w4 ag C ∧ Sl w4 aw C) := ⟨K3.out.1.below d4, K3.out.2.1.below d4, K3.out.2.2.below d4, OwnI.slOf o4⟩
  clear o4 d4 K3
  go_wp2_with fail
  refine (sameInts_same ag aw cg cw C w4 hl9 K4.out.2.2.1 K4.out.2.2.2).mono ?_
  rintro e w5 ⟨rfl, d5⟩
  have K5 : Hid (WJ w1 w5 X x ∧ Sl w5 a xs ∧ Sl w5 ag C) := ⟨K4.out.1.below d5, K4.out.2.1.below d5, K4.out.2.2.1.below d5⟩
  clear d5 K4
  obtain ⟨k0, k1, k2, k3⟩ := K5.out.1.bx
  go_wp2_with fail
  clear k0 k1 k2 k3
  refine (specCutOk_any x a cp xs w5 K5.out.1.g HM.out.1 HM.out.2 K5.out.2.1 hlx).mono ?_
  rintro e w6 ⟨rfl, d6⟩
  have K6 : Hid (WJ w1 w6 X x ∧ Sl w6 a xs ∧ Sl w6 ag C) := ⟨K5.out.1.below d6, K5.out.2.1.below d6, K5.out.2.2.below d6⟩
  clear d6 K5
  by_cases hh : cutB x.y xs = true
  case neg =>
    have hh' : cutB x.y xs = false := by simpa using hh
    obtain rfl : C = [] := HC.out.symm.trans (clS_no hh')
    have HW0 : Hid (whB x.y xs = false) := by
      show whB x.y xs = false
      unfold whB
      rw [hh']
      rfl
    rw [hh']
    clear hh hh'
    obtain ⟨k0, k1, k2, k3⟩ := K6.out.1.bx
    go_wp2_with fail
    clear k0 k1 k2 k3
    refine (HWh.out a cp xs false HW0.out hlx w6 K6.out.1 K6.out.2.1).mono ?_
    rintro e w7 ⟨rfl, d7⟩
    have K7 : Hid (WJ w1 w7 X x) := K6.out.1.below d7
    clear d7 K6
    go_wp2
    go_ret
    exact ⟨rfl, K7.out.be⟩
  rw [hh]
  obtain ⟨ho, hcut⟩ := cutB_parts hh
  have HO : Hid (cutB x.y xs = true ∧ x.y.Ok ∧ x.y.Cut xs ∧ x.y.Cl xs C ∧ xs.length = x.y.pn ∧ C.length = x.y.pn) := by
    have h9 := (clS_spec hh).1
    rw [HC.out] at h9
    exact ⟨hh, ho, hcut, h9, hcut.len, h9.len⟩
  have HW1 : Hid (whB x.y C = true) := by
    have h9 := clS_wh hh
    rw [HC.out] at h9
    exact h9
  have hpn : x.y.pn ≤ 4 := ho.cn.1.2
  have hp1 : 1 ≤ x.y.pn := ho.cn.1.1
  clear hh ho hcut
  obtain ⟨k0, k1, k2, k3⟩ := K6.out.1.bx
  go_wp2_with fail
  clear k0 k1 k2 k3
  refine (HWh.out ag cg C true HW1.out hl9 w6 K6.out.1 K6.out.2.2).mono ?_
  rintro e w7 ⟨rfl, d7⟩
  have K7 : Hid (WJ w1 w7 X x ∧ Sl w7 a xs ∧ Sl w7 ag C) := ⟨K6.out.1.below d7, K6.out.2.1.below d7, K6.out.2.2.below d7⟩
  clear d7 K6 HW1 HWh
  obtain ⟨bx, ox, rfl, -, -⟩ := K7.out.2.1.all (by rw [HO.out.2.2.2.2.1]; exact hp1)
  obtain ⟨bg, og, rfl, -, -⟩ := K7.out.2.2.all (by rw [HO.out.2.2.2.2.2]; exact hp1)
  obtain ⟨N, hN⟩ : ∃ N, x.y.pn = N := ⟨_, rfl⟩
  have HNl : Hid (xs.length = N ∧ C.length = N ∧ x.y.pn = N) := ⟨by rw [HO.out.2.2.2.2.1, hN], by rw [HO.out.2.2.2.2.2, hN], hN⟩
  rw [HNl.out.1, HNl.out.2.1]
  have hN4 : (N : Int) ≤ 4 := by omega
  clear hN hlx' hl4' hlx hl9 hl4 hpn hp1
  go_wp2_with fail
  go_loopw [6] (fun i wr => ∃ n : Nat, n ≤ N ∧ i = .int .i64 (n : Nat) ∧ Hid (WJ w1 wr X x ∧ Sl wr (some ⟨bx, ox, none⟩) xs ∧ Sl wr (some ⟨bg, og, none⟩) C)) (fun i _ => N - (intOf i).toNat)
  case atStart => exact ⟨0, Nat.zero_le _, rfl, K7.out⟩
  case round =>
    clear K7
    rename World => wr
    obtain ⟨n, hn, rfl, HK⟩ := hrel
    by_cases hlt : n < N
    case neg =>
      have HB9 : Hid (Below w1.heap.size w1 wr) := HK.out.1.be
      clear HK
      go_wp2
      go_ret
      exact ⟨rfl, HB9.out⟩
    have hnI : (n : Int) < (N : Int) := by omega
    have hnp : n < x.y.pn := by have := HNl.out.2.2; omega
    have hle := HO.out.2.2.2.1.le n hnp
    have hcl := HO.out.2.2.1.le n hnp
    have HAb : Hid (zi C n < zi xs n → ∃ i : Nat, zi C n = (i : Nat) ∧ i < x.y.hL n ∧ ∃ q, q < x.y.pn ∧ zi xs q < (clk x.y n i q : Nat)) := fun h9 => by
      have h7 := clS_above HO.out.1 hnp (by rw [HC.out]; exact h9)
      rw [HC.out] at h7
      exact h7
    have cX : wr.cell? ⟨bx, ox + n, none⟩ = some (.int .i64 (zi xs n)) := Sl.cellG HK.out.2.1 (by rw [HNl.out.1]; exact hlt)
    have cC : wr.cell? ⟨bg, og + n, none⟩ = some (.int .i64 (zi C n)) := Sl.cellG HK.out.2.2 (by rw [HNl.out.2.1]; exact hlt)
    have hh2 := HO.out.2.1.hl200 hnp
    obtain ⟨x9, hx9⟩ : ∃ z, zi xs n = z := ⟨_, rfl⟩
    obtain ⟨c9, hc9⟩ : ∃ z, zi C n = z := ⟨_, rfl⟩
    rw [hx9] at cX hle hcl HAb
    rw [hc9] at cC hle HAb
    have HZ : Hid (zi xs n = x9 ∧ zi C n = c9) := ⟨hx9, hc9⟩
    have hb0 : 0 ≤ c9 := hle.1
    have hb1 : ¬ x9 < c9 := by omega
    have hb2 : x9 ≤ 200 := by omega
    have cX' := cell_regrown cX
    have cC' := cell_regrown cC
    clear hle hcl hh2 hx9 hc9
    go_upto_region 14 with fail
    refine wp_region_quiet_below (by kernel_rfl) (by kernel_rfl) ?_
    repeat (quiet_step (fail))
    refine wpQuiet_nil ?_
    intro _ hw'
    obtain ⟨⟨dq, osq⟩, hw''⟩ := hw'
    subst hw''
    have K8 : Hid (WJ w1 (grow (redrawn wr dq) osq) X x ∧ Sl (grow (redrawn wr dq) osq) (some ⟨bx, ox, none⟩) xs ∧ Sl (grow (redrawn wr dq) osq) (some ⟨bg, og, none⟩) C) := ⟨HK.out.1.below (below_regrown wr dq osq), HK.out.2.1.below (below_regrown wr dq osq), HK.out.2.2.below (below_regrown wr dq osq)⟩
    generalize grow (redrawn wr dq) osq = w8 at *
    clear cX cC cX' cC' HK
    have cX : w8.cell? ⟨bx, ox + n, none⟩ = some (.int .i64 x9) := by
      rw [← HZ.out.1]
      exact Sl.cellG K8.out.2.1 (by rw [HNl.out.1]; exact hlt)
    have cC : w8.cell? ⟨bg, og + n, none⟩ = some (.int .i64 c9) := by
      rw [← HZ.out.2]
      exact Sl.cellG K8.out.2.2 (by rw [HNl.out.2.1]; exact hlt)
    have cX' := cell_regrown cX
    have cC' := cell_regrown cC
    by_cases hec : c9 = x9
    case pos =>
      have he9 : (c9 == x9) = true := by simp [hec]
      clear hec
      go_upto_region 16 with fail
      refine wp_region_quiet_below (by kernel_rfl) (by kernel_rfl) ?_
      repeat (quiet_step (fail))
      refine wpQuiet_nil ?_
      intro _ hw'
      obtain ⟨⟨dq, osq⟩, hw''⟩ := hw'
      subst hw''
      have K9 : Hid (WJ w1 (grow (redrawn w8 dq) osq) X x ∧ Sl (grow (redrawn w8 dq) osq) (some ⟨bx, ox, none⟩) xs ∧ Sl (grow (redrawn w8 dq) osq) (some ⟨bg, og, none⟩) C) := ⟨K8.out.1.below (below_regrown w8 dq osq), K8.out.2.1.below (below_regrown w8 dq osq), K8.out.2.2.below (below_regrown w8 dq osq)⟩
      generalize grow (redrawn w8 dq) osq = w9 at *
      clear cX cC cX' cC' K8
      go_wp2
      go_roundw
      case rel => exact ⟨n + 1, by omega, by go_num, K9.out⟩
      case measure => simp [intOf]; omega
    have he9 : (c9 == x9) = false := by simpa using hec
    obtain ⟨i, hi, hil, q0, hq0, hab⟩ := HAb.out (by omega)
    subst hi
    have HCl : Hid (∀ wx, WJ w1 wx X x → Calls Tryz.prog 16 #[x.v, .int .i64 (n : Int), .int .i64 ((i : Nat) : Int)] wx fun e w' => ∃ ad cd, e = .returned (.slice ad N cd) ∧ Sl w' ad (ckN x.y n i) ∧ Below wx.heap.size wx w') := fun wx hw => by
      refine (implClock_any x n i wx hw.g HM.out.1 HM.out.2 (HV.out _ hw.be)).mono ?_
      rintro e w' ⟨u, h1, h2, h3⟩
      have h7 : hasB x.y n i = true := hasB_mk (Sy.okB_true HO.out.2.1) hnp hil
      have h8 : ckL x.y n i = ckN x.y n i := by
        unfold ckL
        rw [if_pos h7]
        rfl
      rw [h8] at h2
      obtain ⟨ad, cd, rfl, h9⟩ := h2.form
      rw [ckN_len, HNl.out.2.2] at h1
      exact ⟨ad, cd, h1, h9, h3⟩
    have HAt : Hid (abF (fun q => (clk x.y n i q : Nat)) (zi xs) N = true) := abF_true hab (by rw [← HNl.out.2.2]; exact hq0)
    clear hec hil hq0 hab HAb hnp
    go_upto_region 16 with fail
    refine wp_region_quiet_below (by kernel_rfl) (by kernel_rfl) ?_
    repeat (quiet_step (fail))
    refine wpQuiet_nil ?_
    intro _ hw'
    obtain ⟨⟨dq, osq⟩, hw''⟩ := hw'
    subst hw''
    have K9 : Hid (WJ w1 (grow (redrawn w8 dq) osq) X x ∧ Sl (grow (redrawn w8 dq) osq) (some ⟨bx, ox, none⟩) xs ∧ Sl (grow (redrawn w8 dq) osq) (some ⟨bg, og, none⟩) C) := ⟨K8.out.1.below (below_regrown w8 dq osq), K8.out.2.1.below (below_regrown w8 dq osq), K8.out.2.2.below (below_regrown w8 dq osq)⟩
    generalize grow (redrawn w8 dq) osq = w9 at *
    clear cX cC cX' cC' K8
    have cC : w9.cell? ⟨bg, og + n, none⟩ = some (.int .i64 ((i : Nat) : Int)) := by
      rw [← HZ.out.2]
      exact Sl.cellG K9.out.2.2 (by rw [HNl.out.2.1]; exact hlt)
    go_upto_region 17 with fail
    obtain ⟨k0, k1, k2, k3⟩ := K9.out.1.bx
    go_region_with (go_at_call 16; refine (HCl.out _ (K9.out.1.below (Below.refl _ _).drew)).mono ?_; rintro e wA ⟨ad, cd, rfl, sA, bA⟩; have KA : Hid (WJ w1 wA X x ∧ Sl wA (some ⟨bx, ox, none⟩) xs ∧ Sl wA (some ⟨bg, og, none⟩) C ∧ Sl wA ad (ckN x.y n i)) := ⟨(K9.out.1.below (Below.refl _ _).drew).below bA, (K9.out.2.1.below (Below.refl _ _).drew).below bA, (K9.out.2.2.below (Below.refl _ _).drew).below bA, sA⟩; clear sA bA)
    all_goals
      clear k0 k1 k2 k3 cC K9 HCl HZ
      go_wp2_with fail
      go_loopw [8, 9] (fun t m wi => ∃ q : Nat, q ≤ N ∧ m = .int .i64 (q : Nat) ∧ t = .bool (abF (fun q => (clk x.y n i q : Nat)) (zi xs) q) ∧ Hid (WJ w1 wi X x ∧ Sl wi (some ⟨bx, ox, none⟩) xs ∧ Sl wi (some ⟨bg, og, none⟩) C ∧ Sl wi ad (ckN x.y n i))) (fun _ m _ => N - (intOf m).toNat)
      case atStart => exact ⟨0, Nat.zero_le _, rfl, rfl, KA.out⟩
      case round =>
        clear KA
        rename World => wi
        obtain ⟨q, hq, rfl, rfl, HR⟩ := hrel
        by_cases hql : q < N
        case neg =>
          have hqn : q = N := by omega
          rw [show abF (fun q => (clk x.y n i q : Nat)) (zi xs) q = true by rw [hqn]; exact HAt.out]
          have K2 : Hid (WJ w1 wi X x ∧ Sl wi (some ⟨bx, ox, none⟩) xs ∧ Sl wi (some ⟨bg, og, none⟩) C) := ⟨HR.out.1, HR.out.2.1, HR.out.2.2.1⟩
          clear hqn HR
          go_wp2
          go_roundw
          case rel => exact ⟨n + 1, by omega, by go_num, K2.out⟩
          case measure => simp [intOf]; omega
        have hqI : (q : Int) < (N : Int) := by omega
        have hqp : q < x.y.pn := by rw [HNl.out.2.2]; exact hql
        have cX : wi.cell? ⟨bx, ox + q, none⟩ = some (.int .i64 (zi xs q)) := Sl.cellG HR.out.2.1 (by rw [HNl.out.1]; exact hql)
        obtain ⟨bd, od, rfl, zd, cD⟩ := HR.out.2.2.2.at (k := q) (by rw [ckN_len]; exact hqp)
        rw [ckN_at x.y n i q hqp] at cD
        have HNx : Hid (abF (fun q => (clk x.y n i q : Nat)) (zi xs) (q + 1) = (abF (fun q => (clk x.y n i q : Nat)) (zi xs) q || decide (zi xs q < (clk x.y n i q : Nat)))) := rfl
        have HRb : Hid (∀ w', Below wi.heap.size wi w' → WJ w1 w' X x ∧ Sl w' (some ⟨bx, ox, none⟩) xs ∧ Sl w' (some ⟨bg, og, none⟩) C ∧ Sl w' (some ⟨bd, od, none⟩) (ckN x.y n i)) := fun w' hb => ⟨HR.out.1.below hb, HR.out.2.1.below hb, HR.out.2.2.1.below hb, HR.out.2.2.2.below hb⟩
        have cX' := cell_regrown cX
        have cD' := cell_regrown cD
        clear hqp zd HR
        cases hA9 : abF (fun q => (clk x.y n i q : Nat)) (zi xs) q with
        | true =>
          rw [hA9] at HNx
          go_upto_region 22 with fail
          refine wp_region_quiet_below (by kernel_rfl) (by kernel_rfl) ?_
          repeat (first | go_big_quiet_skip | quiet_step (fail))
          refine wpQuiet_nil ?_
          intro _ hw'
          obtain ⟨⟨dq, osq⟩, hw''⟩ := hw'
          subst hw''
          have K2 : Hid (WJ w1 (grow (redrawn wi dq) osq) X x ∧ Sl (grow (redrawn wi dq) osq) (some ⟨bx, ox, none⟩) xs ∧ Sl (grow (redrawn wi dq) osq) (some ⟨bg, og, none⟩) C ∧ Sl (grow (redrawn wi dq) osq) (some ⟨bd, od, none⟩) (ckN x.y n i)) := HRb.out _ (below_regrown wi dq osq)
          generalize grow (redrawn wi dq) osq = w2 at *
          clear cX cD cX' cD' HRb hA9
          go_wp2
          go_roundw
          case rel => exact ⟨q + 1, by omega, by go_num, by rw [HNx.out]; simp, K2.out⟩
          case measure => simp [intOf]; omega
        | false =>
          rw [hA9] at HNx
          generalize hzx : zi xs q = zx at *
          generalize hzk : clk x.y n i q = zk at *
          go_upto_region 22 with fail
          refine wp_region_quiet_below (by kernel_rfl) (by kernel_rfl) ?_
          repeat (first | go_big_quiet_skip | quiet_step (fail))
          refine wpQuiet_nil ?_
          intro _ hw'
          obtain ⟨⟨dq, osq⟩, hw''⟩ := hw'
          subst hw''
          have K2 : Hid (WJ w1 (grow (redrawn wi dq) osq) X x ∧ Sl (grow (redrawn wi dq) osq) (some ⟨bx, ox, none⟩) xs ∧ Sl (grow (redrawn wi dq) osq) (some ⟨bg, og, none⟩) C ∧ Sl (grow (redrawn wi dq) osq) (some ⟨bd, od, none⟩) (ckN x.y n i)) := HRb.out _ (below_regrown wi dq osq)
          generalize grow (redrawn wi dq) osq = w2 at *
          clear cX cD cX' cD' HRb hA9 hzx hzk
          go_wp2
          go_roundw
          case rel => exact ⟨q + 1, by omega, by go_num, by rw [HNx.out]; simp, K2.out⟩
          case measure => simp [intOf]; omega


set_option maxRecDepth 100000 in
set_option maxHeartbeats 1000000 in
theorem greatDLaw_great (a0 : Option Addr) (len cap : Nat) (w : World) (_hm : len ≤ maxLen) (hl : 1048576 < len) :
    Calls Tryz.prog 3 #[.slice a0 len cap] w fun e w' => e = .returned (.bool true) ∧ Below w.heap.size w w' := by
  go_enter Tryz.func3, Tryz.ntmps3
  go_wp2_with fail
  refine (big_any a0 len cap w).mono ?_
  rintro e w1 ⟨rfl, rfl⟩
  rw [decide_eq_true (show (1048576 : Int) < (len : Int) by omega)]
  go_wp2
  go_ret
  exact ⟨rfl, Below.refl _ _⟩

end Go.Proofs.YthdaejgmfognbaaGreatDoor

namespace Go.Proofs.YthdaejgmfognbaaGreatDoor
open Go.ChangeShapes Go.WideShapes Go.ChangeAt Go.RowKit Go.Deep

set_option maxRecDepth 100000 in
theorem greatDLifted (os : Os) (started : os.Started) (H : Type) (enc : TypeId × Value → H) :
    ReturnsInHanded {} Tryz.checked os 3 .any (fun w args => (Rows.fnGreatestSpec.pre enc Tryz.prog Tryz.f3 [] false w args ∧ laidMetH Tryz.prog [("errors.errorType", Rows.laid_errors_errorType)] w) ∧ sizedMet enc Tryz.prog Tryz.f3 (OpenSpec.ofChange Rows.fnGreatestSpec) false w args)
      (Rows.fnGreatestSpec.post enc Tryz.prog Tryz.f3 false true false false) := by
  refine returnsInHanded_of_change_and (C := Tryz.checked) (X := fun w _ => laidMetH Tryz.prog [("errors.errorType", Rows.laid_errors_errorType)] w) (fun _ _ _ hh h => h.of_heap hh) Tryz.own started (by kernel_rfl) Tryz.func3
    (ChangeSpec.witness_at (enc := enc) (C := Tryz.checked) (os := os) (X := fun w _ => laidMetH Tryz.prog [("errors.errorType", Rows.laid_errors_errorType)] w) false (laidWorld os) #[.slice none 0 0] 8 rfl (by kernel_rfl) (by kernel_rfl) (by kernel_rfl) (by kernel_rfl) (by kernel_rfl) (laidWorld_met os _)) ?_
  intro W base args ds gs before hval0 hW _ _ hL _
  have hval : ∀ (j : Nat) t v, Tryz.f3.params[j]? = some t → args[j]? = some v → Value.okWide Tryz.prog W .any base t v := hval0
  have hW' := hW
  obtain ⟨p, q, hA0, hV, rfl, hfz, hnd⟩ := hW
  have hA : DataW.TrodAll enc Tryz.prog W 0 (fun _ => true) true Tryz.f3.params.toList args.toList ds p := hA0
  rw [Tryz.params3] at hA hval
  obtain ⟨v0, d0, rfl, rfl, h0⟩ := trodAll_one hA
  obtain ⟨rfl, rfl⟩ := trodVars_none hV
  have lt0 : ∀ x ∈ p, x.block < W.heap.size := by obtain ⟨m, hm⟩ := h0; exact DataW.trod_lt m _ _ _ hm
  have hg := handle_of_laid hL
  clear hA0 hval0
  have hlaw : Calls Tryz.prog 3 #[v0] W fun e w' => e = .returned (.bool true) ∧ Below W.heap.size W w' := by
    obtain ⟨a0, len, cap, rfl⟩ := okWide_slice Tryz.underlying22 (hval 0 22 v0 rfl rfl)
    obtain ⟨hm, hB⟩ := open_bytes h0
    by_cases hs : len ≤ 1048576
    · exact greatDLaw_small a0 len cap W hs hB hg
    · exact greatDLaw_great a0 len cap W hm (by omega)
  refine hlaw.mono fun e W' ⟨he, bel⟩ => ?_
  subst he
  exact ⟨_, rfl, _, _, _, [], _, [], hW', trodAll_mk1 (shut_bool Tryz.underlying4 _), trodAll_mk1 (Below.trod Tryz.laidOut (by kernel_rfl) (of_decide_eq_true (by kernel_rfl)) h0 bel lt0), rfl, bel.frame _, fun h => by cases h⟩

theorem greatDSaid : Rows.FnGreatestSaid :=
  OpenClaim.holds_of_wide 3 Tryz.f3 rfl rfl rfl rfl rfl rfl rfl ⟨rfl, rfl, rfl, rfl, rfl⟩ rfl rfl rfl rfl rfl (by kernel_rfl) Tryz.func3 (by kernel_rfl)
    (of_decide_eq_true (by kernel_rfl)) (by unfold Func.isWrapper; first | (rw [if_pos (by decide +kernel)]; kernel_rfl) | (rw [if_neg (by decide +kernel)]; exact ⟨rfl, rfl⟩))
    (fun os started H enc _ => greatDLifted os started H enc)

theorem greatDPlain (f : FuncId) (fn : Func) (hf : Tryz.pinned.checked.prog.funcNamed "loop.example/g00196/laws.FnGreatest" = some f) (hfn : Tryz.pinned.checked.prog.funcs[f]? = some fn) :
    true = Tryz.pinned.checked.prog.looks [] ∧ ∀ (j : Nat) t, fn.params[j]? = some t → Tryz.pinned.checked.prog.wantsStandIn t = false := by
  obtain rfl : f = 3 := Option.some.inj ((show Tryz.prog.funcNamed "loop.example/g00196/laws.FnGreatest" = some 3 by kernel_rfl).symm.trans hf) |>.symm
  obtain rfl : fn = Tryz.f3 := (Option.some.inj (Tryz.func3.symm.trans hfn)).symm
  refine ⟨by kernel_rfl, fun j t ht => ?_⟩
  rw [Tryz.params3] at ht
  have hm := Array.mem_of_getElem? ht
  simp at hm
  obtain rfl := hm
  exact (show Tryz.prog.wantsStandIn 22 = false by kernel_rfl)

theorem greatD_card : Rows.FnGreatestCardSaid :=
  Claim7.holds_tied_plain_at .later [] _ _ _ _ greatDSaid (fun _ h => by cases h) (by kernel_rfl) (fun _ h => by cases h) fnGreatest_row_tie rfl ⟨rfl, rfl⟩ (by kernel_rfl) rfl greatDPlain (by kernel_rfl)

end Go.Proofs.YthdaejgmfognbaaGreatDoor
