/- Proved: whatever bytes are drawn by, the row that is told of a drawn system is the model's, has as many events as there are, and RowOk says that it is one; of what is no system it is empty. Nothing is written into what was handed in. One condition, tied to the program's text: errors.errorType holds what its text lays. -/
import Derived.Test.YthdaejgmfognbaaGreatDoorTr45
import Derived.Test.YthdaejgmfognbaaGreatDoorTr43
import Derived.Test.YthdaejgmfognbaaGreatDoorTr58
import Derived.Deep.Cut
import Derived.Lib.QuietBelow
import Derived.BigRegion
import Derived.BigQuiet
import Derived.Test.YthdaejgmfognbaaGreatDoorTe14
import Derived.Test.YthdaejgmfognbaaGreatDoorCards
import Derived.SevenTiedAt
namespace Go.Proofs.YthdaejgmfognbaaGreatDoor
open Go.ChangeShapes Go.WideShapes Go.ChangeAt Go.RowKit Go.Deep Go.Sort



/-- A drawn system. -/
def Drw1 (w : World) (e : Ending) (w' : World) : Prop := ∃ (x : SysIn) (B T : Nat), e = .returned x.v ∧ x.y.Sm ∧ SysX w' B T x ∧ w.heap.size ≤ B ∧ T ≤ w'.heap.size ∧ Below w.heap.size w w'

set_option maxRecDepth 100000 in
set_option maxHeartbeats 8000000 in
theorem DrawRow_any (W0 len cap : Nat) (a0 : Option Addr) (w : World) (hB : BytesAt w W0 a0 len) (hW : W0 ≤ w.heap.size) (ln : len ≤ 1048576) :
    Calls Tryz.prog 17 #[.slice a0 len cap] w (Drw1 w) := by
  have C0 : Hid (BytesAt (w.alloc (.cells #[.slice none 0 0, .slice none 0 0, .slice none 0 0, .slice none 0 0] 29)) W0 a0 len ∧ W0 ≤ (w.alloc (.cells #[.slice none 0 0, .slice none 0 0, .slice none 0 0, .slice none 0 0] 29)).heap.size ∧ Below w.heap.size w (w.alloc (.cells #[.slice none 0 0, .slice none 0 0, .slice none 0 0, .slice none 0 0] 29)) ∧ Bx (w.alloc (.cells #[.slice none 0 0, .slice none 0 0, .slice none 0 0, .slice none 0 0] 29)) w.heap.size (.slice none 0 0) (.slice none 0 0) (.slice none 0 0) (.slice none 0 0) ∧ (w.alloc (.cells #[.slice none 0 0, .slice none 0 0, .slice none 0 0, .slice none 0 0] 29)).heap.size = w.heap.size + 1) := ⟨hB.kept (fun k hk => (zQ w (.cells #[.slice none 0 0, .slice none 0 0, .slice none 0 0, .slice none 0 0] 29)).block k (by omega)), by simp; omega, zQ _ _, Bx.new w _ _ _ _ _, by simp⟩
  clear hB
  go_enter Tryz.func17, Tryz.ntmps17
  go_wp2_with fail
  generalize w.alloc (.cells #[.slice none 0 0, .slice none 0 0, .slice none 0 0, .slice none 0 0] 29) = W2 at *
  refine (l1New_any W0 len cap a0 W2 C0.out.1 C0.out.2.1 ln).mono ?_
  rintro e w1 ⟨rfl, hc1, hg1⟩
  have C1 : Hid (Cur w1 W0 W2.heap.size a0 len cap ∧ Below w.heap.size w w1 ∧ Bx w1 w.heap.size (.slice none 0 0) (.slice none 0 0) (.slice none 0 0) (.slice none 0 0) ∧ W2.heap.size = w.heap.size + 1 ∧ W2.heap.size < w1.heap.size) := ⟨hc1, C0.out.2.2.1.trans ((below_of_grown hg1).mono C0.out.2.2.1.size), C0.out.2.2.2.1.below (below_of_grown hg1), C0.out.2.2.2.2, hc1.lt⟩
  clear hc1 hg1 C0
  generalize W2.heap.size = c at *
  go_wp2_with fail
  refine (l6Draw_any W0 c len cap a0 w1 C1.out.1).mono ?_
  rintro e w2 ⟨x, B, T, rfl, hm, hX, hc2, hg2, hcB, hT⟩
  have h1 := C1.out.2.2.2.1
  have h2 := C1.out.2.2.2.2
  have D2 : Hid (x.y.Sm ∧ SysX w2 B T x ∧ Below w.heap.size w w2 ∧ Bx w2 w.heap.size (.slice none 0 0) (.slice none 0 0) (.slice none 0 0) (.slice none 0 0) ∧ w.heap.size < B ∧ T ≤ w2.heap.size) := ⟨hm, hX, Below.grown C1.out.2.1 hg2 C1.out.2.1.size (fun k hk => by cases hk; omega), C1.out.2.2.1.grown hg2 (by simp; omega), by omega, hT⟩
  clear hX hc2 hg2 hcB hT C1 hm h1 h2
  obtain ⟨⟨r0, r1, r2, r3⟩, rf⟩ := D2.out.2.2.2.1
  go_wp2
  refine bodyPost_ret (v := x.v) (by simp [results, Tryz.results17, go_sem, r0, r1, r2, r3]) rfl ⟨x, B, T, rfl, D2.out.1, D2.out.2.1.keep (by simp) fun b hb _ _ => ?_, by have := D2.out.2.2.2.2.1; omega, by simpa using D2.out.2.2.2.2.2, (((D2.out.2.2.1.setCell (Nat.le_refl _) _).setCell (Nat.le_refl _) _).setCell (Nat.le_refl _) _).setCell (Nat.le_refl _) _⟩
  have hne : b ≠ w.heap.size := by have := D2.out.2.2.2.2.1; omega
  rw [Below.heap_setCell _ _ _ _ hne, Below.heap_setCell _ _ _ _ hne, Below.heap_setCell _ _ _ _ hne, Below.heap_setCell _ _ _ _ hne]

theorem neq_who (p i q j : Int) (w : World) : (binOp .neq 43 (woV p i) (woV q j)).run Tryz.prog w = .ok (.bool (!spEq p i q j)) w := by
  rw [run_neq_struct, show (10000 : Nat) = 9998 + 1 + 1 from rfl, run_equalIn_agg w (9998 + 1) 43 _ _ (by kernel_rfl) (by kernel_rfl)]
  simp only [spEq]
  by_cases h1 : p = q <;> by_cases h2 : i = j <;> simp [go_sem, h1, h2]

set_option maxRecDepth 100000 in
set_option maxHeartbeats 8000000 in
theorem rowDLaw_small (a0 : Option Addr) (len cap : Nat) (w : World) (hl : len ≤ 1048576) (hB : BytesAt w w.heap.size a0 len) (hV : w.cell? ⟨0, 0, none⟩ = some (.iface 266 (.agg #[.pointer (some ⟨1, 211, none⟩)]))) :
    Calls Tryz.prog 4 #[.slice a0 len cap] w fun e w' => e = .returned (.bool true) ∧ Below w.heap.size w w' := by
  have HB : Hid (BytesAt w w.heap.size a0 len) := hB
  have HV : Hid (∀ wx, Below w.heap.size w wx → wx.cell? ⟨0, 0, none⟩ = some (.iface 266 (.agg #[.pointer (some ⟨1, 211, none⟩)]))) := fun wx hb => (hb.cell (p := ⟨0, 0, none⟩) (World.block_lt_of_cell? w _ hV)).trans hV
  have hlt : ¬ (1048576 : Int) < (len : Int) := by omega
  clear hB hV
  go_enter Tryz.func4, Tryz.ntmps4
  go_wp2_with fail
  refine (big_any a0 len cap w).mono ?_
  rintro e w1 ⟨rfl, rfl⟩
  rw [decide_eq_false (show ¬ (1048576 : Int) < (len : Int) by omega)]
  go_wp2_with fail
  refine (DrawRow_any w1.heap.size len cap a0 w1 HB.out (Nat.le_refl _) hl).mono ?_
  rintro e w2 ⟨x, B, T, rfl, hm, hX, -, -, b2⟩
  have HM : Hid (x.Len ∧ ∀ i, i < x.hn → x.hL i ≤ x.hC i) := ⟨hm.inLen, hX.cap⟩
  have K2 : Hid (WJ w1 (w2.alloc (.cells #[.slice x.pa x.pn x.pc, .slice x.sa x.sn x.sc, .slice x.wa x.wn x.wc, .slice x.ha x.hn x.hc] 29)) w2.heap.size x) := ⟨hX.self.below (zQ _ _), BoxC.new _ _ _ _ _ _, b2.trans ((zQ _ _).mono b2.size)⟩
  clear hX b2 hm HB
  go_upto_region 4 with fail
  generalize w2.alloc (.cells #[.slice x.pa x.pn x.pc, .slice x.sa x.sn x.sc, .slice x.wa x.wn x.wc, .slice x.ha x.hn x.hc] 29) = W2 at *
  generalize w2.heap.size = X at *
  clear w2
  have HSo : Hid (∀ wx, WJ w1 wx X x → Calls Tryz.prog 20 #[x.v] wx fun e w' => e = .returned (.bool x.y.okB) ∧ Below wx.heap.size wx w') := fun wx hw => specSysOk_any x wx hw.g HM.out.1 HM.out.2
  have HRo : Hid (∀ g c N H t, rwB x.y H N = t → N ≤ 1048576 → ∀ wx, WJ w1 wx X x → WoAt wx g 0 N H → g < wx.heap.size → Calls Tryz.prog 21 #[x.v, .slice (some ⟨g, 0, none⟩) N c] wx fun e w' => e = .returned (.bool t) ∧ WJ w1 w' X x) := fun g c N H t ht hN wx hw hr hg => by
    rw [← ht]
    refine (implRowOk_any x _ N c H wx hw.g HM.out.1 (.inr ⟨_, _, rfl, hg, hr⟩) hN (HV.out _ hw.be)).mono ?_
    rintro e w' ⟨h1, h2⟩
    exact ⟨h1, hw.below h2⟩
  have hN8 : rwN x.y ≤ 800 := by
    unfold rwN
    split
    next h => exact Hs.tot_le (Sy.ok_of h).cn.1.2 fun i hi => (Sy.ok_of h).hl200 hi
    next => omega
  obtain ⟨N, hN⟩ : ∃ N, rwN x.y = N := ⟨_, rfl⟩
  obtain ⟨H, hH⟩ : ∃ H, rwH x.y = H := ⟨_, rfl⟩
  have HN : Hid (rwN x.y = N ∧ rwH x.y = H) := ⟨hN, hH⟩
  rw [hN] at hN8
  clear hN hH
  have hN8' : (N : Int) ≤ 800 := by omega
  obtain ⟨k0, k1, k2, k3⟩ := K2.out.bx
  go_wp2_with fail
  clear k0 k1 k2 k3
  refine (implRow_any x W2 K2.out.g HM.out.1 (HV.out _ K2.out.be)).mono ?_
  rintro e w3 ⟨u3, rfl, o3, d3⟩
  rw [HN.out.1, HN.out.2] at o3
  obtain ⟨g, cg, rfl, -, gl, ga, -⟩ := o3.form
  have K3 : Hid (WJ w1 w3 X x ∧ WoAt w3 g 0 N H ∧ g < w3.heap.size) := ⟨K2.out.below d3, ga, gl⟩
  clear o3 d3 K2 ga gl
  obtain ⟨k0, k1, k2, k3⟩ := K3.out.1.bx
  go_wp2_with fail
  clear k0 k1 k2 k3
  refine (specRow_any x w3 K3.out.1.g HM.out.1 HM.out.2).mono ?_
  rintro e w4 ⟨u4, rfl, o4, d4⟩
  rw [HN.out.1, HN.out.2] at o4
  obtain ⟨q, cq, rfl, -, ql, qa, -⟩ := o4.form
  have K4 : Hid (WJ w1 w4 X x ∧ WoAt w4 g 0 N H ∧ g < w4.heap.size ∧ WoAt w4 q 0 N H ∧ q < w4.heap.size) := ⟨K3.out.1.below d4, K3.out.2.1.below d4 K3.out.2.2, Nat.lt_of_lt_of_le K3.out.2.2 d4.size, qa, ql⟩
  clear o4 d4 K3 qa ql
  obtain ⟨k0, k1, k2, k3⟩ := K4.out.1.bx
  go_wp2_with fail
  clear k0 k1 k2 k3
  refine (HSo.out w4 K4.out.1).mono ?_
  rintro e w5 ⟨rfl, d5⟩
  have K5 : Hid (WJ w1 w5 X x ∧ WoAt w5 g 0 N H ∧ g < w5.heap.size ∧ WoAt w5 q 0 N H ∧ q < w5.heap.size) := ⟨K4.out.1.below d5, K4.out.2.1.below d5 K4.out.2.2.1, Nat.lt_of_lt_of_le K4.out.2.2.1 d5.size, K4.out.2.2.2.1.below d5 K4.out.2.2.2.2, Nat.lt_of_lt_of_le K4.out.2.2.2.2 d5.size⟩
  clear d5 K4 HSo
  by_cases hok : x.y.okB = true
  case neg =>
    have hok' : x.y.okB = false := by simpa using hok
    obtain rfl : N = 0 := HN.out.1.symm.trans (if_neg hok)
    rw [hok']
    go_wp2
    go_ret
    exact ⟨rfl, K5.out.1.be⟩
  rw [hok]
  have HO : Hid (x.y.Ok ∧ N = x.y.hs.tot ∧ rwB x.y H N = true ∧ x.hn = x.pn ∧ x.pn ≤ 4 ∧ 1 ≤ x.pn) := by
    have hO := Sy.ok_of hok
    refine ⟨hO, HN.out.1.symm.trans (if_pos hok), ?_, hO.cn.2.2.1, hO.cn.1.2, hO.cn.1.1⟩
    rw [← HN.out.1, ← HN.out.2]
    exact rwB_row hok
  clear hok
  obtain ⟨bh, oh, eh, hch⟩ : ∃ bh oh, x.ha = some ⟨bh, oh, none⟩ ∧ ∀ wx, WJ w1 wx X x → ∀ j, j < x.pn → wx.cell? ⟨bh, oh + j, none⟩ = some (.slice (x.hA j) (x.hL j) (x.hC j)) := by
    obtain ⟨b, off, e, -⟩ := K5.out.1.g.h.at (k := 0) (by rw [HO.out.2.2.2.1]; exact HO.out.2.2.2.2.2)
    refine ⟨b, off, e, fun wx hw j hj => ?_⟩
    obtain ⟨b', off', e', hc⟩ := hw.g.h.at (k := j) (by rw [HO.out.2.2.2.1]; exact hj)
    have hbo : b = b' ∧ off = off' := by
      rw [e] at e'
      simpa using e'
    obtain ⟨rfl, rfl⟩ := hbo
    exact hc
  have HHa : Hid (x.ha = some ⟨bh, oh, none⟩ ∧ ∀ wx, WJ w1 wx X x → ∀ j, j < x.pn → wx.cell? ⟨bh, oh + j, none⟩ = some (.slice (x.hA j) (x.hL j) (x.hC j))) := ⟨eh, hch⟩
  clear eh hch
  have hp4 : (x.pn : Int) ≤ 4 := by have := HO.out.2.2.2.2.1; omega
  have hhn : (x.hn : Int) = (x.pn : Int) := by rw [HO.out.2.2.2.1]
  have HL2 : Hid (∀ j, j < x.pn → x.hL j ≤ 200) := fun j hj => HO.out.1.hl200 (show j < x.y.pn from hj)
  have HSm : Hid (∀ j, j ≤ x.pn → sumL x.hL j ≤ 800) := fun j hj => by
    have h9 : ∀ m, m ≤ x.pn → sumL x.hL m ≤ m * 200 := by
      intro m
      induction m with
      | zero => exact fun _ => Nat.le_refl _
      | succ m ih =>
        intro hm
        have h3 := ih (by omega)
        have h5 := HL2.out m hm
        show sumL x.hL m + x.hL m ≤ (m + 1) * 200
        omega
    have := h9 j hj
    have := HO.out.2.2.2.2.1
    omega
  go_wp2_with fail
  go_loopw [6, 7] (fun t i wr => ∃ j : Nat, j ≤ x.pn ∧ i = .int .i64 (j : Nat) ∧ t = .int .i64 (sumL x.hL j : Nat) ∧ Hid (WJ w1 wr X x ∧ WoAt wr g 0 N H ∧ g < wr.heap.size ∧ WoAt wr q 0 N H ∧ q < wr.heap.size)) (fun _ i _ => x.pn - (intOf i).toNat)
  case atStart => exact ⟨0, Nat.zero_le _, rfl, rfl, K5.out⟩
  case round =>
    clear K5
    rename World => wr
    obtain ⟨j, hj, rfl, rfl, HK⟩ := hrel
    obtain ⟨-, -, -, k3⟩ := HK.out.1.bx
    rw [HHa.out.1] at k3
    by_cases hjt : j < x.pn
    case pos =>
      have hjt' : (j : Int) < (x.hn : Int) := by rw [hhn]; omega
      have ch := HHa.out.2 wr HK.out.1 j hjt
      have hs8 : ((sumL x.hL j : Nat) : Int) ≤ 800 := by have := HSm.out j (by omega); omega
      have hl8 : ((x.hL j : Nat) : Int) ≤ 200 := by have := HL2.out j hjt; omega
      go_wp2
      go_roundw
      case rel => exact ⟨j + 1, by omega, by go_num, by rw [show sumL x.hL (j + 1) = sumL x.hL j + x.hL j from rfl]; go_num, HK.out⟩
      case measure => simp [intOf]; omega
    have hjn : j = x.pn := by omega
    have hjt' : ¬ (j : Int) < (x.hn : Int) := by rw [hhn]; omega
    have HTo : Hid (sumL x.hL j = N) := by
      rw [hjn, HO.out.2.1]
      rfl
    rw [HTo.out]
    clear HTo hjn
    go_wp2_with fail
    clear k3
    go_loopw [8] (fun i wi => ∃ k : Nat, k ≤ N ∧ i = .int .i64 (k : Nat) ∧ Hid (WJ w1 wi X x ∧ WoAt wi g 0 N H ∧ g < wi.heap.size ∧ WoAt wi q 0 N H ∧ q < wi.heap.size)) (fun i _ => N - (intOf i).toNat)
    case atStart => exact ⟨0, Nat.zero_le _, rfl, HK.out⟩
    case round =>
      clear HK
      rename World => wi
      obtain ⟨k, hk, rfl, HK⟩ := hrel
      by_cases hkt : k < N
      case neg =>
        have hkn : k = N := by omega
        obtain ⟨k0, k1, k2, k3⟩ := HK.out.1.bx
        clear hkn
        go_wp2_with fail
        clear k0 k1 k2 k3
        refine (HRo.out g cg N H true HO.out.2.2.1 (by omega) wi HK.out.1 HK.out.2.1 HK.out.2.2.1).mono ?_
        rintro e w9 ⟨rfl, kk⟩
        have K9 : Hid (WJ w1 w9 X x) := kk
        clear kk HK HRo
        go_wp2
        go_ret
        exact ⟨rfl, K9.out.be⟩
      have hkt' : (k : Int) < (N : Int) := by omega
      obtain ⟨a0', a1'⟩ := HK.out.2.1 k hkt
      obtain ⟨b0', b1'⟩ := HK.out.2.2.2.1 k hkt
      rw [Nat.zero_add] at a0' a1' b0' b1'
      have hne := neq_who (H k).m (H k).v (H k).m (H k).v
      rw [show (!spEq (H k).m (H k).v (H k).m (H k).v) = false by simp [spEq]] at hne
      have HK2 : Hid (∀ w', Below wi.heap.size wi w' → WJ w1 w' X x ∧ WoAt w' g 0 N H ∧ g < w'.heap.size ∧ WoAt w' q 0 N H ∧ q < w'.heap.size) := fun w' hb => ⟨HK.out.1.below hb, HK.out.2.1.below hb HK.out.2.2.1, Nat.lt_of_lt_of_le HK.out.2.2.1 hb.size, HK.out.2.2.2.1.below hb HK.out.2.2.2.2, Nat.lt_of_lt_of_le HK.out.2.2.2.2 hb.size⟩
      have a0'' := cell_regrown a0'
      have a1'' := cell_regrown a1'
      have b0'' := cell_regrown b0'
      have b1'' := cell_regrown b1'
      go_upto_region 18 with fail
      refine wp_region_quiet_below (by kernel_rfl) (by kernel_rfl) ?_
      repeat (quiet_step (fail))
      refine wpQuiet_nil ?_
      intro _ hw'
      obtain ⟨⟨dq, osq⟩, hw''⟩ := hw'
      subst hw''
      have K6 : Hid (WJ w1 (grow (redrawn wi dq) osq) X x ∧ WoAt (grow (redrawn wi dq) osq) g 0 N H ∧ g < (grow (redrawn wi dq) osq).heap.size ∧ WoAt (grow (redrawn wi dq) osq) q 0 N H ∧ q < (grow (redrawn wi dq) osq).heap.size) := HK2.out _ (below_regrown wi dq osq)
      generalize grow (redrawn wi dq) osq = w6 at *
      clear a0' a1' b0' b1' a0'' a1'' b0'' b1'' hne HK2 HK
      go_wp2
      go_roundw
      case rel => exact ⟨k + 1, by omega, by go_num, K6.out⟩
      case measure => simp [intOf]; omega


set_option maxRecDepth 100000 in
set_option maxHeartbeats 1000000 in
theorem rowDLaw_great (a0 : Option Addr) (len cap : Nat) (w : World) (_hm : len ≤ maxLen) (hl : 1048576 < len) :
    Calls Tryz.prog 4 #[.slice a0 len cap] w fun e w' => e = .returned (.bool true) ∧ Below w.heap.size w w' := by
  go_enter Tryz.func4, Tryz.ntmps4
  go_wp2_with fail
  refine (big_any a0 len cap w).mono ?_
  rintro e w1 ⟨rfl, rfl⟩
  rw [decide_eq_true (show (1048576 : Int) < (len : Int) by omega)]
  go_wp2
  go_ret
  exact ⟨rfl, Below.refl _ _⟩

end Go.Proofs.YthdaejgmfognbaaGreatDoor

namespace Go.Proofs.YthdaejgmfognbaaGreatDoor
open Go.ChangeShapes Go.WideShapes Go.ChangeAt Go.RowKit Go.Deep

set_option maxRecDepth 100000 in
theorem rowDLifted (os : Os) (started : os.Started) (H : Type) (enc : TypeId × Value → H) :
    ReturnsInHanded {} Tryz.checked os 4 .any (fun w args => (Rows.fnRowSpec.pre enc Tryz.prog Tryz.f4 [] false w args ∧ laidMetH Tryz.prog [("errors.errorType", Rows.laid_errors_errorType)] w) ∧ sizedMet enc Tryz.prog Tryz.f4 (OpenSpec.ofChange Rows.fnRowSpec) false w args)
      (Rows.fnRowSpec.post enc Tryz.prog Tryz.f4 false true false false) := by
  refine returnsInHanded_of_change_and (C := Tryz.checked) (X := fun w _ => laidMetH Tryz.prog [("errors.errorType", Rows.laid_errors_errorType)] w) (fun _ _ _ hh h => h.of_heap hh) Tryz.own started (by kernel_rfl) Tryz.func4
    (ChangeSpec.witness_at (enc := enc) (C := Tryz.checked) (os := os) (X := fun w _ => laidMetH Tryz.prog [("errors.errorType", Rows.laid_errors_errorType)] w) false (laidWorld os) #[.slice none 0 0] 8 rfl (by kernel_rfl) (by kernel_rfl) (by kernel_rfl) (by kernel_rfl) (by kernel_rfl) (laidWorld_met os _)) ?_
  intro W base args ds gs before hval0 hW _ _ hL _
  have hval : ∀ (j : Nat) t v, Tryz.f4.params[j]? = some t → args[j]? = some v → Value.okWide Tryz.prog W .any base t v := hval0
  have hW' := hW
  obtain ⟨p, q, hA0, hV, rfl, hfz, hnd⟩ := hW
  have hA : DataW.TrodAll enc Tryz.prog W 0 (fun _ => true) true Tryz.f4.params.toList args.toList ds p := hA0
  rw [Tryz.params4] at hA hval
  obtain ⟨v0, d0, rfl, rfl, h0⟩ := trodAll_one hA
  obtain ⟨rfl, rfl⟩ := trodVars_none hV
  have lt0 : ∀ x ∈ p, x.block < W.heap.size := by obtain ⟨m, hm⟩ := h0; exact DataW.trod_lt m _ _ _ hm
  have hg := handle_of_laid hL
  clear hA0 hval0
  have hlaw : Calls Tryz.prog 4 #[v0] W fun e w' => e = .returned (.bool true) ∧ Below W.heap.size W w' := by
    obtain ⟨a0, len, cap, rfl⟩ := okWide_slice Tryz.underlying22 (hval 0 22 v0 rfl rfl)
    obtain ⟨hm, hB⟩ := open_bytes h0
    by_cases hs : len ≤ 1048576
    · exact rowDLaw_small a0 len cap W hs hB hg
    · exact rowDLaw_great a0 len cap W hm (by omega)
  refine hlaw.mono fun e W' ⟨he, bel⟩ => ?_
  subst he
  exact ⟨_, rfl, _, _, _, [], _, [], hW', trodAll_mk1 (shut_bool Tryz.underlying4 _), trodAll_mk1 (Below.trod Tryz.laidOut (by kernel_rfl) (of_decide_eq_true (by kernel_rfl)) h0 bel lt0), rfl, bel.frame _, fun h => by cases h⟩

theorem rowDSaid : Rows.FnRowSaid :=
  OpenClaim.holds_of_wide 4 Tryz.f4 rfl rfl rfl rfl rfl rfl rfl ⟨rfl, rfl, rfl, rfl, rfl⟩ rfl rfl rfl rfl rfl (by kernel_rfl) Tryz.func4 (by kernel_rfl)
    (of_decide_eq_true (by kernel_rfl)) (by unfold Func.isWrapper; first | (rw [if_pos (by decide +kernel)]; kernel_rfl) | (rw [if_neg (by decide +kernel)]; exact ⟨rfl, rfl⟩))
    (fun os started H enc _ => rowDLifted os started H enc)

theorem rowDPlain (f : FuncId) (fn : Func) (hf : Tryz.pinned.checked.prog.funcNamed "loop.example/g00196/laws.FnRow" = some f) (hfn : Tryz.pinned.checked.prog.funcs[f]? = some fn) :
    true = Tryz.pinned.checked.prog.looks [] ∧ ∀ (j : Nat) t, fn.params[j]? = some t → Tryz.pinned.checked.prog.wantsStandIn t = false := by
  obtain rfl : f = 4 := Option.some.inj ((show Tryz.prog.funcNamed "loop.example/g00196/laws.FnRow" = some 4 by kernel_rfl).symm.trans hf) |>.symm
  obtain rfl : fn = Tryz.f4 := (Option.some.inj (Tryz.func4.symm.trans hfn)).symm
  refine ⟨by kernel_rfl, fun j t ht => ?_⟩
  rw [Tryz.params4] at ht
  have hm := Array.mem_of_getElem? ht
  simp at hm
  obtain rfl := hm
  exact (show Tryz.prog.wantsStandIn 22 = false by kernel_rfl)

theorem rowD_card : Rows.FnRowCardSaid :=
  Claim7.holds_tied_plain_at .later [] _ _ _ _ rowDSaid (fun _ h => by cases h) (by kernel_rfl) (fun _ h => by cases h) fnRow_row_tie rfl ⟨rfl, rfl⟩ (by kernel_rfl) rfl rowDPlain (by kernel_rfl)

end Go.Proofs.YthdaejgmfognbaaGreatDoor
