/- Proved: called with whatever system, row and int, the program's Swap answers as the model's Swap; it writes into no argument, and its answer is its own. One condition, tied to the program's text: errors.errorType holds what its text lays. -/
import Derived.Test.YthdaejgmfognbabGreatDoorWd0
import Derived.Test.YthdaejgmfognbabGreatDoorWd46
import Derived.Test.YthdaejgmfognbabGreatDoorWd43
import Derived.Test.YthdaejgmfognbabGreatDoorWd45
import Derived.Test.YthdaejgmfognbabGreatDoorWd40
import Derived.Test.YthdaejgmfognbabGreatDoorWd47
import Derived.Test.YthdaejgmfognbabGreatDoorWd37
import Derived.Test.YthdaejgmfognbabGreatDoorWd15
import Derived.Test.YthdaejgmfognbabGreatDoorCards
import Derived.SevenTiedAt
namespace Go.Proofs.YthdaejgmfognbabGreatDoor
set_option maxRecDepth 100000
set_option maxHeartbeats 8000000
open Go.ChangeShapes Go.WideShapes Go.ChangeAt Go.RowKit Go.Deep Go.Sort
def dL (d : Nat -> Nat) (n : Nat) : List Int := (List.range n).map fun i => ((d i : Nat) : Int)
theorem dL_len (d : Nat -> Nat) (n : Nat) : (dL d n).length = n := by simp [dL]
theorem dL_at (d : Nat -> Nat) {n i : Nat} (h : i < n) : zi (dL d n) i = (d i : Nat) := by
 unfold zi dL
 simp [h]
theorem dL_zero (n : Nat) : dL (fun _ => 0) n = List.replicate n 0 := by
 refine List.ext_getElem (by simp [dL]) fun i h1 h2 => ?_
 simp [dL]
theorem dL_up (d : Nat -> Nat) {n p : Nat} (_ : p < n) : (dL d n).set p ((d p : Int) + 1) = dL (up d p) n := by
 refine List.ext_getElem (by simp [dL]) fun i h1 h2 => ?_
 simp only [dL, List.getElem_set, List.getElem_map, List.getElem_range]
 by_cases e : p = i
 ·subst e
  rw [if_pos rfl, up_same]
  omega
 ·rw [if_neg e, up_other (fun h => e h.symm)]
theorem Sl.cell0 {w : World} {b : Nat} {xs : List Int} (h : Sl w (some ⟨b, 0, none⟩) xs) {k : Nat} (hk : k < xs.length) : w.cell? ⟨b, k, none⟩ = some (.int .i64 (zi xs k)) := by
 obtain ⟨b', o', e, -, c⟩ := h.at hk
 obtain ⟨rfl, rfl⟩ : b = b' /\ 0 = o' := by simpa using e
 rw [Nat.zero_add] at c
 exact c
theorem l13Can_any (x : SysIn) (g dc p : Nat) (d : Nat -> Nat) (w : World) (hG : SysG w x) (hcap : ∀ i, i < x.hn -> x.hL i <= x.hC i) (hO : x.y.Ok) (hS : Sl w (some ⟨g, 0, none⟩) (dL d x.pn)) (hd : ∀ i, d i <= x.y.hL i) (hp : p < x.pn) :
  Calls Tryz.prog 57 #[x.v, .slice (some ⟨g, 0, none⟩) x.pn dc, .int .i64 p] w fun e w' => e = .returned (.bool (qB (x.y.hs.Can d p))) /\ Below w.heap.size w w' := by
 have h4 : (x.pn : Int) <= 4 := by have := hO.cn.1.2; have h9 : x.y.pn = x.pn := rfl; omega
 have hp' : (p : Int) < (x.pn : Int) := by omega
 have hhn : x.hn = x.pn := hO.cn.2.2.1
 have HG : Hid (SysG w x) := hG
 have HSn : Hid (d p < x.hL p -> ∀ wx, Below w.heap.size w wx -> Calls Tryz.prog 96 #[x.v, .int .i64 p, .int .i64 (d p : Nat)] wx fun e w' => e = .returned (.int .i64 (sndN x.y p (d p))) /\ Below wx.heap.size wx w') := fun hi wx hb => l7Sender_any x p (d p) wx (hG.below hb) hcap hO hp hi
 have HC : Hid (d p < x.hL p -> (x.y.hs.Can d p ↔ ∀ s, sdr x.y p (d p) = some s -> s.2 < d s.1)) := fun hi => can_sdr_iff hO hp hi
 have HAt : Hid (∀ s, d p < x.hL p -> sdr x.y p (d p) = some s -> (x.y.hH p (d p)).q = (s.1 : Int) /\ s.1 < x.pn /\ sndN x.y p (d p) = (s.2 : Int)) := fun s hi hs => by
  have h9 := sdr_at hO (show p < x.y.pn from hp) (show d p < x.y.hL p from hi) hs
  exact ⟨h9.2.1, h9.2.2.1, h9.2.2.2.2.1⟩
 have HNo : Hid (sdr x.y p (d p) = none -> sndN x.y p (d p) = -1) := fun hs => if_neg (sdr_none hs)
 have hl200 : (x.hL p : Int) <= 200 := by have := hO.hl200 (p := p) hp; have h9 : x.y.hL p = x.hL p := rfl; omega
 have hdp : (d p : Int) <= (x.hL p : Int) := by have := hd p; have h9 : x.y.hL p = x.hL p := rfl; omega
 obtain ⟨bh, oh, eh, ch⟩ := hG.h.at (k := p) (by rw [hhn]; exact hp)
 have HB : Hid (Below w.heap.size w (w.alloc (oQ4 x.pa x.pn x.pc x.sa x.sn x.sc x.wa x.wn x.wc x.ha x.hn x.hc))) := zS _ _
 have HX : Hid (BoxC (w.alloc (oQ4 x.pa x.pn x.pc x.sa x.sn x.sc x.wa x.wn x.wc x.ha x.hn x.hc)) w.heap.size (.slice x.pa x.pn x.pc) (.slice x.sa x.sn x.sc) (.slice x.wa x.wn x.wc) (.slice x.ha x.hn x.hc)) := BoxC.new w _ _ _ _ _
 have HS : Hid (∀ wx, Below w.heap.size w wx -> ∀ i, i < x.pn -> wx.cell? ⟨g, i, none⟩ = some (.int .i64 (d i : Nat))) := fun wx hb i hi => by
  have h9 := Sl.cell0 (hS.below hb) (k := i) (by rw [dL_len]; exact hi)
  rw [dL_at d hi] at h9
  exact h9
 have HCh : Hid (∀ wx, Below w.heap.size w wx -> wx.cell? ⟨bh, oh + p, none⟩ = some (.slice (x.hA p) (x.hL p) (x.hC p))) := fun wx hb => (hb.cell (zJ w _ ch)).trans ch
 have hhn' : (p : Int) < (x.hn : Int) := by rw [hhn]; exact hp'
 have HEv : Hid (d p < x.hL p -> ∃ be oe, x.hA p = some ⟨be, oe, none⟩ /\ ∀ wx, Below w.heap.size w wx -> wx.cell? ⟨be, oe + d p * 3 + 1, none⟩ = some (.int .i64 (x.y.hH p (d p)).q)) := fun hi => by
  obtain ⟨be, oe, ee, ze, -, c1, -⟩ := (hG.hi p (by rw [hhn]; exact hp)).at hi
  exact ⟨be, oe, ee, fun wx hb => (hb.cell ze).trans c1⟩
 have HEh : Hid (x.ha = some ⟨bh, oh, none⟩) := eh
 clear hG hcap hO hS hd ch hhn eh
 go_enter Tryz.func57, Tryz.ntmps57
 go_upto_region 1 with fail
 generalize w.alloc (oQ4 x.pa x.pn x.pc x.sa x.sn x.sc x.wa x.wn x.wc x.ha x.hn x.hc) = W1 at *
 obtain ⟨-, -, -, k3⟩ := HX.out
 rw [HEh.out] at k3
 have sd := HS.out W1 HB.out p hp
 have ch := HCh.out W1 HB.out
 have k3' := cell_regrown k3
 have sd' := cell_regrown sd
 have ch' := cell_regrown ch
 by_cases hfull : d p < x.hL p
 case neg =>
  have hge : (x.hL p : Int) <= (d p : Int) := by omega
  have HR : Hid (qB (x.y.hs.Can d p) = false) := qB_false fun h => hfull h.1
  refine wp_region_quiet_below (by kernel_rfl) (by kernel_rfl) ?_
  repeat (quiet_step (fail))
  refine wpQuiet_nil ?_
  intro _ hw'
  obtain ⟨⟨dq, osq⟩, hw''⟩ := hw'
  subst hw''
  have B2 : Hid (Below w.heap.size w (grow (redrawn W1 dq) osq)) := HB.out.trans ((below_regrown W1 dq osq).mono HB.out.size)
  generalize grow (redrawn W1 dq) osq = W2 at *
  clear k3 sd ch k3' sd' ch' HC HAt HNo HSn HEv
  go_wp2
  go_ret
  exact ⟨by rw [HR.out]; rfl, B2.out⟩
 have hlt' : ¬ (x.hL p : Int) <= (d p : Int) := by omega
 obtain ⟨be, oe, ee, hev⟩ := HEv.out hfull
 have HV : Hid (∀ wx, Below w.heap.size w wx -> wx.cell? ⟨be, oe + d p * 3 + 1, none⟩ = some (.int .i64 (x.y.hH p (d p)).q)) := hev
 have HEe : Hid (x.hA p = some ⟨be, oe, none⟩) := ee
 have HLt : Hid (d p < x.hL p) := hfull
 have hdl : (d p : Int) < (x.hL p : Int) := by omega
 clear hev ee hfull HEv
 refine wp_region_quiet_below (by kernel_rfl) (by kernel_rfl) ?_
 repeat (quiet_step (fail))
 refine wpQuiet_nil ?_
 intro _ hw'
 obtain ⟨⟨dq, osq⟩, hw''⟩ := hw'
 subst hw''
 have B2 : Hid (Below w.heap.size w (grow (redrawn W1 dq) osq) /\ BoxC (grow (redrawn W1 dq) osq) w.heap.size (.slice x.pa x.pn x.pc) (.slice x.sa x.sn x.sc) (.slice x.wa x.wn x.wc) (.slice x.ha x.hn x.hc)) := ⟨HB.out.trans ((below_regrown W1 dq osq).mono HB.out.size), HX.out.below (below_regrown W1 dq osq)⟩
 generalize grow (redrawn W1 dq) osq = W2 at *
 clear k3 sd ch k3' sd' ch' HB HX W1
 obtain ⟨k0, k1, k2, k3⟩ := B2.out.2
 have sd := HS.out W2 B2.out.1 p hp
 have k0' := cell_regrown k0
 have k1' := cell_regrown k1
 have k2' := cell_regrown k2
 have k3' := cell_regrown k3
 have sd' := cell_regrown sd
 have HSn2 : Hid (∀ dd os, Calls Tryz.prog 96 #[x.v, .int .i64 p, .int .i64 (d p : Nat)] (grow (redrawn W2 dd) os) fun e w' => e = .returned (.int .i64 (sndN x.y p (d p))) /\ Below (grow (redrawn W2 dd) os).heap.size (grow (redrawn W2 dd) os) w') := fun dd os => HSn.out HLt.out _ (B2.out.1.trans ((below_regrown W2 dd os).mono B2.out.1.size))
 go_upto_region 3 with fail
 refine wp_region_quiet_below (by kernel_rfl) (by kernel_rfl) ?_
 repeat (quiet_step (first | (go_at_call 96; exact Calls.regrown_of (HSn2.out _ _))))
 refine wpQuiet_nil ?_
 intro _ hw'
 obtain ⟨⟨dq, osq⟩, hw''⟩ := hw'
 subst hw''
 have B3 : Hid (Below w.heap.size w (grow (redrawn W2 dq) osq) /\ BoxC (grow (redrawn W2 dq) osq) w.heap.size (.slice x.pa x.pn x.pc) (.slice x.sa x.sn x.sc) (.slice x.wa x.wn x.wc) (.slice x.ha x.hn x.hc)) := ⟨B2.out.1.trans ((below_regrown W2 dq osq).mono B2.out.1.size), B2.out.2.below (below_regrown W2 dq osq)⟩
 generalize grow (redrawn W2 dq) osq = W3 at *
 clear k0 k1 k2 k3 sd k0' k1' k2' k3' sd' HSn2 B2 W2 HSn
 go_upto_region 4 with fail
 obtain ⟨-, -, -, k3⟩ := B3.out.2
 rw [HEh.out] at k3
 have sd := HS.out W3 B3.out.1 p hp
 have ch := HCh.out W3 B3.out.1
 rw [HEe.out] at ch
 have ev := HV.out W3 B3.out.1
 have k3' := cell_regrown k3
 have sd' := cell_regrown sd
 have ch' := cell_regrown ch
 have ev' := cell_regrown ev
 cases hsd : sdr x.y p (d p) with
 | none =>
  have HR : Hid (qB (x.y.hs.Can d p) = true) := qB_true ((HC.out HLt.out).2 fun s hs => by rw [hsd] at hs; cases hs)
  rw [HNo.out hsd]
  clear HC HAt HNo hsd ev ev' HV
  refine wp_region_quiet_below (by kernel_rfl) (by kernel_rfl) ?_
  repeat (first | go_big_quiet_skip | quiet_step (fail))
  refine wpQuiet_nil ?_
  intro _ hw'
  obtain ⟨⟨dq, osq⟩, hw''⟩ := hw'
  subst hw''
  have B4 : Hid (Below w.heap.size w (grow (redrawn W3 dq) osq)) := B3.out.1.trans ((below_regrown W3 dq osq).mono B3.out.1.size)
  generalize grow (redrawn W3 dq) osq = W4 at *
  clear k3 sd ch k3' sd' ch'
  go_wp2
  go_ret
  exact ⟨by rw [HR.out]; rfl, B4.out⟩
 | some s =>
  obtain ⟨e1, e2, e3⟩ := HAt.out s HLt.out hsd
  have HR : Hid (qB (x.y.hs.Can d p) = decide (s.2 < d s.1)) := by
   show _ = _
   by_cases h9 : s.2 < d s.1
   ·rw [qB_true ((HC.out HLt.out).2 fun t ht => by rw [hsd] at ht; cases ht; exact h9), decide_eq_true (by omega)]
   ·rw [qB_false fun h => h9 ((HC.out HLt.out).1 h s hsd), decide_eq_false (by omega)]
  rw [e1] at ev ev'
  rw [e3]
  have ds := HS.out W3 B3.out.1 s.1 e2
  have ds' := cell_regrown ds
  obtain ⟨s1, s2⟩ := s
  have hs1 : (s1 : Int) < (x.pn : Int) := by have e2 : s1 < x.pn := e2; omega
  have hs20 : ¬ (s2 : Int) < 0 := by omega
  clear HC HAt HNo hsd HV e1 e2 e3
  simp only at ev ev' ds ds' HR ⊢
  refine wp_region_quiet_below (by kernel_rfl) (by kernel_rfl) ?_
  repeat (first | go_big_quiet_skip | quiet_step (fail))
  refine wpQuiet_nil ?_
  intro _ hw'
  obtain ⟨⟨dq, osq⟩, hw''⟩ := hw'
  subst hw''
  have B4 : Hid (Below w.heap.size w (grow (redrawn W3 dq) osq)) := B3.out.1.trans ((below_regrown W3 dq osq).mono B3.out.1.size)
  generalize grow (redrawn W3 dq) osq = W4 at *
  clear k3 sd ch k3' sd' ch' ev ev' ds ds'
  go_wp2
  go_ret
  exact ⟨by rw [HR.out]; rfl, B4.out⟩
structure Rk (w : World) (x : SysIn) (g : Nat) (d : Nat -> Nat) (wr : World) : Prop where
 be : Below w.heap.size w wr
 bs : BoxC wr w.heap.size (.slice x.pa x.pn x.pc) (.slice x.sa x.sn x.sc) (.slice x.wa x.wn x.wc) (.slice x.ha x.hn x.hc)
 ow : OwnI wr (w.heap.size + 1) (.slice (some ⟨g, 0, none⟩) x.pn x.pn) (dL d x.pn)
theorem Rk.lt {w : World} {x : SysIn} {g : Nat} {d : Nat -> Nat} {wr : World} (h : Rk w x g d wr) : w.heap.size + 1 <= g /\ g < wr.heap.size := h.ow.lt g rfl
theorem Rk.below {w : World} {x : SysIn} {g : Nat} {d : Nat -> Nat} {wr w' : World} (h : Rk w x g d wr) (hb : Below wr.heap.size wr w') : Rk w x g d w' := ⟨h.be.trans (hb.mono h.be.size), h.bs.below hb, h.ow.below hb⟩
theorem Rk.cell {w : World} {x : SysIn} {g : Nat} {d : Nat -> Nat} {wr : World} (h : Rk w x g d wr) {p : Nat} (hp : p < x.pn) : wr.cell? ⟨g, p, none⟩ = some (.int .i64 (d p : Nat)) /\ wr.frozen? ⟨g, p, none⟩ = false := by
 have ho := h.ow
 have hc := Sl.cell0 ho.slOf (k := p) (by rw [dL_len]; exact hp)
 rw [dL_at d hp] at hc
 have ho' : OwnI wr (w.heap.size + 1) (.slice (some ⟨g, 0, none⟩) (dL d x.pn).length x.pn) (dL d x.pn) := by rw [dL_len]; exact ho
 exact ⟨hc, ho'.frozen p⟩
theorem Rk.put {w : World} {x : SysIn} {g : Nat} {d : Nat -> Nat} {wr : World} (h : Rk w x g d wr) {p : Nat} (hp : p < x.pn) : Rk w x g (up d p) (wr.setCell ⟨g, p, none⟩ (.int .i64 ((d p : Int) + 1))) := by
 have hg := h.lt
 obtain ⟨h0, h1, h2, h3⟩ := h.bs
 have hc : ∀ i, (wr.setCell ⟨g, p, none⟩ (.int .i64 ((d p : Int) + 1))).cell? ⟨w.heap.size, i, none⟩ = wr.cell? ⟨w.heap.size, i, none⟩ := fun i => World.cell?_setCell_other _ _ _ _ (by intro e; injection e with e; omega)
 refine ⟨h.be.setCell (by simp; omega) _, ⟨(hc _).trans h0, (hc _).trans h1, (hc _).trans h2, (hc _).trans h3⟩, ?_⟩
 have h9 := (h.ow.set (dL_len _ _).symm p ((d p : Int) + 1)).1
 rw [dL_up d hp] at h9
 exact h9
theorem specRowOk_any (x : SysIn) (la : Option Addr) (n lc : Nat) (h : Nat -> Wo2) (w : World) (hG : SysG w x) (hL : x.Len) (hcap : ∀ i, i < x.hn -> x.hL i <= x.hC i) (hW : WoL w la n h) (hn : n <= 1048576) :
  Calls Tryz.prog 23 #[x.v, .slice la n lc] w fun e w' => e = .returned (.bool (rwB x.y h n)) /\ Below w.heap.size w w' := by
 have HSo : Hid (∀ wx, Below w.heap.size w wx -> Calls Tryz.prog 56 #[x.v] wx fun e w' => e = .returned (.bool x.y.okB) /\ Below wx.heap.size wx w') := fun wx hb => specSysOk_any x wx (hG.below hb) hL hcap
 have HCn : Hid (x.y.Ok -> ∀ g p d wr, Rk w x g d wr -> (∀ i, d i <= x.y.hL i) -> p < x.pn -> ∀ wx, Below wr.heap.size wr wx -> Calls Tryz.prog 57 #[x.v, .slice (some ⟨g, 0, none⟩) x.pn x.pn, .int .i64 (p : Nat)] wx fun e w' => e = .returned (.bool (qB (x.y.hs.Can d p))) /\ Below wx.heap.size wx w') := fun hO g p d wr hr hd hp wx hb => l13Can_any x g x.pn p d wx (hG.below (hr.below hb).be) hcap hO (hr.below hb).ow.slOf hd hp
 have HW : Hid (∀ wx, Below w.heap.size w wx -> WoL wx la n h) := fun wx hb => hW.below hb
 have HHs : Hid (x.y.Ok -> ∃ bh oh, x.ha = some ⟨bh, oh, none⟩ /\ ∀ wx, Below w.heap.size w wx -> ∀ j, j < x.pn -> wx.cell? ⟨bh, oh + j, none⟩ = some (.slice (x.hA j) (x.hL j) (x.hC j))) := fun hO => by
  have h1 : 1 <= x.pn := hO.cn.1.1
  have hhn : x.hn = x.pn := hO.cn.2.2.1
  rcases hG.h with h9 | ⟨b, off, e, hb, hc⟩
  ·omega
  ·exact ⟨b, off, e, fun wx hbl j hj => (hbl.cell hb).trans (hc j (by omega))⟩
 have HR : Hid (rwB x.y h n = (x.y.okB && qB (x.y.hs.RwOk h n))) := rfl
 have hn' : (n : Int) <= 1048576 := by omega
 have B0 : Hid (Below w.heap.size w (w.alloc (oQ4 x.pa x.pn x.pc x.sa x.sn x.sc x.wa x.wn x.wc x.ha x.hn x.hc))) := zS _ _
 have X0 : Hid (BoxC (w.alloc (oQ4 x.pa x.pn x.pc x.sa x.sn x.sc x.wa x.wn x.wc x.ha x.hn x.hc)) w.heap.size (.slice x.pa x.pn x.pc) (.slice x.sa x.sn x.sc) (.slice x.wa x.wn x.wc) (.slice x.ha x.hn x.hc)) := BoxC.new w _ _ _ _ _
 clear hG hL hcap hW hn
 go_enter Tryz.func23, Tryz.ntmps23
 go_wp2_with fail
 generalize w.alloc (oQ4 x.pa x.pn x.pc x.sa x.sn x.sc x.wa x.wn x.wc x.ha x.hn x.hc) = W1 at *
 refine (HSo.out W1 B0.out).mono ?_
 rintro e w2 ⟨rfl, b2⟩
 have B2 : Hid (Below w.heap.size w w2 /\ BoxC w2 w.heap.size (.slice x.pa x.pn x.pc) (.slice x.sa x.sn x.sc) (.slice x.wa x.wn x.wc) (.slice x.ha x.hn x.hc)) := ⟨B0.out.trans (b2.mono B0.out.size), X0.out.below b2⟩
 clear b2 B0 X0 HSo
 by_cases hok : x.y.okB = true
 case neg =>
  have hok' : x.y.okB = false := by simpa using hok
  rw [hok'] at HR ⊢
  go_wp2
  go_ret
  exact ⟨by rw [HR.out]; rfl, B2.out.1⟩
 rw [hok] at HR ⊢
 have HO : Hid (x.y.Ok) := Sy.ok_of hok
 have hhn : x.hn = x.pn := HO.out.cn.2.2.1
 have H4 : Hid (x.pn <= 4 /\ 1 <= x.pn /\ x.hn = x.pn) := ⟨HO.out.cn.1.2, HO.out.cn.1.1, hhn⟩
 have h4 : (x.pn : Int) <= 4 := by have := H4.out.1; omega
 have h1 : (1 : Int) <= (x.pn : Int) := by have := H4.out.2.1; omega
 have hmk := run_make_int x.pn (by have := H4.out.1; omega)
 have O3 : Hid (Rk w x w2.heap.size (fun _ => 0) (w2.alloc (.cells (madeCells #[.int .i64 0] x.pn) 3))) := by
  have h9 := made_own w2 x.pn (by have := H4.out.1; omega)
  rw [<- dL_zero] at h9
  exact ⟨B2.out.1.trans ((zS _ _).mono B2.out.1.size), B2.out.2.below (zS _ _), h9.mono (zJ _ _ B2.out.2.1)⟩
 obtain ⟨bh, oh, eh, hch⟩ := HHs.out HO.out
 have HHa : Hid (x.ha = some ⟨bh, oh, none⟩ /\ ∀ wx, Below w.heap.size w wx -> ∀ j, j < x.pn -> wx.cell? ⟨bh, oh + j, none⟩ = some (.slice (x.hA j) (x.hL j) (x.hC j))) := ⟨eh, hch⟩
 obtain ⟨-, -, -, k3⟩ := B2.out.2
 rw [hhn] at k3
 clear hok eh hch HHs hhn
 go_upto_region 4 with fail
 clear k3 hmk B2
 generalize w2.alloc (.cells (madeCells #[.int .i64 0] x.pn) 3) = w3 at *
 generalize w2.heap.size = g at *
 go_wp2_with fail
 go_loopw [6] (fun i wr => ∃ k : Nat, k <= n /\ i = .int .i64 k /\ Hid (Rk w x g (tnD (rwF h) k) wr /\ ∀ j, j < k -> x.y.hs.RwAt h j)) (fun i _ => n - (intOf i).toNat)
 case atStart => exact ⟨0, Nat.zero_le _, rfl, O3.out, fun j hj => by omega⟩
 case round =>
  clear O3
  rename World => wr
  obtain ⟨k, hk, rfl, HF⟩ := hrel
  by_cases hlt : k < n
  case neg =>
   have HK : Hid (k = n) := by show k = n; omega
   go_wp2_with fail
   go_loopw [8] (fun i wi => ∃ j : Nat, j <= x.pn /\ i = .int .i64 j /\ Hid (Rk w x g (tnD (rwF h) k) wi /\ (∀ j, j < k -> x.y.hs.RwAt h j) /\ ∀ q, q < j -> tnD (rwF h) k q = x.y.hs.l q)) (fun i _ => x.pn - (intOf i).toNat)
   case atStart => exact ⟨0, Nat.zero_le _, rfl, HF.out.1, HF.out.2, fun j hj => by omega⟩
   case round =>
    clear HF
    rename World => wi
    obtain ⟨j, hj, rfl, HF⟩ := hrel
    by_cases hjt : j < x.pn
    case neg =>
     have HT : Hid (rwB x.y h n = true /\ Below w.heap.size w wi) := by
      refine ⟨?_, HF.out.1.be⟩
      rw [HR.out, qB_true ⟨by rw [<- HK.out]; exact HF.out.2.1, fun p hp => by rw [<- HK.out]; exact HF.out.2.2 p (by have hp : p < x.pn := hp; omega)⟩]
      rfl
     clear HF HK HR
     go_wp2
     go_ret
     exact ⟨by rw [HT.out.1]; rfl, HT.out.2⟩
    have hjt' : (j : Int) < (x.pn : Int) := by omega
    have hjn : (j : Int) < (x.hn : Int) := by rw [H4.out.2.2]; exact hjt'
    obtain ⟨-, -, -, k3⟩ := HF.out.1.bs
    rw [HHa.out.1] at k3
    have ch := HHa.out.2 wi HF.out.1.be j hjt
    have sd := (HF.out.1.cell hjt).1
    have k3' := cell_regrown k3
    have ch' := cell_regrown ch
    have sd' := cell_regrown sd
    have HL : Hid (x.y.hs.l j = x.hL j) := rfl
    have HF2 : Hid (∀ w', Below wi.heap.size wi w' → tnD (rwF h) k j = x.y.hs.l j → Rk w x g (tnD (rwF h) k) w' ∧ (∀ j, j < k → x.y.hs.RwAt h j) ∧ ∀ q, q < j + 1 → tnD (rwF h) k q = x.y.hs.l q) := fun w' hb he => ⟨HF.out.1.below hb, HF.out.2.1, fun q hq => by
     by_cases e : q = j
     ·subst e
      exact he
     ·exact HF.out.2.2 q (by omega)⟩
    have HN2 : Hid (tnD (rwF h) k j ≠ x.y.hs.l j -> rwB x.y h n = false) := fun he => by
     rw [HR.out, qB_false fun h9 => he (by have := h9.2 j hjt; rw [<- HK.out] at this; exact this)]
     rfl
    generalize hdj : tnD (rwF h) k j = dj at *
    by_cases hne : dj = x.hL j
    case neg =>
     have HT : Hid (rwB x.y h n = false) := HN2.out hne
     have he9 : ((dj : Int) != (x.hL j : Int)) = true := by
      have : ¬ (dj : Int) = (x.hL j : Int) := by omega
      simpa using this
     clear hdj hne HN2 HF2
     go_upto_region 14 with fail
     refine wp_region_quiet_below (by kernel_rfl) (by kernel_rfl) ?_
     repeat (quiet_step (fail))
     refine wpQuiet_nil ?_
     intro _ hw'
     obtain ⟨⟨dq, osq⟩, hw''⟩ := hw'
     subst hw''
     have B4 : Hid (Below w.heap.size w (grow (redrawn wi dq) osq)) := (HF.out.1.below (below_regrown wi dq osq)).be
     generalize grow (redrawn wi dq) osq = w4 at *
     clear k3 sd ch k3' sd' ch' HF
     go_wp2
     go_ret
     exact ⟨by rw [HT.out]; rfl, B4.out⟩
    have he9 : ((dj : Int) != (x.hL j : Int)) = false := by simp [hne]
    have HE9 : Hid (dj = x.y.hs.l j) := hne
    clear hdj hne HN2
    go_upto_region 14 with fail
    refine wp_region_quiet_below (by kernel_rfl) (by kernel_rfl) ?_
    repeat (quiet_step (fail))
    refine wpQuiet_nil ?_
    intro _ hw'
    obtain ⟨⟨dq, osq⟩, hw''⟩ := hw'
    subst hw''
    have B4 : Hid (Rk w x g (tnD (rwF h) k) (grow (redrawn wi dq) osq) /\ (∀ j, j < k -> x.y.hs.RwAt h j) /\ ∀ q, q < j + 1 -> tnD (rwF h) k q = x.y.hs.l q) := HF2.out _ (below_regrown wi dq osq) HE9.out
    generalize grow (redrawn wi dq) osq = w4 at *
    clear k3 sd ch k3' sd' ch' HF HF2
    go_wp2
    go_roundw
    case rel => exact ⟨j + 1, by omega, by go_num, B4.out⟩
    case measure => simp [intOf]; omega
  have hlt' : (k : Int) < (n : Int) := by omega
  obtain ⟨b, off, rfl, -, c0, c1⟩ := (HW.out wr HF.out.1.be).at hlt
  have F2 : Hid (Rk w x g (tnD (rwF h) k) (wr.alloc (.cells #[.int .i64 (h k).m, .int .i64 (h k).v] 57)) /\ (∀ j, j < k -> x.y.hs.RwAt h j) /\ BoxS (wr.alloc (.cells #[.int .i64 (h k).m, .int .i64 (h k).v] 57)) wr.heap.size (.int .i64 (h k).m) (.int .i64 (h k).v)) := ⟨HF.out.1.below (zS _ _), HF.out.2, BoxS.new wr _ _ _⟩
  have LZ : Hid (g < wr.heap.size) := HF.out.1.lt.2
  go_upto_region 8 with fail
  clear c0 c1 HF
  generalize wr.heap.size = S at *
  generalize wr.alloc (.cells #[.int .i64 (h k).m, .int .i64 (h k).v] 57) = w5 at *
  clear wr
  obtain ⟨k0, k1, k2, k3⟩ := F2.out.1.bs
  obtain ⟨s0, s1⟩ := F2.out.2.2
  have HNo : Hid (¬ x.y.hs.RwAt h k -> rwB x.y h n = false) := fun h9 => by
   rw [HR.out, qB_false (Hs.rw_no hlt h9)]
   rfl
  have k0' := cell_regrown k0
  have k1' := cell_regrown k1
  have k2' := cell_regrown k2
  have k3' := cell_regrown k3
  have s0' := cell_regrown s0
  have s1' := cell_regrown s1
  by_cases hin : 0 <= (h k).m /\ (h k).m <= (x.pn : Int) - 1
  case neg =>
   have hib : inB (h k).m 0 ((x.pn : Int) - 1) = false := by simpa [inB] using hin
   have HIn : Hid (∀ wx, Calls Tryz.prog 47 #[.int .i64 (h k).m, .int .i64 0, .int .i64 ((x.pn : Int) - 1)] wx fun e w' => e = .returned (.bool false) /\ w' = wx) := fun wx => by
    have h9 := l1In_any (h k).m 0 ((x.pn : Int) - 1) wx
    rwa [hib] at h9
   have HInW : Hid (∀ wx, Calls Tryz.prog 47 #[.int .i64 (h k).m, .int .i64 0, .int .i64 (IntKind.i64.wrap ((x.pn : Int) - 1))] wx fun e w' => e = .returned (.bool false) /\ w' = wx) := fun wx => by
    have hw : IntKind.i64.wrap ((x.pn : Int) - 1) = (x.pn : Int) - 1 := by rw [IntKind.wrap_i64]; omega
    rw [hw]
    exact HIn.out wx
   clear hib
   have HT : Hid (rwB x.y h n = false) := HNo.out fun ⟨p, hp, e1, _⟩ => hin (by have hp : p < x.pn := hp; omega)
   clear hin
   refine wp_region_quiet_below (by kernel_rfl) (by kernel_rfl) ?_
   repeat (first | go_big_quiet_skip | quiet_step (first | (go_at_call 47; exact Calls.regrown_same (HInW.out _))))
   refine wpQuiet_nil ?_
   intro _ hw'
   obtain ⟨⟨dq, osq⟩, hw''⟩ := hw'
   subst hw''
   have B6 : Hid (Below w.heap.size w (grow (redrawn w5 dq) osq)) := (F2.out.1.below (below_regrown w5 dq osq)).be
   generalize grow (redrawn w5 dq) osq = w6 at *
   clear k0 k1 k2 k3 s0 s1 k0' k1' k2' k3' s0' s1' F2 HNo HR
   go_wp2
   go_ret
   exact ⟨by rw [HT.out]; rfl, B6.out⟩
  have hib : inB (h k).m 0 ((x.pn : Int) - 1) = true := by simpa [inB] using hin
  obtain ⟨P, hP⟩ : ∃ P : Nat, (h k).m = P := ⟨(h k).m.toNat, by omega⟩
  have hPp : P < x.pn := by omega
  have hPI : (P : Int) < (x.pn : Int) := by omega
  have HP : Hid ((h k).m = (P : Nat) /\ P < x.pn) := ⟨hP, hPp⟩
  have HAt : Hid (x.y.hs.RwAt h k -> (h k).v = (tnD (rwF h) k P : Nat) /\ x.y.hs.Can (tnD (rwF h) k) P) := fun ⟨p, hp, e1, e2, e3⟩ => by
   obtain rfl : p = P := by omega
   exact ⟨e2, e3⟩
  have HYe : Hid ((h k).v = (tnD (rwF h) k P : Nat) -> x.y.hs.Can (tnD (rwF h) k) P -> x.y.hs.RwAt h k /\ tnD (rwF h) (k + 1) = up (tnD (rwF h) k) P) := fun e1 e2 => Hs.rw_hit hPp hP e1 e2
  rw [hP] at s0 s0' hib
  have HIn : Hid (∀ wx, Calls Tryz.prog 47 #[.int .i64 (P : Nat), .int .i64 0, .int .i64 ((x.pn : Int) - 1)] wx fun e w' => e = .returned (.bool true) /\ w' = wx) := fun wx => by
   have h9 := l1In_any (P : Nat) 0 ((x.pn : Int) - 1) wx
   rwa [hib] at h9
  have HInW : Hid (∀ wx, Calls Tryz.prog 47 #[.int .i64 (P : Nat), .int .i64 0, .int .i64 (IntKind.i64.wrap ((x.pn : Int) - 1))] wx fun e w' => e = .returned (.bool true) /\ w' = wx) := fun wx => by
   have hw : IntKind.i64.wrap ((x.pn : Int) - 1) = (x.pn : Int) - 1 := by rw [IntKind.wrap_i64]; omega
   rw [hw]
   exact HIn.out wx
  clear hib
  have sd := (F2.out.1.cell hPp).1
  have sd' := cell_regrown sd
  have HD2 : Hid (∀ i, tnD (rwF h) k i <= x.y.hL i) := (Hs.rw_put F2.out.2.1).le
  have HCx : Hid (∀ dd os, Calls Tryz.prog 57 #[x.v, .slice (some ⟨g, 0, none⟩) x.pn x.pn, .int .i64 (P : Nat)] (grow (redrawn w5 dd) os) fun e w' => e = .returned (.bool (qB (x.y.hs.Can (tnD (rwF h) k) P))) /\ Below (grow (redrawn w5 dd) os).heap.size (grow (redrawn w5 dd) os) w') := fun dd os => HCn.out HO.out g P _ w5 F2.out.1 HD2.out hPp _ (below_regrown w5 dd os)
  have HDp : Hid (tnD (rwF h) k P <= 200) := by
   have h9 := HD2.out P
   have h8 := HO.out.hl200 (show P < x.y.pn from hPp)
   show tnD (rwF h) k P <= 200
   omega
  have hdp : ((tnD (rwF h) k P : Nat) : Int) <= 200 := by have := HDp.out; omega
  clear hin hP
  by_cases hv : (h k).v = (tnD (rwF h) k P : Nat)
  case neg =>
   have hve : ((h k).v != ((tnD (rwF h) k P : Nat) : Int)) = true := by simpa using hv
   have HT : Hid (rwB x.y h n = false) := HNo.out fun h9 => hv (HAt.out h9).1
   clear hv HAt HYe HCx
   refine wp_region_quiet_below (by kernel_rfl) (by kernel_rfl) ?_
   repeat (first | go_big_quiet_skip | quiet_step (first | (go_at_call 47; exact Calls.regrown_same (HInW.out _))))
   refine wpQuiet_nil ?_
   intro _ hw'
   obtain ⟨⟨dq, osq⟩, hw''⟩ := hw'
   subst hw''
   have B6 : Hid (Below w.heap.size w (grow (redrawn w5 dq) osq)) := (F2.out.1.below (below_regrown w5 dq osq)).be
   generalize grow (redrawn w5 dq) osq = w6 at *
   clear k0 k1 k2 k3 s0 s1 k0' k1' k2' k3' s0' s1' sd sd' F2 HNo HR
   go_wp2
   go_ret
   exact ⟨by rw [HT.out]; rfl, B6.out⟩
  have hve : ((h k).v != ((tnD (rwF h) k P : Nat) : Int)) = false := by simpa using hv
  have HV9 : Hid ((h k).v = (tnD (rwF h) k P : Nat)) := hv
  clear hv
  by_cases hcn : x.y.hs.Can (tnD (rwF h) k) P
  case neg =>
   rw [qB_false hcn] at HCx
   have HT : Hid (rwB x.y h n = false) := HNo.out fun h9 => hcn (HAt.out h9).2
   clear hcn HAt HYe
   refine wp_region_quiet_below (by kernel_rfl) (by kernel_rfl) ?_
   repeat (first | go_big_quiet_skip | quiet_step (first | (go_at_call 47; exact Calls.regrown_same (HInW.out _)) | (go_at_call 57; exact Calls.regrown_of (HCx.out _ _))))
   refine wpQuiet_nil ?_
   intro _ hw'
   obtain ⟨⟨dq, osq⟩, hw''⟩ := hw'
   subst hw''
   have B6 : Hid (Below w.heap.size w (grow (redrawn w5 dq) osq)) := (F2.out.1.below (below_regrown w5 dq osq)).be
   generalize grow (redrawn w5 dq) osq = w6 at *
   clear k0 k1 k2 k3 s0 s1 k0' k1' k2' k3' s0' s1' sd sd' F2 HNo HR HCx
   go_wp2
   go_ret
   exact ⟨by rw [HT.out]; rfl, B6.out⟩
  rw [qB_true hcn] at HCx
  obtain ⟨hat, hup⟩ := HYe.out HV9.out hcn
  have HAU : Hid (x.y.hs.RwAt h k /\ tnD (rwF h) (k + 1) = up (tnD (rwF h) k) P) := ⟨hat, hup⟩
  clear hcn HAt HYe hat hup HNo
  refine wp_region_quiet_below (by kernel_rfl) (by kernel_rfl) ?_
  repeat (first | go_big_quiet_skip | quiet_step (first | (go_at_call 47; exact Calls.regrown_same (HInW.out _)) | (go_at_call 57; exact Calls.regrown_of (HCx.out _ _))))
  refine wpQuiet_nil ?_
  intro _ hw'
  obtain ⟨⟨dq, osq⟩, hw''⟩ := hw'
  subst hw''
  have F6 : Hid (Rk w x g (tnD (rwF h) k) (grow (redrawn w5 dq) osq) /\ (∀ j, j < k -> x.y.hs.RwAt h j) /\ BoxS (grow (redrawn w5 dq) osq) S (.int .i64 (P : Nat)) (.int .i64 (h k).v)) := ⟨F2.out.1.below (below_regrown w5 dq osq), F2.out.2.1, by rw [<- HP.out.1]; exact F2.out.2.2.below (below_regrown w5 dq osq)⟩
  generalize grow (redrawn w5 dq) osq = w6 at *
  clear k0 k1 k2 k3 s0 s1 k0' k1' k2' k3' s0' s1' sd sd' F2 HCx w5
  obtain ⟨s0, s1⟩ := F6.out.2.2
  obtain ⟨sd, sf⟩ := F6.out.1.cell HP.out.2
  have F7 : Hid (Rk w x g (tnD (rwF h) (k + 1)) (w6.setCell ⟨g, P, none⟩ (.int .i64 ((tnD (rwF h) k P : Nat) + 1 : Int))) /\ ∀ j, j < k + 1 -> x.y.hs.RwAt h j) := by
   refine ⟨?_, fun j hj => ?_⟩
   ·rw [HAU.out.2]
    exact F6.out.1.put HP.out.2
   ·by_cases e : j = k
    ·subst e
     exact HAU.out.1
    ·exact F6.out.2.1 j (by omega)
  clear F6 HAU
  go_wp2
  go_roundw
  case rel => exact ⟨k + 1, by omega, by go_num, F7.out⟩
  case measure => simp [intOf]; omega
theorem append_whos {ops : Array Oper} {rest : List Oper} {op : Oper} {act : Act} {Q : Exit -> Act -> World -> Prop} (w : World) {N : Nat} (hN : N = w.heap.size) (hgd : op.guard = none) (s x : Operand)
  (ho : op.op = .call { callee := .builtin .append, args := #[s, x], argTypes := #[40, 40] })
  (b off n c : Nat) (h : Nat -> Wo2) (hs : act.eval s = .slice (some ⟨N, 0, none⟩) 0 0) (hx : act.eval x = .slice (some ⟨b, off, none⟩) n c) (hb : b < w.heap.size) (hI : WoAt w b off n h) (hn : n <= 1048576)
  (hp : ∀ v' w', OwV w' w.heap.size v' n h -> Below w.heap.size w w' -> wpList Tryz.prog ops Q rest (act.put op.dst v') w') :
  wpList Tryz.prog ops Q (op :: rest) act (w.alloc (.cells #[] 57)) := by
 subst hN
 obtain ⟨i0, hi, hz0, hz1, hz2⟩ := info_who
 have hB : Below w.heap.size w (w.alloc (.cells #[] 57)) := zS _ _
 have hnews : ∀ j u, (flW h n)[j]? = some u -> (w.alloc (.cells #[] 57)).cell? ((⟨b, off, none⟩ : Addr).add j) = some u := by
  intro j u hj
  have hjl : j < (flW h n).length := by
   rcases Nat.lt_or_ge j (flW h n).length with h | h
   ·exact h
   ·rw [List.getElem?_eq_none h] at hj
    cases hj
  rw [flW_length] at hjl
  rw [addr_addO, (hB.cell (p := ⟨b, off + j, none⟩) hb)]
  obtain ⟨c0, c1⟩ := hI (j / 2) (by omega)
  obtain ⟨f0, f1⟩ := flW_at h n (j / 2) (by omega)
  have he : j = j / 2 * 2 \/ j = j / 2 * 2 + 1 := by omega
  rcases he with e | e
  ·rw [<- e] at f0 c0
   rw [hj] at f0
   rw [c0, f0]
  ·rw [<- e] at f1
   rw [show off + j / 2 * 2 + 1 = off + j from by omega] at c1
   rw [hj] at f1
   rw [c1, f1]
 obtain ⟨v', w', h1, h2, h3, h4, h5⟩ := run_append_own_at (P := Tryz.prog) (w.alloc (.cells #[] 57)) w.heap.size 40 op.type 57 i0 (woV 0 0) 2 16 Tryz.underlying40 hi hz0 hz1 hz2 rfl (by decide) (.slice (some ⟨w.heap.size, 0, none⟩) 0 0) 0 [] (World.ownsRow_made (base := w.heap.size) (e := 57) (size := 2) w #[] 0 (Nat.le_refl _) (by unfold maxLen; omega) rfl) ⟨b, off, none⟩ n c (flW h n) (flW_length h n) hnews (flW_one h n) (by unfold maxLen; omega) (by omega) (by simp)
 refine wpList_plain hgd fun K hK => ?_
 unfold Oper.wp execOp
 simp only [ho, resolve, invoke, builtin, Sem.run_bind, Sem.run_pure, Result.andThen_ok, List.map_toArray, List.map_cons, List.map_nil, hs, hx, h1]
 rw [Nat.zero_add, List.nil_append] at h2
 refine hK _ _ (hp v' w' ?_ ?_)
 ·have hne : v' ≠ .slice none 0 0 := fun e => by
   have := (h4.1 e).1
   simp at this
  obtain ⟨g, cap, cur, rfl, hg, hblk, hc⟩ : ∃ g cap cur, v' = .slice (some ⟨g, 0, none⟩) n cap /\ w.heap.size <= g /\ w'.heap[g]? = some (.cells cur 57 (0, 0)) /\ True := by
   rcases h2.2 with ⟨e, _⟩ | ⟨g, cap, cur, e, q1, q2, _⟩
   ·exact absurd e hne
   ·exact ⟨g, cap, cur, e, q1, q2, trivial⟩
  refine ⟨g, cap, rfl, hg, ?_, fun i hi => ?_, fun j => h2.frozenAt j⟩
  ·exact (h2.lt g rfl).2
  ·obtain ⟨f0, f1⟩ := flW_at h n i hi
   rw [h2.cellAt _ (by omega), h2.cellAt _ (by omega), Nat.zero_add]
   exact ⟨f0, f1⟩
 ·exact hB.grown h3 (by simp) fun k hk => by simp [Value.ownBlock] at hk; omega
theorem specSwap_any (x : SysIn) (la : Option Addr) (n lc : Nat) (h : Nat -> Wo2) (k : Int) (w : World) (hG : SysG w x) (hL : x.Len) (hcap : ∀ i, i < x.hn -> x.hL i <= x.hC i) (hW : WoL w la n h) (hn : n <= 1048576) :
  Calls Tryz.prog 16 #[x.v, .slice la n lc, .int .i64 k] w fun e w' => ∃ v, e = .returned (.tuple #[v, .bool (swB x.y h n k)]) /\ OwV w' w.heap.size v (swN x.y h n k) (swH h k.toNat) /\ Below w.heap.size w w' := by
 have HRo : Hid (∀ t, rwB x.y h n = t -> ∀ wx, Below w.heap.size w wx -> Calls Tryz.prog 23 #[x.v, .slice la n lc] wx fun e w' => e = .returned (.bool t) /\ Below wx.heap.size wx w') := fun t ht wx hb => by
  rw [<- ht]
  exact specRowOk_any x la n lc h wx (hG.below hb) hL hcap (hW.below hb) hn
 have HSd : Hid (∀ a b c d t, sdB x.y a b c d = t -> ∀ wx, Below w.heap.size w wx -> Calls Tryz.prog 48 #[x.v, .int .i64 a, .int .i64 b, .int .i64 c, .int .i64 d] wx fun e w' => e = .returned (.bool t) /\ Below wx.heap.size wx w') := fun a b c d t ht wx hb => by
  rw [<- ht]
  exact specSide_any x a b c d wx (hG.below hb) hL hcap
 have HW : Hid (∀ wx, Below w.heap.size w wx -> WoL wx la n h) := fun wx hb => hW.below hb
 have HEm : Hid (swB x.y h n k = false -> ∀ wx, Below w.heap.size w wx -> OwV (wx.alloc (.cells #[] 57)) w.heap.size (.slice (some ⟨wx.heap.size, 0, none⟩) 0 0) (swN x.y h n k) (swH h k.toNat) /\ Below w.heap.size w (wx.alloc (.cells #[] 57))) := fun hf wx hb => by
  refine ⟨?_, hb.trans ((zS _ _).mono hb.size)⟩
  rw [show swN x.y h n k = 0 by unfold swN; rw [hf]; rfl]
  exact (OwR.empty wx _).v.mono hb.size
 have hn' : (n : Int) <= 1048576 := by omega
 have B0 : Hid (Below w.heap.size w (w.alloc (oQ4 x.pa x.pn x.pc x.sa x.sn x.sc x.wa x.wn x.wc x.ha x.hn x.hc)) /\ BoxC (w.alloc (oQ4 x.pa x.pn x.pc x.sa x.sn x.sc x.wa x.wn x.wc x.ha x.hn x.hc)) w.heap.size (.slice x.pa x.pn x.pc) (.slice x.sa x.sn x.sc) (.slice x.wa x.wn x.wc) (.slice x.ha x.hn x.hc)) := ⟨zS _ _, BoxC.new w _ _ _ _ _⟩
 clear hG hL hcap hW
 go_enter Tryz.func16, Tryz.ntmps16
 go_upto_region 1 with fail
 generalize w.alloc (oQ4 x.pa x.pn x.pc x.sa x.sn x.sc x.wa x.wn x.wc x.ha x.hn x.hc) = W1 at *
 obtain ⟨k0, k1, k2, k3⟩ := B0.out.2
 have k0' := cell_regrown k0
 have k1' := cell_regrown k1
 have k2' := cell_regrown k2
 have k3' := cell_regrown k3
 have HBr : Hid (∀ dd os, Below w.heap.size w (grow (redrawn W1 dd) os)) := fun dd os => B0.out.1.trans ((below_regrown W1 dd os).mono B0.out.1.size)
 cases hr : rwB x.y h n with
 | false =>
  have HF : Hid (swB x.y h n k = false) := by
   show swB x.y h n k = false
   unfold swB
   rw [hr, Bool.and_false]
   rfl
  refine wp_region_quiet_below (by kernel_rfl) (by kernel_rfl) ?_
  repeat (first | go_big_quiet_skip | quiet_step (first | (go_at_call 23; exact Calls.regrown_of (HRo.out false hr _ (HBr.out _ _)))))
  refine wpQuiet_nil ?_
  intro _ hw'
  obtain ⟨⟨dq, osq⟩, hw''⟩ := hw'
  subst hw''
  have HE := HEm.out HF.out _ (HBr.out dq osq)
  generalize grow (redrawn W1 dq) osq = w2 at *
  clear k0 k1 k2 k3 k0' k1' k2' k3'
  go_wp2
  refine bodyPost_ret (v := .tuple #[.slice (some ⟨w2.heap.size, 0, none⟩) 0 0, .bool false]) (by simp [results, Tryz.results16, go_sem]) rfl ⟨_, by rw [HF.out], HE⟩
 | true =>
  have hw2 : IntKind.i64.wrap ((n : Int) - 2) = (n : Int) - 2 := by rw [IntKind.wrap_i64]; omega
  cases hb : belB k ((n : Int) - 1) with
  | false =>
   have HF : Hid (swB x.y h n k = false) := by
    show swB x.y h n k = false
    unfold swB
    rw [hb]
    rfl
   have HIn : Hid (∀ wx, Calls Tryz.prog 47 #[.int .i64 k, .int .i64 0, .int .i64 (IntKind.i64.wrap ((n : Int) - 2))] wx fun e w' => e = .returned (.bool false) /\ w' = wx) := fun wx => by
    have h9 := l1In_any k 0 ((n : Int) - 2) wx
    rw [hw2]
    rwa [show inB k 0 ((n : Int) - 2) = false by
     have h8 : ¬ (0 <= k /\ k < (n : Int) - 1) := by simpa [belB] using hb
     simp only [inB, decide_eq_false_iff_not]
     omega] at h9
   clear hw2
   refine wp_region_quiet_below (by kernel_rfl) (by kernel_rfl) ?_
   repeat (first | go_big_quiet_skip | quiet_step (first | (go_at_call 23; exact Calls.regrown_of (HRo.out true hr _ (HBr.out _ _))) | (go_at_call 47; exact Calls.regrown_same (HIn.out _))))
   refine wpQuiet_nil ?_
   intro _ hw'
   obtain ⟨⟨dq, osq⟩, hw''⟩ := hw'
   subst hw''
   have HE := HEm.out HF.out _ (HBr.out dq osq)
   generalize grow (redrawn W1 dq) osq = w2 at *
   clear k0 k1 k2 k3 k0' k1' k2' k3'
   go_wp2
   refine bodyPost_ret (v := .tuple #[.slice (some ⟨w2.heap.size, 0, none⟩) 0 0, .bool false]) (by simp [results, Tryz.results16, go_sem]) rfl ⟨_, by rw [HF.out], HE⟩
  | true =>
   have hb9 : 0 <= k /\ k < (n : Int) - 1 := by simpa [belB] using hb
   obtain ⟨K, rfl⟩ : ∃ K : Nat, k = K := ⟨k.toNat, by omega⟩
   have hK : K + 1 < n := by omega
   have hK1 : (K : Int) < (n : Int) := by omega
   have hK2 : (K : Int) + 1 < (n : Int) := by omega
   have hTn : Hid (((K : Nat) : Int).toNat = K) := Int.toNat_natCast K
   have HIn : Hid (∀ wx, Calls Tryz.prog 47 #[.int .i64 (K : Nat), .int .i64 0, .int .i64 (IntKind.i64.wrap ((n : Int) - 2))] wx fun e w' => e = .returned (.bool true) /\ w' = wx) := fun wx => by
    have h9 := l1In_any (K : Nat) 0 ((n : Int) - 2) wx
    rw [hw2]
    rwa [show inB (K : Nat) 0 ((n : Int) - 2) = true by
     simp only [inB, decide_eq_true_eq]
     omega] at h9
   have hwk : IntKind.i64.wrap ((K : Int) + 1) = ((K + 1 : Nat) : Int) := by rw [IntKind.wrap_i64]; omega
   have hK3 : ((K + 1 : Nat) : Int) < (n : Int) := by omega
   have hK0 : (0 : Int) <= (K : Int) + 1 := by omega
   clear hw2
   obtain ⟨b, off, rfl, zb, c0, c1⟩ := (HW.out W1 B0.out.1).at (show K < n by omega)
   obtain ⟨b', off', e', zb', d0, d1⟩ := (HW.out W1 B0.out.1).at hK
   obtain ⟨rfl, rfl⟩ : b = b' /\ off = off' := by simpa using e'
   have c0' := cell_regrown c0
   have c1' := cell_regrown c1
   have d0' := cell_regrown d0
   have d1' := cell_regrown d1
   clear e' zb'
   cases hd : sdB x.y (h K).m (h K).v (h (K + 1)).m (h (K + 1)).v with
   | false =>
    have HF : Hid (swB x.y h n K = false) := by
     show swB x.y h n K = false
     unfold swB
     rw [Int.toNat_natCast, hd, Bool.and_false]
    refine wp_region_quiet_below (by kernel_rfl) (by kernel_rfl) ?_
    repeat (first | go_big_quiet_skip | quiet_step (first | (go_at_call 23; exact Calls.regrown_of (HRo.out true hr _ (HBr.out _ _))) | (go_at_call 47; exact Calls.regrown_same (HIn.out _)) | (go_at_call 48; exact Calls.regrown_of (HSd.out _ _ _ _ false hd _ (HBr.out _ _)))))
    refine wpQuiet_nil ?_
    intro _ hw'
    obtain ⟨⟨dq, osq⟩, hw''⟩ := hw'
    subst hw''
    have HE := HEm.out HF.out _ (HBr.out dq osq)
    generalize grow (redrawn W1 dq) osq = w2 at *
    clear k0 k1 k2 k3 k0' k1' k2' k3' c0 c1 d0 d1 c0' c1' d0' d1' hwk
    go_wp2
    refine bodyPost_ret (v := .tuple #[.slice (some ⟨w2.heap.size, 0, none⟩) 0 0, .bool false]) (by simp [results, Tryz.results16, go_sem]) rfl ⟨_, by rw [HF.out], HE⟩
   | true =>
    have HF : Hid (swB x.y h n K = true /\ swN x.y h n K = n) := by
     have h9 : swB x.y h n K = true := by
      unfold swB
      rw [Int.toNat_natCast, hd, hb, hr]
      rfl
     exact ⟨h9, if_pos h9⟩
    refine wp_region_quiet_below (by kernel_rfl) (by kernel_rfl) ?_
    repeat (first | go_big_quiet_skip | quiet_step (first | (go_at_call 23; exact Calls.regrown_of (HRo.out true hr _ (HBr.out _ _))) | (go_at_call 47; exact Calls.regrown_same (HIn.out _)) | (go_at_call 48; exact Calls.regrown_of (HSd.out _ _ _ _ true hd _ (HBr.out _ _)))))
    refine wpQuiet_nil ?_
    intro _ hw'
    obtain ⟨⟨dq, osq⟩, hw''⟩ := hw'
    subst hw''
    have B2 : Hid (Below w.heap.size w (grow (redrawn W1 dq) osq)) := HBr.out dq osq
    generalize grow (redrawn W1 dq) osq = w2 at *
    clear k0 k1 k2 k3 k0' k1' k2' k3' c0 c1 d0 d1 c0' c1' d0' d1' hwk zb HIn HBr HEm
    obtain ⟨b9, off9, e9, zb, hat⟩ : ∃ b9 off9, some (⟨b, off, none⟩ : Addr) = some ⟨b9, off9, none⟩ /\ b9 < w2.heap.size /\ WoAt w2 b9 off9 n h := by
     rcases HW.out w2 B2.out with h9 | h9
     ·omega
     ·exact h9
    obtain ⟨rfl, rfl⟩ : b = b9 /\ off = off9 := by simpa using e9
    have HA : Hid (WoAt w2 b off n h /\ b < w2.heap.size) := ⟨hat, zb⟩
    clear e9 hat
    go_upto_region 4 with (at_builtin; refine append_whos w2 rfl rfl _ _ rfl b off n lc h rfl rfl HA.out.2 HA.out.1 hn ?_; intro v' w3 o3 b3; obtain ⟨g, cg, rfl, gB, gl, ga, gf⟩ := o3; have HO3 : Hid (OwV w3 w2.heap.size (.slice (some ⟨g, 0, none⟩) n cg) n h /\ Below w2.heap.size w2 w3) := ⟨⟨g, cg, rfl, gB, gl, ga, gf⟩, b3⟩)
    have hat3 := HA.out.1.below b3 HA.out.2
    obtain ⟨c0, c1⟩ := hat3 K (by omega)
    obtain ⟨d0, d1⟩ := hat3 (K + 1) hK
    obtain ⟨a0, a1⟩ := ga K (by omega)
    obtain ⟨a2, a3⟩ := ga (K + 1) hK
    rw [Nat.zero_add] at a0 a1 a2 a3
    have hgb : b ≠ g := by have := HA.out.2; omega
    have hle : w.heap.size <= w2.heap.size := B2.out.size
    have cz : ∀ (W : World) (j : Nat) (u : Value) (D : Nat), D ≠ g -> ∀ t, (W.setCell ⟨g, j, none⟩ u).cell? ⟨D, t, none⟩ = W.cell? ⟨D, t, none⟩ := fun W j u D hD t => World.cell?_setCell_other _ _ _ _ (by intro e; injection e with e; exact hD e.symm)
    have cy : ∀ (W : World) (i t : Nat) (u : Value), i ≠ t -> (W.setCell ⟨g, i, none⟩ u).cell? ⟨g, t, none⟩ = W.cell? ⟨g, t, none⟩ := fun W i t u hit => World.cell?_setCell_other _ _ _ _ (by intro e; injection e with _ e; exact hit e)
    have c0' : ((w3.setCell ⟨g, K * 2, none⟩ (.int .i64 (h (K + 1)).m)).setCell ⟨g, K * 2 + 1, none⟩ (.int .i64 (h (K + 1)).v)).cell? ⟨b, off + K * 2, none⟩ = some (.int .i64 (h K).m) := by rw [cz _ _ _ _ hgb, cz _ _ _ _ hgb]; exact c0
    have c1' : ((w3.setCell ⟨g, K * 2, none⟩ (.int .i64 (h (K + 1)).m)).setCell ⟨g, K * 2 + 1, none⟩ (.int .i64 (h (K + 1)).v)).cell? ⟨b, off + K * 2 + 1, none⟩ = some (.int .i64 (h K).v) := by rw [cz _ _ _ _ hgb, cz _ _ _ _ hgb]; exact c1
    have a2' : ((w3.setCell ⟨g, K * 2, none⟩ (.int .i64 (h (K + 1)).m)).setCell ⟨g, K * 2 + 1, none⟩ (.int .i64 (h (K + 1)).v)).cell? ⟨g, (K + 1) * 2, none⟩ = some (.int .i64 (h (K + 1)).m) := by rw [cy _ _ _ _ (by omega), cy _ _ _ _ (by omega)]; exact a2
    have a3' : ((w3.setCell ⟨g, K * 2, none⟩ (.int .i64 (h (K + 1)).m)).setCell ⟨g, K * 2 + 1, none⟩ (.int .i64 (h (K + 1)).v)).cell? ⟨g, (K + 1) * 2 + 1, none⟩ = some (.int .i64 (h (K + 1)).v) := by rw [cy _ _ _ _ (by omega), cy _ _ _ _ (by omega)]; exact a3
    have f' : ∀ t, ((w3.setCell ⟨g, K * 2, none⟩ (.int .i64 (h (K + 1)).m)).setCell ⟨g, K * 2 + 1, none⟩ (.int .i64 (h (K + 1)).v)).frozen? ⟨g, t, none⟩ = false := fun t => by rw [World.frozen?_setCell, World.frozen?_setCell]; exact gf t
    have h4 := cells4w (w := w3) (g := g) (a0 := K * 2) (a1 := K * 2 + 1) (a2 := (K + 1) * 2) (a3 := (K + 1) * 2 + 1) (u0 := .int .i64 (h (K + 1)).m) (u1 := .int .i64 (h (K + 1)).v) (u2 := .int .i64 (h K).m) (u3 := .int .i64 (h K).v) (by omega) (by omega) (by omega) (by omega) (by omega) (by omega) (by rw [a0]; rfl) (by rw [a1]; rfl) (by rw [a2]; rfl) (by rw [a3]; rfl)
    have HEnd : Hid (OwV ((((w3.setCell ⟨g, K * 2, none⟩ (.int .i64 (h (K + 1)).m)).setCell ⟨g, K * 2 + 1, none⟩ (.int .i64 (h (K + 1)).v)).setCell ⟨g, (K + 1) * 2, none⟩ (.int .i64 (h K).m)).setCell ⟨g, (K + 1) * 2 + 1, none⟩ (.int .i64 (h K).v)) w.heap.size (.slice (some ⟨g, 0, none⟩) n cg) (swN x.y h n K) (swH h ((K : Nat) : Int).toNat) /\ Below w.heap.size w ((((w3.setCell ⟨g, K * 2, none⟩ (.int .i64 (h (K + 1)).m)).setCell ⟨g, K * 2 + 1, none⟩ (.int .i64 (h (K + 1)).v)).setCell ⟨g, (K + 1) * 2, none⟩ (.int .i64 (h K).m)).setCell ⟨g, (K + 1) * 2 + 1, none⟩ (.int .i64 (h K).v))) := by
     obtain ⟨r0, r1, r2, r3, ro, rf, rs, rt⟩ := h4
     have bw : Below w.heap.size w w3 := B2.out.trans (b3.mono hle)
     refine ⟨?_, bw.trans (rt.below bw.size fun c e => by have e : c = g := e; omega)⟩
     rw [HF.out.2, hTn.out]
     exact (HO3.out.1.put2 (h' := swH h K) hK (swH_0 h K) (swH_1 h K) (swH_o h K) _ rs rf r0 r1 r2 r3 ro).mono hle
    clear h4 hat3 ga HO3 HA b3 B2 cz cy
    go_upto_region 5 with fail
    clear c0 c1 d0 d1 a0 a1 a2 a3 gf
    generalize ((w3.setCell ⟨g, K * 2, none⟩ (.int .i64 (h (K + 1)).m)).setCell ⟨g, K * 2 + 1, none⟩ (.int .i64 (h (K + 1)).v)) = w5 at *
    go_wp2
    refine bodyPost_ret (v := .tuple #[.slice (some ⟨g, 0, none⟩) n cg, .bool true]) (by simp [results, Tryz.results16, go_sem]) rfl ⟨_, by rw [HF.out.1], HEnd.out⟩
theorem eqWhoS_v (g1 g2 c1 c2 n : Nat) (h : Nat -> Wo2) (B1 B2 : Nat) (w : World) (hn : n <= 1048576) (o1 : OwV w B1 (.slice (some ⟨g1, 0, none⟩) n c1) n h) (o2 : OwV w B2 (.slice (some ⟨g2, 0, none⟩) n c2) n h) :
  Calls Tryz.prog 12 #[.slice (some ⟨g1, 0, none⟩) n c1, .slice (some ⟨g2, 0, none⟩) n c2] w fun e w' => e = .returned (.bool true) /\ Below w.heap.size w w' := eqWhoS_same g1 g2 n c1 c2 h w hn o1.room.2.2 o2.room.2.2 o1.room.2.1 o2.room.2.1
structure SwJ (W : World) (x : SysIn) (n N : Nat) (H : Nat -> Wo2) (aw cw ag cg NB l2 l3 : Nat) (w : World) : Prop where
 px : Px W x w
 v : OwV w 0 (.slice (some ⟨aw, 0, none⟩) N cw) N H
 rm : RoomWo w NB n
 g : OwV w 0 (.slice (some ⟨ag, 0, none⟩) N cg) N H
 o : W.heap.size < l2 /\ aw < l2 /\ l2 <= l3 /\ l3 < NB /\ NB < ag
structure SwK (W : World) (x x3 : SysIn) (n : Nat) (h : Nat -> Wo2) (N : Nat) (H : Nat -> Wo2) (aw cw ag cg NB l2 l3 : Nat) (w : World) : Prop where
 j : SwJ W x n N H aw cw ag cg NB l2 l3 w
 s : IsSys w l2 l3 x x3.v
 q : BoxC w l3 (.slice x3.pa x3.pn x3.pc) (.slice x3.sa x3.sn x3.sc) (.slice x3.wa x3.wn x3.wc) (.slice x3.ha x3.hn x3.hc)
 r : WoAt w NB 0 n h
 z : NB < w.heap.size /\ l3 < w.heap.size
theorem RoomWo.blk {w w' : World} {b n : Nat} (h : RoomWo w b n) (hb : w'.heap[b]? = w.heap[b]?) : RoomWo w' b n := ⟨fun i hi => by
  obtain ⟨u, hu⟩ := h.1 i hi
  exact ⟨u, (zH hb).trans hu⟩, fun j => (zI hb).trans (h.2 j)⟩
theorem SwJ.touch {W : World} {x : SysIn} {n N : Nat} {H : Nat -> Wo2} {aw cw ag cg NB l2 l3 : Nat} {w w' : World} {P : Nat -> Prop} (h : SwJ W x n N H aw cw ag cg NB l2 l3 w) (t : Touch P w w') (hP : ∀ b, P b -> l2 <= b /\ b < l3) (hNB : NB < w.heap.size) : SwJ W x n N H aw cw ag cg NB l2 l3 w' := by
 obtain ⟨o1, o2, o3, o4, o5⟩ := h.o
 refine ⟨h.px.touch t fun b hb => by have := hP b hb; omega, h.v.touch t fun j hj hb => ?_, h.rm.blk (t.block NB hNB fun hb => by have := hP NB hb; omega), h.g.touch t fun j hj hb => ?_, h.o⟩
 ·obtain rfl : aw = j := by cases hj; rfl
  have := hP aw hb
  omega
 ·obtain rfl : ag = j := by cases hj; rfl
  have := hP ag hb
  omega
theorem SwJ.below {W : World} {x : SysIn} {n N : Nat} {H : Nat -> Wo2} {aw cw ag cg NB l2 l3 : Nat} {w w' : World} (h : SwJ W x n N H aw cw ag cg NB l2 l3 w) (hb : Below w.heap.size w w') (hNB : NB < w.heap.size) : SwJ W x n N H aw cw ag cg NB l2 l3 w' := ⟨h.px.below hb, h.v.below hb, h.rm.blk (hb.block NB hNB), h.g.below hb, h.o⟩
theorem SwK.below {W : World} {x x3 : SysIn} {n : Nat} {h : Nat -> Wo2} {N : Nat} {H : Nat -> Wo2} {aw cw ag cg NB l2 l3 : Nat} {w w' : World} (o : SwK W x x3 n h N H aw cw ag cg NB l2 l3 w) (hb : Below w.heap.size w w') : SwK W x x3 n h N H aw cw ag cg NB l2 l3 w' := ⟨o.j.below hb o.z.1, o.s.below hb (Nat.le_of_lt o.z.2), o.q.below hb, o.r.below hb o.z.1, zL o.z.1 hb.size, zL o.z.2 hb.size⟩
theorem swN_le (y : Sy) (h : Nat -> Wo2) (n : Nat) (k : Int) : swN y h n k <= n := by
 unfold swN
 split <;> omega
theorem swapLaw_small (x : SysIn) (la : Option Addr) (n lc : Nat) (h : Nat -> Wo2) (k : Int) (W : World) (hs : x.size + n <= 1048576) (hA : x.Ok W) (hP : CopiesWo W la n lc h) (hV : W.cell? ⟨0, 0, none⟩ = some (.iface 269 (.agg #[.pointer (some ⟨1, 217, none⟩)]))) :
  Calls Tryz.prog 4 #[sysV x.pa x.pn x.pc x.sa x.sn x.sc x.wa x.wn x.wc x.ha x.hn x.hc, .slice la n lc, .int .i64 k] W fun e w' => e = .returned (.bool true) /\ Below W.heap.size W w' := by
 have HS : Hid (x.size <= 1048576) := by show x.size <= 1048576; omega
 have HNn : Hid (n <= 1048576) := by show n <= 1048576; omega
 have hnn : (n : Int) <= 1048576 := by omega
 have HP : Hid (CopiesWo W la n lc h) := hP
 have HA : Hid (x.Ok W) := hA
 have HV : Hid (∀ wx, Below W.heap.size W wx -> wx.cell? ⟨0, 0, none⟩ = some (.iface 269 (.agg #[.pointer (some ⟨1, 217, none⟩)]))) := fun wx hb => (hb.cell (zJ W _ hV)).trans hV
 have hsz : ¬ (1048576 - (x.size : Int) < 0) := by omega
 have hsz2 : ¬ (1048576 - (x.size : Int) - (n : Int) < 0) := by omega
 have HZ2 : Hid ((n : Int) <= 1048576 - (x.size : Int) /\ 1048576 - (x.size : Int) <= 1048576) := ⟨by omega, by omega⟩
 have hX : swN x.y h n k <= 1048576 := zO (swN_le _ _ _ _) (by omega)
 obtain ⟨N, hN⟩ : ∃ N, swN x.y h n k = N := ⟨_, rfl⟩
 obtain ⟨H, hH⟩ : ∃ H, swH h k.toNat = H := ⟨_, rfl⟩
 obtain ⟨T, hT⟩ : ∃ T, swB x.y h n k = T := ⟨_, rfl⟩
 rw [hN] at hX
 have HN : Hid (swN x.y h n k = N /\ swH h k.toNat = H /\ swB x.y h n k = T) := ⟨hN, hH, hT⟩
 have hX' : (N : Int) <= 1048576 := by omega
 have hTT : (T != T) = false := by simp
 have X0 : Hid (Px W x (W.alloc (.cells #[.slice x.pa x.pn x.pc, .slice x.sa x.sn x.sc, .slice x.wa x.wn x.wc, .slice x.ha x.hn x.hc] 27))) := ⟨below_allocS _ _, BoxC.new W _ _ _ _ _, by simp⟩
 clear hN hH hT hs hA hV hP
 go_enter Tryz.func4, Tryz.ntmps4
 go_wp2_with fail
 generalize W.alloc (.cells #[.slice x.pa x.pn x.pc, .slice x.sa x.sn x.sc, .slice x.wa x.wn x.wc, .slice x.ha x.hn x.hc] 27) = wA at *
 refine (szSys_small x wA (HA.out.row.below X0.out.be) HS.out).mono ?_
 rintro e w0 ⟨rfl, b0⟩
 have X1 : Hid (Px W x w0) := X0.out.below b0
 clear b0 X0
 go_wp2_with fail
 refine (szWhoS_small la n lc _ w0 HZ2.out.1 HZ2.out.2).mono ?_
 rintro e w0b ⟨rfl, rfl⟩
 obtain ⟨-, ⟨p0, p1, p2, p3⟩, lt⟩ := X1.out
 go_wp2_with fail
 clear p0 p1 p2 p3 lt
 refine (toSys_any x W w0b HS.out HA.out X1.out.be).mono ?_
 rintro e w1 ⟨v1, rfl, o1, b1⟩
 obtain ⟨x1, rfl, g1, y1, cp1⟩ := o1.g2
 have O1 : Hid (SysG w1 x1 /\ x1.y = x.y /\ ∀ i, i < x1.hn -> x1.hL i <= x1.hC i) := ⟨g1, y1, cp1⟩
 have X2 : Hid (Px W x w1) := X1.out.below b1
 clear b1 X1 o1 g1 y1 cp1
 go_wp2_with fail
 refine (HP.out w1 X2.out.be).mono ?_
 rintro e w1b ⟨rfl, oc, ltc, b1b, -⟩
 have X2b : Hid (Px W x w1b) := X2.out.below b1b
 have O1b : Hid (SysG w1b x1 /\ x1.y = x.y /\ (∀ i, i < x1.hn -> x1.hL i <= x1.hC i) /\ WoL w1b (some ⟨w1.heap.size, 0, none⟩) n h) := ⟨O1.out.1.below b1b, O1.out.2.1, O1.out.2.2, .inr ⟨_, _, rfl, ltc, oc⟩⟩
 clear b1b oc ltc O1 X2
 generalize w1.heap.size = N1 at *
 go_wp2_with fail
 refine (specSwap_any x1 (some ⟨N1, 0, none⟩) n n h k w1b O1b.out.1 (SysIn.len_of HS.out O1b.out.2.1) O1b.out.2.2.1 O1b.out.2.2.2 HNn.out).mono ?_
 rintro e w2 ⟨u2, rfl, o2, b2⟩
 rw [O1b.out.2.1] at o2 ⊢
 rw [HN.out.1, HN.out.2.1] at o2
 rw [HN.out.2.2]
 obtain ⟨aw, cw, rfl, -, awl, awa, awf⟩ := o2.form
 have V2 : Hid (OwV w2 0 (.slice (some ⟨aw, 0, none⟩) N cw) N H /\ aw < w2.heap.size) := ⟨o2.mono (Nat.zero_le _), awl⟩
 have X3 : Hid (Px W x w2) := X2b.out.below b2
 clear b2 X2b o2 O1b awl awa awf
 obtain ⟨-, ⟨p0, p1, p2, p3⟩, lt⟩ := X3.out
 go_wp2_with fail
 clear p0 p1 p2 p3 lt
 refine (toSys_any x W w2 HS.out HA.out X3.out.be).mono ?_
 rintro e w3 ⟨v3, rfl, o3, b3⟩
 obtain ⟨x3, rfl, g3, y3, cp3⟩ := o3.g2
 have ba : Below w3.heap.size w3 (w3.alloc (oQ4 x3.pa x3.pn x3.pc x3.sa x3.sn x3.sc x3.wa x3.wn x3.wc x3.ha x3.hn x3.hc)) := below_allocS _ _
 have Ka : Hid (Px W x (w3.alloc (oQ4 x3.pa x3.pn x3.pc x3.sa x3.sn x3.sc x3.wa x3.wn x3.wc x3.ha x3.hn x3.hc)) /\ OwV (w3.alloc (oQ4 x3.pa x3.pn x3.pc x3.sa x3.sn x3.sc x3.wa x3.wn x3.wc x3.ha x3.hn x3.hc)) 0 (.slice (some ⟨aw, 0, none⟩) N cw) N H /\ IsSys (w3.alloc (oQ4 x3.pa x3.pn x3.pc x3.sa x3.sn x3.sc x3.wa x3.wn x3.wc x3.ha x3.hn x3.hc)) w2.heap.size w3.heap.size x x3.v /\ BoxC (w3.alloc (oQ4 x3.pa x3.pn x3.pc x3.sa x3.sn x3.sc x3.wa x3.wn x3.wc x3.ha x3.hn x3.hc)) w3.heap.size (.slice x3.pa x3.pn x3.pc) (.slice x3.sa x3.sn x3.sc) (.slice x3.wa x3.wn x3.wc) (.slice x3.ha x3.hn x3.hc) /\ (W.heap.size < w2.heap.size /\ aw < w2.heap.size /\ w2.heap.size <= w3.heap.size /\ w3.heap.size < (w3.alloc (oQ4 x3.pa x3.pn x3.pc x3.sa x3.sn x3.sc x3.wa x3.wn x3.wc x3.ha x3.hn x3.hc)).heap.size)) := ⟨(X3.out.below b3).below ba, (V2.out.1.below b3).below ba, o3.below ba (Nat.le_refl _), BoxC.new w3 _ _ _ _ _, X3.out.lt, V2.out.2, b3.size, by simp⟩
 have Ga : Hid (SysG (w3.alloc (oQ4 x3.pa x3.pn x3.pc x3.sa x3.sn x3.sc x3.wa x3.wn x3.wc x3.ha x3.hn x3.hc)) x3 /\ x3.y = x.y /\ ∀ i, i < x3.hn -> x3.hL i <= x3.hC i) := ⟨g3.below ba, y3, cp3⟩
 clear b3 X3 o3 V2 ba g3 y3 cp3
 go_wp2_with fail
 generalize w3.alloc (oQ4 x3.pa x3.pn x3.pc x3.sa x3.sn x3.sc x3.wa x3.wn x3.wc x3.ha x3.hn x3.hc) = wB at *
 generalize w3.heap.size = l3 at *
 generalize w2.heap.size = l2 at *
 refine (HP.out wB Ka.out.1.be).mono ?_
 rintro e wC ⟨rfl, oC, ltC, bC, fC⟩
 have Kc : Hid (Px W x wC /\ OwV wC 0 (.slice (some ⟨aw, 0, none⟩) N cw) N H /\ IsSys wC l2 l3 x x3.v /\ BoxC wC l3 (.slice x3.pa x3.pn x3.pc) (.slice x3.sa x3.sn x3.sc) (.slice x3.wa x3.wn x3.wc) (.slice x3.ha x3.hn x3.hc) /\ (W.heap.size < l2 /\ aw < l2 /\ l2 <= l3 /\ l3 < wB.heap.size) /\ WoAt wC wB.heap.size 0 n h /\ wB.heap.size < wC.heap.size /\ ∀ j, wC.frozen? ⟨wB.heap.size, j, none⟩ = false) := ⟨Ka.out.1.below bC, Ka.out.2.1.below bC, Ka.out.2.2.1.below bC (Nat.le_of_lt Ka.out.2.2.2.2.2.2.2), Ka.out.2.2.2.1.below bC, Ka.out.2.2.2.2, oC, ltC, fC⟩
 have Gc : Hid (SysG wC x3 /\ x3.y = x.y /\ ∀ i, i < x3.hn -> x3.hL i <= x3.hC i) := ⟨Ga.out.1.below bC, Ga.out.2⟩
 clear bC oC ltC fC Ka Ga
 generalize wB.heap.size = NB at *
 obtain ⟨q0, q1, q2, q3⟩ := Kc.out.2.2.2.1
 go_wp2_with fail
 clear q0 q1 q2 q3
 refine (implSwap_any x3 (some ⟨NB, 0, none⟩) n n h k wC Gc.out.1 (SysIn.len_of HS.out Gc.out.2.1) Gc.out.2.2 (.inr ⟨_, _, rfl, Kc.out.2.2.2.2.2.2.1, Kc.out.2.2.2.2.2.1⟩) HNn.out (HV.out _ Kc.out.1.be)).mono ?_
 rintro e w5 ⟨u5, rfl, o5, b5⟩
 rw [Gc.out.2.1] at o5 ⊢
 rw [HN.out.1, HN.out.2.1] at o5
 rw [HN.out.2.2]
 obtain ⟨ag, cg, rfl, agB, -, -, -⟩ := o5.form
 have K5 : Hid (SwK W x x3 n h N H aw cw ag cg NB l2 l3 w5) := by
  obtain ⟨k1, k2, k3, k4, ⟨k5, k6, k7, k8⟩, k9, k10, k11⟩ := Kc.out
  have hw := b5.size
  exact ⟨⟨k1.below b5, k2.below b5, (RoomWo.of_row k9 k11).blk (b5.block NB k10), o5.mono (Nat.zero_le _), k5, k6, k7, k8, by omega⟩, k3.below b5 (by omega), k4.below b5, k9.below b5 k10, by omega, by omega⟩
 clear b5 o5 agB Kc Gc
 go_wp2_with fail
 refine (eqWhoS_v ag aw cg cw N H _ _ w5 hX K5.out.j.g K5.out.j.v).mono ?_
 rintro e w6 ⟨rfl, b6⟩
 have K6 : Hid (SwK W x x3 n h N H aw cw ag cg NB l2 l3 w6) := K5.out.below b6
 clear b6 K5
 obtain ⟨-, ⟨p0, p1, p2, p3⟩, lt⟩ := K6.out.j.px
 obtain ⟨q0, q1, q2, q3⟩ := K6.out.q
 have lq := K6.out.z.2
 go_upto_region 14 with fail
 first | (go_region_with (first | (go_at_call 8; refine (toSys_any x W _ HS.out HA.out (by exact K6.out.j.px.be.drew)).mono ?_; rintro e w7 ⟨v7, rfl, o7, b7⟩; have q7 : Below w6.heap.size w6 w7 := (Below.refl w6.heap.size w6).drew.trans b7; have T7 : Hid (∃ l, IsSys w7 l w7.heap.size x v7) := ⟨_, o7⟩; obtain ⟨r0, r1, r2, r3⟩ := K6.out.q.below q7; have Q7 : Hid (Below w6.heap.size w6 w7) := q7; clear o7 b7 q7) | (go_at_call 11; refine (eqSys_same x l2 l3 T7.out.choose _ _ v7 w7 HS.out (K6.out.below Q7.out).s T7.out.choose_spec).mono ?_; rintro e w8 ⟨rfl, b8⟩; have Q8 : Hid (Below w6.heap.size w6 w8) := Q7.out.trans (b8.mono Q7.out.size); clear b8))) | fail
 all_goals
  clear r0 r1 r2 r3 p0 p1 p2 p3 lt q0 q1 q2 q3 lq T7 Q7
  have K8 : Hid (SwK W x x3 n h N H aw cw ag cg NB l2 l3 w8) := K6.out.below Q8.out
  clear Q8 K6
  go_wp2_with fail
  refine (HP.out w8 K8.out.j.px.be).mono ?_
  rintro e w9 ⟨rfl, o9, l9, b9, -⟩
  have K9 : Hid (SwK W x x3 n h N H aw cw ag cg NB l2 l3 w9 /\ WoAt w9 w8.heap.size 0 n h /\ w8.heap.size < w9.heap.size) := ⟨K8.out.below b9, o9, l9⟩
  clear b9 o9 l9 K8
  go_wp2_with fail
  refine (eqWhoS_same _ _ n _ _ h w9 HNn.out K9.out.1.z.1 K9.out.2.2 K9.out.1.r K9.out.2.1).mono ?_
  rintro e w10 ⟨rfl, b10⟩
  have K10 : Hid (SwK W x x3 n h N H aw cw ag cg NB l2 l3 w10) := K9.out.1.below b10
  clear b10 K9
  obtain ⟨q0, q1, q2, q3⟩ := K10.out.q
  go_wp2_with fail
  clear q0 q1 q2 q3
  refine (markSys_le x _ _ _ w10 HS.out K10.out.s).mono ?_
  rintro e w11 ⟨⟨z, rfl, hz, hz2⟩, t11⟩
  have J11 : Hid (SwJ W x n N H aw cw ag cg NB l2 l3 w11 /\ NB < w11.heap.size) := ⟨K10.out.j.touch t11 (fun b hb => hb) K10.out.z.1, zL K10.out.z.1 t11.size⟩
  clear t11 K10
  go_wp2_with fail
  refine (markWhoS_any NB n n z w11 HNn.out (by omega) (by omega) J11.out.1.rm).mono ?_
  rintro e w12 ⟨rfl, g12⟩
  have hz3 : ¬ (z + 2 * (n : Int) < 0) := by omega
  have J12 : Hid (Px W x w12 /\ OwV w12 0 (.slice (some ⟨aw, 0, none⟩) N cw) N H /\ OwV w12 0 (.slice (some ⟨ag, 0, none⟩) N cg) N H /\ W.heap.size < ag /\ aw < ag) := by
   obtain ⟨o1, o2, o3, o4, o5⟩ := J11.out.1.o
   have t12 : Touch (fun b => b = NB) w11 w12 := Touch.of_grown (P := fun b => b = NB) g12 fun b e => by simpa using e.symm
   refine ⟨J11.out.1.px.touch t12 fun b e => by have e : b = NB := e; omega, J11.out.1.v.touch t12 fun j hj e => ?_, J11.out.1.g.touch t12 fun j hj e => ?_, by omega, by omega⟩
   ·obtain rfl : aw = j := by cases hj; rfl
    have e : aw = NB := e
    omega
   ·obtain rfl : ag = j := by cases hj; rfl
    have e : ag = NB := e
    omega
  clear g12 J11
  go_wp2_with fail
  refine (eqWhoS_v ag aw cg cw N H _ _ w12 hX J12.out.2.2.1 J12.out.2.1).mono ?_
  rintro e w13 ⟨rfl, b13⟩
  have J13 : Hid (Px W x w13 /\ OwV w13 0 (.slice (some ⟨aw, 0, none⟩) N cw) N H /\ OwV w13 0 (.slice (some ⟨ag, 0, none⟩) N cg) N H /\ W.heap.size < ag /\ aw < ag) := ⟨J12.out.1.below b13, J12.out.2.1.below b13, J12.out.2.2.1.below b13, J12.out.2.2.2⟩
  clear b13 J12
  go_wp2_with fail
  refine (markWhoS_own ag N cg 1 w13 hX (by omega) (by omega) J13.out.2.2.1.room.1).mono ?_
  rintro e w14 ⟨rfl, g14, m14⟩
  have J14 : Hid (Px W x w14 /\ OwV w14 0 (.slice (some ⟨aw, 0, none⟩) N cw) N H /\ WoAt w14 ag 0 N (markW 1) /\ ag < w14.heap.size) := by
   have t14 : Touch (fun b => b = ag) w13 w14 := Touch.of_grown (P := fun b => b = ag) g14 fun b e => by simpa using e.symm
   refine ⟨J13.out.1.touch t14 fun b e => by have e : b = ag := e; have := J13.out.2.2.2.1; omega, J13.out.2.1.touch t14 fun j hj e => ?_, m14, zL J13.out.2.2.1.room.2.2 g14.size⟩
   obtain rfl : aw = j := by cases hj; rfl
   have e : aw = ag := e
   have := J13.out.2.2.2.2
   omega
  clear g14 m14 J13
  go_wp2_with fail
  refine (heldWhoS_marks ag N cg 1 w14 hX (by omega) (by omega) J14.out.2.2.1).mono ?_
  rintro e w15 ⟨rfl, b15⟩
  have hq : ¬ (1 + 2 * (N : Int) < 0) := by omega
  have J15 : Hid (Px W x w15 /\ OwV w15 0 (.slice (some ⟨aw, 0, none⟩) N cw) N H /\ WoAt w15 ag 0 N (markW 1) /\ ag < w15.heap.size) := ⟨J14.out.1.below b15, J14.out.2.1.below b15, J14.out.2.2.1.below b15 J14.out.2.2.2, zL J14.out.2.2.2 b15.size⟩
  clear b15 J14
  obtain ⟨-, ⟨p0, p1, p2, p3⟩, lt⟩ := J15.out.1
  go_wp2_with fail
  clear p0 p1 p2 p3 lt
  refine (toSys_any x W w15 HS.out HA.out J15.out.1.be).mono ?_
  rintro e w16 ⟨v16, rfl, o16, b16⟩
  obtain ⟨x16, rfl, g16, y16, cp16⟩ := o16.g2
  have J16 : Hid (Px W x w16 /\ OwV w16 0 (.slice (some ⟨aw, 0, none⟩) N cw) N H /\ WoAt w16 ag 0 N (markW 1) /\ ag < w16.heap.size) := ⟨J15.out.1.below b16, J15.out.2.1.below b16, J15.out.2.2.1.below b16 J15.out.2.2.2, zL J15.out.2.2.2 b16.size⟩
  have O16 : Hid (SysG w16 x16 /\ x16.y = x.y /\ ∀ i, i < x16.hn -> x16.hL i <= x16.hC i) := ⟨g16, y16, cp16⟩
  clear b16 J15 o16 g16 y16 cp16
  go_wp2_with fail
  refine (HP.out w16 J16.out.1.be).mono ?_
  rintro e w17 ⟨rfl, o17, l17, b17, -⟩
  have J17 : Hid (Px W x w17 /\ OwV w17 0 (.slice (some ⟨aw, 0, none⟩) N cw) N H /\ WoAt w17 ag 0 N (markW 1) /\ ag < w17.heap.size) := ⟨J16.out.1.below b17, J16.out.2.1.below b17, J16.out.2.2.1.below b17 J16.out.2.2.2, zL J16.out.2.2.2 b17.size⟩
  have O17 : Hid (SysG w17 x16 /\ x16.y = x.y /\ (∀ i, i < x16.hn -> x16.hL i <= x16.hC i) /\ WoL w17 (some ⟨w16.heap.size, 0, none⟩) n h) := ⟨O16.out.1.below b17, O16.out.2.1, O16.out.2.2, .inr ⟨_, _, rfl, l17, o17⟩⟩
  clear b17 o17 l17 J16 O16
  generalize w16.heap.size = N16 at *
  go_wp2_with fail
  refine (implSwap_any x16 (some ⟨N16, 0, none⟩) n n h k w17 O17.out.1 (SysIn.len_of HS.out O17.out.2.1) O17.out.2.2.1 O17.out.2.2.2 HNn.out (HV.out _ J17.out.1.be)).mono ?_
  rintro e w18 ⟨u18, rfl, o18, b18⟩
  rw [O17.out.2.1] at o18 ⊢
  rw [HN.out.1, HN.out.2.1] at o18
  rw [HN.out.2.2]
  obtain ⟨ah, ch, rfl, -, -, -, -⟩ := o18.form
  have J18 : Hid (Px W x w18 /\ OwV w18 0 (.slice (some ⟨aw, 0, none⟩) N cw) N H /\ WoAt w18 ag 0 N (markW 1) /\ ag < w18.heap.size /\ OwV w18 0 (.slice (some ⟨ah, 0, none⟩) N ch) N H) := ⟨J17.out.1.below b18, J17.out.2.1.below b18, J17.out.2.2.1.below b18 J17.out.2.2.2, zL J17.out.2.2.2 b18.size, o18.mono (Nat.zero_le _)⟩
  clear b18 o18 J17 O17
  go_wp2_with fail
  refine (eqWhoS_v ah aw ch cw N H _ _ w18 hX J18.out.2.2.2.2 J18.out.2.1).mono ?_
  rintro e w19 ⟨rfl, b19⟩
  have J19 : Hid (Px W x w19 /\ WoAt w19 ag 0 N (markW 1)) := ⟨J18.out.1.below b19, J18.out.2.2.1.below b19 J18.out.2.2.2.1⟩
  clear b19 J18
  go_wp2_with fail
  refine (heldWhoS_marks ag N cg 1 w19 hX (by omega) (by omega) J19.out.2).mono ?_
  rintro e w20 ⟨rfl, b20⟩
  have X20 : Hid (Px W x w20) := J19.out.1.below b20
  clear b20 J19
  go_wp2
  go_ret
  exact ⟨rfl, X20.out.be⟩
theorem swapLaw_great (x : SysIn) (la : Option Addr) (n lc : Nat) (k : Int) (W : World) (hr : x.Row W) (hm : x.Max) (hs : 1048576 < x.size) :
  Calls Tryz.prog 4 #[sysV x.pa x.pn x.pc x.sa x.sn x.sc x.wa x.wn x.wc x.ha x.hn x.hc, .slice la n lc, .int .i64 k] W fun e w' => e = .returned (.bool true) /\ Below W.heap.size W w' := by
 have HR : Hid (x.Row W) := hr
 have HM : Hid x.Max := hm
 have HS : Hid (1048576 < x.size) := hs
 clear hr hm hs
 go_enter Tryz.func4, Tryz.ntmps4
 go_wp2_with fail
 refine (szSys_great x _ (HR.out.below (below_allocS _ _)) HM.out HS.out).mono ?_
 rintro e w0 ⟨rfl, b0⟩
 have B0 : Hid (Below W.heap.size W w0) := (below_allocS _ _).trans (b0.mono (by simp))
 clear b0
 go_wp2
 go_ret
 exact ⟨rfl, B0.out⟩
theorem swapLaw_long (x : SysIn) (la : Option Addr) (n lc : Nat) (k : Int) (W : World) (hs : x.size <= 1048576) (hA : x.Ok W) (hn : 1048576 < x.size + n) (hm : n <= maxLen) :
  Calls Tryz.prog 4 #[sysV x.pa x.pn x.pc x.sa x.sn x.sc x.wa x.wn x.wc x.ha x.hn x.hc, .slice la n lc, .int .i64 k] W fun e w' => e = .returned (.bool true) /\ Below W.heap.size W w' := by
 have HS : Hid (x.size <= 1048576 /\ 1048576 - (x.size : Int) < (n : Int) /\ 0 <= 1048576 - (x.size : Int) /\ 1048576 - (x.size : Int) <= 1048576 /\ n <= maxLen) := ⟨hs, by omega, by omega, by omega, hm⟩
 have HA : Hid (x.Ok W) := hA
 have hsz : ¬ (1048576 - (x.size : Int) < 0) := by omega
 clear hs hA hn hm
 go_enter Tryz.func4, Tryz.ntmps4
 go_wp2_with fail
 refine (szSys_small x _ (HA.out.row.below (below_allocS _ _)) HS.out.1).mono ?_
 rintro e w0 ⟨rfl, b0⟩
 have B0 : Hid (Below W.heap.size W w0) := (below_allocS _ _).trans (b0.mono (by simp))
 clear b0
 go_wp2_with fail
 refine (szWhoS_great la n lc _ w0 HS.out.2.1 HS.out.2.2.1 HS.out.2.2.2.1 HS.out.2.2.2.2).mono ?_
 rintro e w1 ⟨rfl, rfl⟩
 go_wp2
 go_ret
 exact ⟨rfl, B0.out⟩
theorem swapLifted (os : Os) (started : os.Started) (H : Type) (enc : TypeId × Value -> H) :
  ReturnsInHanded {} Tryz.checked os 4 .any (fun w args => (Rows.fnExactSwapSpec.pre enc Tryz.prog Tryz.f4 [] false w args /\ laidMetH Tryz.prog [("errors.errorType", Rows.laid_errors_errorType)] w) /\ sizedMet enc Tryz.prog Tryz.f4 (OpenSpec.ofChange Rows.fnExactSwapSpec) false w args)
   (Rows.fnExactSwapSpec.post enc Tryz.prog Tryz.f4 false true false false) := by
 refine returnsInHanded_of_change_and (C := Tryz.checked) (X := fun w _ => laidMetH Tryz.prog [("errors.errorType", Rows.laid_errors_errorType)] w) (fun _ _ _ hh h => h.of_heap hh) Tryz.own started (by kernel_rfl) Tryz.func4
  (ChangeSpec.witness_at (enc := enc) (C := Tryz.checked) (os := os) (X := fun w _ => laidMetH Tryz.prog [("errors.errorType", Rows.laid_errors_errorType)] w) false (laidWorld os) #[sysV none 0 0 none 0 0 none 0 0 none 0 0, .slice none 0 0, .int .i64 0] 8 rfl (by kernel_rfl) (by kernel_rfl) (by kernel_rfl) (by kernel_rfl) (by kernel_rfl) (laidWorld_met os _)) ?_
 intro W base args ds gs before hval0 hW _ _ hL _
 have hval : ∀ (j : Nat) t v, Tryz.f4.params[j]? = some t -> args[j]? = some v -> Value.okWide Tryz.prog W .any base t v := hval0
 have hW' := hW
 obtain ⟨p, q, hA0, hV, rfl, hfz, hnd⟩ := hW
 have hA : DataW.TrodAll enc Tryz.prog W 0 (fun _ => true) true Tryz.f4.params.toList args.toList ds p := hA0
 rw [Tryz.params4] at hA hval
 obtain ⟨v0, v1, v2, d0, d1, d2, p0, p1, p2, rfl, rfl, rfl, h0, h1, h2⟩ := trodAll_three hA
 obtain ⟨rfl, rfl⟩ := trodVars_none hV
 obtain ⟨la, n, lc, rfl⟩ := okWide_slice Tryz.underlying28 (hval 1 28 v1 rfl rfl)
 obtain ⟨z1, rfl⟩ := okWide_int Tryz.underlying3 (hval 2 3 v2 rfl rfl)
 obtain ⟨hnl, hrow⟩ := open_woRow h1
 have lt0 : ∀ x ∈ p0, x.block < W.heap.size := by obtain ⟨m, hm⟩ := h0; exact DataW.trod_lt m _ _ _ hm
 have lt1 : ∀ x ∈ p1, x.block < W.heap.size := by obtain ⟨m, hm⟩ := h1; exact DataW.trod_lt m _ _ _ hm
 have lt2 : ∀ x ∈ p2, x.block < W.heap.size := by obtain ⟨m, hm⟩ := h2; exact DataW.trod_lt m _ _ _ hm
 have hg := handle_of_laid hL
 clear hA0 hval0
 have hlaw : Calls Tryz.prog 4 #[v0, .slice la n lc, .int .i64 z1] W fun e w' => e = .returned (.bool true) /\ Below W.heap.size W w' := by
  obtain ⟨x, e, hr, hm, hy⟩ := open_sys (hval 0 27 v0 rfl rfl) h0
  by_cases hs : x.size <= 1048576
  ·obtain ⟨y, ey, hok, hys⟩ := hy hs
   rw [ey]
   by_cases hn : y.size + n <= 1048576
   ·obtain ⟨h, hP⟩ := copiesWo_of (cap := lc) (by omega) hrow
    exact swapLaw_small y la n lc h z1 W hn hok hP hg
   ·exact swapLaw_long y la n lc z1 W hys hok (by omega) hnl
  ·rw [e]
   exact swapLaw_great x la n lc z1 W hr hm (by omega)
 refine hlaw.mono fun e W' ⟨he, bel⟩ => ?_
 subst he
 exact ⟨_, rfl, _, _, _, [], _, [], hW', trodAll_mk1 (shut_bool Tryz.underlying4 _), (trodAll_cons_mk (Below.trod Tryz.laidOut (by kernel_rfl) (of_decide_eq_true (by kernel_rfl)) h0 bel lt0) (trodAll_cons_mk (Below.trod Tryz.laidOut (by kernel_rfl) (of_decide_eq_true (by kernel_rfl)) h1 bel lt1) (trodAll_cons_mk (Below.trod Tryz.laidOut (by kernel_rfl) (of_decide_eq_true (by kernel_rfl)) h2 bel lt2) trodAll_mk0))), rfl, bel.frame _, fun h => by cases h⟩
theorem swapSaid : Rows.FnExactSwapSaid :=
 OpenClaim.holds_of_wide 4 Tryz.f4 rfl rfl rfl rfl rfl rfl rfl ⟨rfl, rfl, rfl, rfl, rfl⟩ rfl rfl rfl rfl rfl (by kernel_rfl) Tryz.func4 (by kernel_rfl)
  (of_decide_eq_true (by kernel_rfl)) (by unfold Func.isWrapper; first | (rw [if_pos (by decide +kernel)]; kernel_rfl) | (rw [if_neg (by decide +kernel)]; exact ⟨rfl, rfl⟩))
  (fun os started H enc _ => swapLifted os started H enc)
theorem swapPlain (f : FuncId) (fn : Func) (hf : Tryz.pinned.checked.prog.funcNamed "loop.example/g00196/laws.FnExactSwap" = some f) (hfn : Tryz.pinned.checked.prog.funcs[f]? = some fn) :
  true = Tryz.pinned.checked.prog.looks [] /\ ∀ (j : Nat) t, fn.params[j]? = some t -> Tryz.pinned.checked.prog.wantsStandIn t = false := by
 obtain rfl : f = 4 := Option.some.inj ((show Tryz.prog.funcNamed "loop.example/g00196/laws.FnExactSwap" = some 4 by kernel_rfl).symm.trans hf) |>.symm
 obtain rfl : fn = Tryz.f4 := (Option.some.inj (Tryz.func4.symm.trans hfn)).symm
 refine ⟨by kernel_rfl, fun j t ht => ?_⟩
 rw [Tryz.params4] at ht
 have hm := Array.mem_of_getElem? ht
 simp at hm
 rcases hm with rfl | rfl | rfl
 ·exact (show Tryz.prog.wantsStandIn 27 = false by kernel_rfl)
 ·exact (show Tryz.prog.wantsStandIn 28 = false by kernel_rfl)
 ·exact (show Tryz.prog.wantsStandIn 3 = false by kernel_rfl)
theorem swap_card : Rows.FnExactSwapCardSaid :=
 Claim7.holds_tied_plain_at .later [] _ _ _ _ swapSaid (fun _ h => by cases h) (by kernel_rfl) (fun _ h => by cases h) fnExactSwap_row_tie rfl ⟨rfl, rfl⟩ (by kernel_rfl) rfl swapPlain (by kernel_rfl)
end Go.Proofs.YthdaejgmfognbabGreatDoor
