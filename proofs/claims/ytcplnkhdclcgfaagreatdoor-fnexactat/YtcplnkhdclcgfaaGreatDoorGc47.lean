/- The walk of the model's At. -/
import Derived.Test.YtcplnkhdclcgfaaGreatDoorGc0
import Derived.Test.YtcplnkhdclcgfaaGreatDoorGc40
import Derived.Test.YtcplnkhdclcgfaaGreatDoorGc43
import Derived.Test.YtcplnkhdclcgfaaGreatDoorGc34
import Derived.Deep.Cut
import Derived.Test.YtcplnkhdclcgfaaGreatDoorGc36
import Derived.Test.YtcplnkhdclcgfaaGreatDoorGc38
import Derived.Test.YtcplnkhdclcgfaaGreatDoorGc33
import Derived.Test.YtcplnkhdclcgfaaGreatDoorGc32
namespace Go.Proofs.YtcplnkhdclcgfaaGreatDoor
set_option maxRecDepth 100000
set_option maxHeartbeats 4000000
open Go.ChangeShapes Go.WideShapes Go.ChangeAt Go.RowKit Go.Deep Go.Sort
theorem implCutOk_any (x : SysIn) (ca : Option Addr) (cc : Nat) (c : List Int) (w : World) (hG : SysG w x) (hL : x.Len) (hc : Sl w ca c) (hcl : c.length ≤ 1048576) (hV : w.cell? ⟨0, 0, none⟩ = some (.iface 272 (.agg #[.pointer (some ⟨1, 172, none⟩)]))) :
  Calls Tryz.prog 145 #[x.v, .slice ca c.length cc] w fun e w' => e = .returned (.bool (cutB x.y c)) ∧ Below w.heap.size w w' := by
 have HG : Hid (SysG w x) := hG
 have HC : Hid (Sl w ca c) := hc
 have hl' : (c.length : Int) ≤ 1048576 := by omega
 have hh' : (x.hn : Int) ≤ 1048576 := by have := hL.h.1; omega
 have HLh : Hid (∀ i, i < x.hn → x.hL i ≤ 1048576) := hL.h.2
 have HS : Hid (∀ wx, Below w.heap.size w wx → Calls Tryz.prog 16 #[x.v] wx fun e w' => e = .returned (.bool x.y.okB) ∧ Below wx.heap.size wx w') := fun wx hb => implSysOk_any x wx (hG.below hb) hL ((hb.cell (p := ⟨0, 0, none⟩) (World.block_lt_of_cell? w _ hV)).trans hV)
 have BW : Hid (Below w.heap.size w (w.alloc (oQ4 x.pa x.pn x.pc x.sa x.sn x.sc x.wa x.wn x.wc x.ha x.hn x.hc))) := below_alloc _ _
 have NB : Hid (BoxC (w.alloc (oQ4 x.pa x.pn x.pc x.sa x.sn x.sc x.wa x.wn x.wc x.ha x.hn x.hc)) w.heap.size (.slice x.pa x.pn x.pc) (.slice x.sa x.sn x.sc) (.slice x.wa x.wn x.wc) (.slice x.ha x.hn x.hc)) := BoxC.new w _ _ _ _ _
 have HX : Hid (cutB x.y c = (x.y.okB && qB (x.y.Cut c))) := rfl
 generalize cutB x.y c = R at *
 clear hG hL hV hc
 go_enter Tryz.func145, Tryz.ntmps145
 go_wp2_with fail
 generalize w.alloc (oQ4 x.pa x.pn x.pc x.sa x.sn x.sc x.wa x.wn x.wc x.ha x.hn x.hc) = W2 at *
 refine (HS.out W2 BW.out).mono ?_
 rintro e w1 ⟨rfl, q1⟩
 have B1 : Hid (Below w.heap.size w w1 ∧ BoxC w1 w.heap.size (.slice x.pa x.pn x.pc) (.slice x.sa x.sn x.sc) (.slice x.wa x.wn x.wc) (.slice x.ha x.hn x.hc)) := ⟨BW.out.trans (q1.mono BW.out.size), NB.out.below q1⟩
 clear q1 BW NB HS
 rcases Bool.eq_false_or_eq_true x.y.okB with t | t
 case inr =>
  have HV : Hid (R = false) := by
   show R = false
   rw [HX.out, t]
   rfl
  rw [t]
  clear t HX
  go_wp2
  go_ret
  rw [HV.out]
  exact ⟨rfl, B1.out.1⟩
 have HN : Hid (x.hn = x.pn) := (Sy.ok_of t).cn.2.2.1
 have HV : Hid (R = qB (x.y.Cut c)) := by
  show R = _
  rw [HX.out, t]
  rfl
 rw [t]
 clear t HX
 have b3 := B1.out.2.2.2.2
 rcases Bool.eq_false_or_eq_true ((c.length : Int) != (x.hn : Int)) with t | t
 case inl =>
  have HZ : Hid (R = false) := by
   show R = false
   rw [HV.out]
   refine qB_false fun h => ?_
   have h1 : c.length = x.pn := h.len
   rw [h1, HN.out] at t
   simp at t
  clear HV
  go_wp2
  go_ret
  rw [HZ.out]
  exact ⟨rfl, B1.out.1⟩
 have HQ : Hid (c.length = x.hn) := by
  have h : (c.length : Int) = (x.hn : Int) := by simpa using t
  show c.length = x.hn
  omega
 go_wp2_with fail
 clear b3 t
 go_loopw [20] (fun i wr => ∃ k : Nat, k ≤ c.length ∧ i = .int .i64 k ∧ Hid (Below w.heap.size w wr ∧ BoxC wr w.heap.size (.slice x.pa x.pn x.pc) (.slice x.sa x.sn x.sc) (.slice x.wa x.wn x.wc) (.slice x.ha x.hn x.hc)) ∧ Hid (∀ j, j < k → 0 ≤ zi c j ∧ zi c j ≤ (x.hL j : Int))) (fun i _ => c.length - (intOf i).toNat)
 case atStart => exact ⟨0, Nat.zero_le _, rfl, B1.out, fun j hj => by omega⟩
 case round =>
  clear B1
  obtain ⟨k, hk, rfl, HB, HK⟩ := hrel
  by_cases hlt : k < c.length
  ·have hlt' : (k : Int) < (c.length : Int) := by omega
   have hkn : k < x.hn := by have := HQ.out; omega
   have hkn' : (k : Int) < (x.hn : Int) := by omega
   obtain ⟨cb, co, rfl, -, c0⟩ := (HC.out.below HB.out.1).at hlt
   obtain ⟨bh, oh, eh, ch⟩ := (HG.out.below HB.out.1).h.at hkn
   have b3 := HB.out.2.2.2.2
   rw [eh] at b3
   clear eh
   generalize hZ : zi c k = Z at *
   have HX : Hid (zi c k = Z) := hZ
   clear hZ
   by_cases hz0 : Z < 0
   ·have HZ : Hid (R = false) := by
     show R = false
     rw [HV.out]
     refine qB_false fun h => ?_
     have h1 := (h.le k (by have := HQ.out; have := HN.out; show k < x.pn; omega)).1
     rw [HX.out] at h1
     omega
    have B3 := HB.out.1
    clear HV HK HB
    go_wp2
    go_ret
    rw [HZ.out]
    exact ⟨rfl, B3⟩
   ·by_cases hz1 : (x.hL k : Int) < Z
    ·have HZ : Hid (R = false) := by
      show R = false
      rw [HV.out]
      refine qB_false fun h => ?_
      have h1 := (h.le k (by have := HQ.out; have := HN.out; show k < x.pn; omega)).2
      rw [HX.out] at h1
      have h2 : Z ≤ (x.hL k : Int) := h1
      omega
     have B3 := HB.out.1
     clear HV HK HB
     go_wp2
     go_ret
     rw [HZ.out]
     exact ⟨rfl, B3⟩
    ·have HK' : Hid (∀ j, j < k + 1 → 0 ≤ zi c j ∧ zi c j ≤ (x.hL j : Int)) := fun j hj => by
      by_cases e : j = k
      ·subst e
       rw [HX.out]
       omega
      ·exact HK.out j (by omega)
     clear HK HX
     go_wp2
     go_roundw
     case rel => exact ⟨k + 1, by omega, by go_num, HB.out, HK'.out⟩
     case measure => simp [intOf]; omega
  ·have HZ : Hid (R = true) := by
    show R = true
    rw [HV.out]
    exact qB_true ⟨HQ.out.trans HN.out, fun p hp => HK.out p (by have := HQ.out; have := HN.out; have h1 : p < x.pn := hp; omega)⟩
   have B3 := HB.out.1
   clear HK HB
   go_wp2
   go_ret
   rw [HZ.out]
   exact ⟨rfl, B3⟩
theorem there_below {w w' : World} {b o n B : Nat} (h : w.there b o n) (hb : Below B w w') (hB : b < B) : w'.there b o n := fun j hj => by
 obtain ⟨h1, h2⟩ := h j hj
 have e := hb.block b hB
 exact ⟨(congrArg (Option.isSome) (World.cell?_of_block (a := ⟨b, o + j, none⟩) e)).trans h1, (World.frozen?_of_block (a := ⟨b, o + j, none⟩) e).trans h2⟩
theorem rowS_sets {w : World} {B b n cap : Nat} {E : TypeId} {a : Option Addr} {f : Nat → Value} {xs cl : List Value} (h : RowS w a n f) (ho : w.ownsRow B E 1 (.slice a n cap) n xs) (hb : b < B) : RowS (w.setCells b 0 cl) a n f := by
 rcases h with h | ⟨g, off, rfl, hlt, hc⟩
 ·exact .inl h
 ·have hg : g ≠ b := by
   rcases ho.2 with ⟨e, h0⟩ | ⟨g', cap', cur, e, hB, _⟩
   ·cases e
   ·simp only [Value.slice.injEq, Option.some.injEq, Addr.mk.injEq] at e
    omega
  have ht : Touch (fun k => k = b) w (w.setCells b 0 cl) := Touch.sets (P := fun k => k = b) rfl _ _ (Touch.refl _ _)
  exact .inr ⟨g, off, rfl, Nat.lt_of_lt_of_le hlt ht.size, fun i hi => (ht.cell hlt hg _).trans (hc i hi)⟩
theorem slice_cut (a : Option Addr) (len cap h : Nat) (hh : h ≤ cap) (w : World) : (Instr.slice 35 (.slice a len cap) none (some (.int .i64 (h : Int))) (some (.int .i64 (h : Int)))).run Tryz.prog w = .ok (.slice a h h) w := by
 have hh' : (h : Int) ≤ (cap : Int) := by omega
 cases a with
 | none => simp [go_sem, sliced, hh']
 | some a => simp [go_sem, sliced, hh']
theorem rowS_own {w : World} {B : Nat} {E : TypeId} {v : Value} {n : Nat} {u : Nat → Value} (h : w.ownsRow B E 1 v n ((List.range n).map u)) : ∃ a cap, v = .slice a n cap ∧ RowS w a n u := by
 rcases h.2 with ⟨rfl, h0⟩ | ⟨g, cap, cur, rfl, hb, _⟩
 ·exact ⟨none, 0, by rw [h0], .inl h0⟩
 ·refine ⟨_, cap, rfl, .inr ⟨g, 0, rfl, (h.lt g rfl).2, fun i hi => ?_⟩⟩
  rw [Nat.zero_add, World.ownsRow.cellAt h i (by omega)]
  simp [hi]
def hcL (ha : Option Addr) (hn hc : Nat) : List Value := [.slice ha hn hc, .int .i64 0, .int .i64 0, .int .i64 0, .int .i64 0, .int .i64 0, .int .i64 0, .int .i64 0, .int .i64 0, .int .i64 0, .int .i64 0, .int .i64 0, .int .i64 0, .int .i64 0, .int .i64 0, .int .i64 0, .int .i64 0, .int .i64 0, .int .i64 0, .int .i64 0, .int .i64 0]
theorem hcL_len (ha : Option Addr) (hn hc : Nat) : (hcL ha hn hc).length = 21 := rfl
theorem hcL_one (ha : Option Addr) (hn hc : Nat) : ∀ v ∈ hcL ha hn hc, v.oneCell' = true := by
 intro v hv
 simp only [hcL, List.mem_cons, List.not_mem_nil, or_false] at hv
 rcases hv with rfl | rfl | rfl | rfl | rfl | rfl | rfl | rfl | rfl | rfl | rfl | rfl | rfl | rfl | rfl | rfl | rfl | rfl | rfl | rfl | rfl <;> rfl
theorem infoHistory : (Tryz.prog.info? 79).map (·.size) = some 21 := by kernel_rfl
theorem results_cell1 {fn : Func} {ra : Nat} {ty : TypeId} (h : fn.results = #[.cell ra ty]) (tmps : Array Value) (w : World) (N : Nat) (cs : List Value) (d : TypeDesc) (ha : tmps.getD ra undef = .pointer (some ⟨N, 0, none⟩)) (hc : w.rangeAt N 0 cs) (hu : Tryz.prog.underlying ty = some d) (hd : d.isRow = true) (hi : (Tryz.prog.info? ty).map (·.size) = some cs.length) :
  (results fn tmps).run Tryz.prog w = .ok (.agg cs.toArray) w := by
 have hl := run_loadVar_mid (P := Tryz.prog) w N 0 ty cs d hc hu hd hi
 rw [Array.getD_eq_getD_getElem?] at ha
 simp [results, h, ha, asAddr, hl]
theorem historyAt_any (x : SysIn) (ca : Option Addr) (cc : Nat) (c : List Int) (w : World) (hG : SysG w x) (hcap : ∀ i, i < x.hn → x.hL i ≤ x.hC i) (hhn : x.hn = x.pn) (h4 : x.pn ≤ 4) (hC : x.y.Cut c) (hc : Sl w ca c) :
  Calls Tryz.prog 66 #[x.v, .slice ca c.length cc] w fun e w' => ∃ ha hc, e = .returned (.agg (hcL ha c.length hc).toArray) ∧ RowS w' ha c.length (fun i => .slice (x.hA i) (cN c i) (cN c i)) ∧ Below w.heap.size w w' := by
 have HG : Hid (SysG w x) := hG
 have HSl : Hid (Sl w ca c) := hc
 have hcl : c.length = x.pn := hC.len
 have hl' : (c.length : Int) ≤ 4 := by omega
 have HQ : Hid (c.length = x.hn ∧ c.length ≤ 4) := ⟨by omega, by omega⟩
 have HZ : Hid (∀ p, p < c.length → zi c p = (cN c p : Nat) ∧ cN c p ≤ x.hC p) := fun p hp => ⟨hC.nat (by show p < x.pn; omega), Nat.le_trans (hC.leN (by show p < x.pn; omega)) (hcap p (by omega))⟩
 obtain ⟨cs, hcs, hmk⟩ := run_make_kind kndEE c.length (by omega)
 have HCS : Hid (cs.size = c.length) := hcs
 have BW : Hid (Below w.heap.size w ((w.alloc (oQ4 x.pa x.pn x.pc x.sa x.sn x.sc x.wa x.wn x.wc x.ha x.hn x.hc)).alloc (zQ3))) := (below_alloc _ _).trans ((below_alloc _ _).mono (by simp))
 have NB : Hid (BoxC ((w.alloc (oQ4 x.pa x.pn x.pc x.sa x.sn x.sc x.wa x.wn x.wc x.ha x.hn x.hc)).alloc (zQ3)) w.heap.size (.slice x.pa x.pn x.pc) (.slice x.sa x.sn x.sc) (.slice x.wa x.wn x.wc) (.slice x.ha x.hn x.hc)) := (BoxC.new w _ _ _ _ _).below (below_alloc _ _)
 have NT : Hid (((w.alloc (oQ4 x.pa x.pn x.pc x.sa x.sn x.sc x.wa x.wn x.wc x.ha x.hn x.hc)).alloc (zQ3)).there (w.heap.size + 1) 0 21) := there_new _ _ _ _ _ rfl (by simp)
 have NS : Hid (((w.alloc (oQ4 x.pa x.pn x.pc x.sa x.sn x.sc x.wa x.wn x.wc x.ha x.hn x.hc)).alloc (zQ3)).heap.size = w.heap.size + 2) := by show _ = _; simp
 clear hG hcap hhn h4 hC hc hcl hcs
 go_enter Tryz.func66, Tryz.ntmps66
 go_upto_region 1 with fail
 generalize (w.alloc (oQ4 x.pa x.pn x.pc x.sa x.sn x.sc x.wa x.wn x.wc x.ha x.hn x.hc)).alloc (zQ3) = W2 at *
 go_upto_region 2 with fail
 clear hmk
 have O0 : Hid ((W2.alloc (.cells cs 35)).ownsRow (w.heap.size + 2) 35 1 (.slice (some ⟨W2.heap.size, 0, none⟩) 0 c.length) 0 ((List.range 0).map fun i => .slice (x.hA i) (cN c i) (cN c i))) := by
  have := World.ownsRow_made (base := w.heap.size + 2) (e := 35) (size := 1) W2 cs c.length (by rw [NS.out]; omega) (by unfold maxLen; have := HQ.out; omega) (by rw [HCS.out, Nat.mul_one])
  exact this
 have B0 : Hid (Below (w.heap.size + 2) W2 (W2.alloc (.cells cs 35))) := (below_alloc _ _).mono (by rw [NS.out]; omega)
 generalize W2.alloc (.cells cs 35) = W3 at *
 go_wp2_with fail
 go_loopw [5, 13] (fun o i wr => ∃ k : Nat, k ≤ c.length ∧ i = .int .i64 k ∧ Hid (wr.ownsRow (w.heap.size + 2) 35 1 o k ((List.range k).map fun i => .slice (x.hA i) (cN c i) (cN c i)) ∧ Below (w.heap.size + 2) W2 wr)) (fun _ i _ => c.length - (intOf i).toNat)
 case atStart => exact ⟨0, Nat.zero_le _, rfl, O0.out, B0.out⟩
 case round =>
  clear O0 B0
  obtain ⟨k, hk, rfl, HB⟩ := hrel
  have BE : Hid (Below w.heap.size w wr ∧ BoxC wr w.heap.size (.slice x.pa x.pn x.pc) (.slice x.sa x.sn x.sc) (.slice x.wa x.wn x.wc) (.slice x.ha x.hn x.hc) ∧ w.heap.size + 2 ≤ wr.heap.size) := ⟨BW.out.trans (HB.out.2.mono (by omega)), NB.out.belowB HB.out.2 (by omega), by have := HB.out.2.size; have := NS.out; omega⟩
  by_cases hlt : k < c.length
  ·have hlt' : (k : Int) < (c.length : Int) := by omega
   have hkn : k < x.hn := by have := HQ.out; omega
   have hkn' : (k : Int) < (x.hn : Int) := by omega
   obtain ⟨cb, co, rfl, -, c0⟩ := (HSl.out.below BE.out.1).at hlt
   obtain ⟨bh, oh, eh, ch⟩ := (HG.out.below BE.out.1).h.at hkn
   have b3 := BE.out.2.1.2.2.2
   rw [eh] at b3
   clear eh
   rw [(HZ.out k hlt).1] at c0
   have ks := slice_cut (x.hA k) (x.hL k) (x.hC k) (cN c k) (HZ.out k hlt).2
   have HK2 : Hid (k ≤ 2000000) := by show _ ≤ _; have := HQ.out; omega
   go_wp2_with (at_builtin; refine step_append_val kndEE wr rfl rfl _ _ rfl (w.heap.size + 2) u5 k _ rfl HB.out.1 #[.slice (x.hA k) (cN c k) (cN c k)] rfl rfl (by intro u hu; simp at hu; subst hu; rfl) HK2.out BE.out.2.2 ?_; intro v5 w5 o5 g5 q5 n5; have F5 : Hid (w5.ownsRow (w.heap.size + 2) 35 1 v5 (k + 1) ((List.range (k + 1)).map fun i => .slice (x.hA i) (cN c i) (cN c i)) ∧ Below (w.heap.size + 2) W2 w5) := ⟨by rw [List.range_succ, List.map_append]; exact o5, Below.grown HB.out.2 g5 BE.out.2.2 (fun j hj => (HB.out.1.lt j hj).1)⟩; clear o5 g5 q5 n5)
   go_roundw
   case rel => exact ⟨k + 1, by omega, by go_num, F5.out⟩
   case measure => simp [intOf]; omega
  ·have hkl : k = c.length := by omega
   have F5 : Hid (wr.ownsRow (w.heap.size + 2) 35 1 u5 c.length ((List.range c.length).map fun i => .slice (x.hA i) (cN c i) (cN c i))) := by
    have := HB.out.1
    rw [hkl] at this
    exact this
   obtain ⟨ea, ec, rfl, rs⟩ := rowS_own F5.out
   have RS : Hid (RowS wr ea c.length fun i => .slice (x.hA i) (cN c i) (cN c i)) := rs
   have hl := hcL_len ea c.length ec
   have ho := hcL_one ea c.length ec
   generalize hcs : hcL ea c.length ec = cl at *
   have HCL : Hid (hcL ea c.length ec = cl) := hcs
   have hs : cl.toArray.size = 21 := by simpa using hl
   have HT : Hid (wr.there (w.heap.size + 1) 0 cl.toArray.size) := by
    show wr.there _ _ _
    rw [hs]
    exact there_below NT.out HB.out.2 (by omega)
   have HI : Hid ((Tryz.prog.info? 79).map (·.size) = some cl.length) := by show _ = _; rw [hl]; exact infoHistory
   have HO : Hid (cl.toArray.all (·.oneCell') = true) := all_oneCell_toArray ho
   have OW : Hid (∀ j, (Value.slice ea c.length ec).ownBlock = some j → w.heap.size + 2 ≤ j) := fun j hj => (F5.out.lt j hj).1
   have RK : Hid (RowS (wr.setCells (w.heap.size + 1) 0 cl) ea c.length fun i => .slice (x.hA i) (cN c i) (cN c i)) := rowS_sets RS.out (F5.out) (by omega)
   have BK : Hid (Below w.heap.size w (wr.setCells (w.heap.size + 1) 0 cl)) := BE.out.1.trans ((Touch.sets (P := fun b => b = w.heap.size + 1) rfl _ _ (Touch.refl _ _)).below BE.out.1.size fun b e => by omega)
   clear hcs hl ho hs HB hkl rs RS F5 BE
   go_wp2_with (refine wpList_store_mid rfl 79 (.tmp 4) (.tmp 31) rfl (w.heap.size + 1) 0 cl.toArray rfl (by rw [← HCL.out]; rfl) HT.out (by simpa using HI.out) HO.out ?_)
   have HR : Hid ((wr.setCells (w.heap.size + 1) 0 cl).rangeAt (w.heap.size + 1) 0 cl) := World.rangeAt_setCells_same _ _ _ _ (by simpa using HT.out)
   clear HT
   generalize wr.setCells (w.heap.size + 1) 0 cl = W5 at *
   exact bodyPost_ret (results_cell1 Tryz.results66 _ _ (w.heap.size + 1) cl _ rfl HR.out Tryz.underlying79 rfl HI.out) rfl ⟨ea, ec, by rw [HCL.out], RK.out, BK.out⟩
theorem sentH_any (X hc : Nat) (ha : Option Addr) (hA : Nat → Option Addr) (hC : Nat → Nat) (y : Hs) (a b : Nat) (w : World) (c0 : w.cell? ⟨X, 0, none⟩ = some (.slice ha y.n hc)) (hE : HisE w ha hA hC y) (hl : ∀ i, i < y.n → y.l i ≤ 200) (han : a < y.n) :
  Calls Tryz.prog 129 #[.pointer (some ⟨X, 0, none⟩), .int .i64 a, .int .i64 b] w fun e w' => ∃ a1 c1, e = .returned (.slice a1 (valL (y.e a) 2 b (y.l a)).length c1) ∧ OwnI w' w.heap.size (.slice a1 (valL (y.e a) 2 b (y.l a)).length c1) (valL (y.e a) 2 b (y.l a)) ∧ Below w.heap.size w w' := by
 have HE : Hid (EvL w (hA a) (y.l a) (y.e a)) := hE.ev a han
 have HLb : Hid (y.l a ≤ 1048576) := by have := hl a han; show _ ≤ _; omega
 have ha' : (a : Int) < (y.n : Int) := by omega
 obtain ⟨bh, oh, eh, ch⟩ := hE.row.at han
 rw [eh] at c0
 clear hE hl eh
 go_enter Tryz.func129, Tryz.ntmps129
 go_wp2_with fail
 refine (implValues_l (hA a) (y.l a) _ (y.e a) 2 b w HLb.out HE.out).mono ?_
 rintro e w1 ⟨v, rfl, o1, b1⟩
 obtain ⟨a1, c1, rfl, -⟩ := o1.form
 have O1 : Hid (OwnI w1 w.heap.size (.slice a1 (valL (y.e a) 2 b (y.l a)).length c1) (valL (y.e a) 2 b (y.l a)) ∧ Below w.heap.size w w1) := ⟨o1, b1⟩
 clear o1 b1 c0 ch
 go_wp2
 go_ret
 exact ⟨_, _, rfl, O1.out⟩
theorem unsentH_any (X hc : Nat) (ha : Option Addr) (hA : Nat → Option Addr) (hC : Nat → Nat) (y : Hs) (a b : Nat) (w : World) (c0 : w.cell? ⟨X, 0, none⟩ = some (.slice ha y.n hc)) (hE : HisE w ha hA hC y) (hl : ∀ i, i < y.n → y.l i ≤ 200) (han : a < y.n) (hbn : b < y.n) :
  Calls Tryz.prog 163 #[.pointer (some ⟨X, 0, none⟩), .int .i64 a, .int .i64 b] w fun e w' => e = .returned (.int .i64 (nthV (y.e b) 3 a (y.l b) (cnt (y.e a) 2 b (y.l a) : Nat))) ∧ Below w.heap.size w w' := by
 have HS : Hid (∀ wx, Below w.heap.size w wx → Calls Tryz.prog 129 #[.pointer (some ⟨X, 0, none⟩), .int .i64 a, .int .i64 b] wx fun e w' => ∃ a1 c1, e = .returned (.slice a1 (cnt (y.e a) 2 b (y.l a)) c1) ∧ Below wx.heap.size wx w') := fun wx hb => by
  refine (sentH_any X hc ha hA hC y a b wx ((hb.cell (p := ⟨X, 0, none⟩) (World.block_lt_of_cell? w _ c0)).trans c0) (hE.below hb) hl han).mono ?_
  rintro e w1 ⟨a1, c1, rfl, -, q⟩
  exact ⟨a1, c1, by rw [valL_length]; rfl, q⟩
 have HN : Hid (∀ wx, Below w.heap.size w wx → Calls Tryz.prog 217 #[.slice (hA b) (y.l b) (hC b), .int .i64 3, .int .i64 a, .int .i64 (cnt (y.e a) 2 b (y.l a) : Nat)] wx fun e w' => e = .returned (.int .i64 (nthV (y.e b) 3 a (y.l b) (cnt (y.e a) 2 b (y.l a) : Nat))) ∧ Below wx.heap.size wx w') := fun wx hb => implNth_l (hA b) (y.l b) (hC b) (y.e b) 3 a _ wx (by have := hl b hbn; omega) ((hE.below hb).ev b hbn)
 have hcn : cnt (y.e a) 2 b (y.l a) ≤ 200 := Nat.le_trans (cnt_le _ _ _ _) (hl a han)
 have hbn' : (b : Int) < (y.n : Int) := by omega
 obtain ⟨bh, oh, eh, ch⟩ := hE.row.at hbn
 rw [eh] at c0
 clear hE hl eh
 generalize nthV (y.e b) 3 a (y.l b) (cnt (y.e a) 2 b (y.l a) : Nat) = V at *
 generalize cnt (y.e a) 2 b (y.l a) = cn at *
 have hcn' : (cn : Int) ≤ 200 := by omega
 have HC0 : Hid (w.cell? ⟨X, 0, none⟩ = some (.slice (some ⟨bh, oh, none⟩) y.n hc)) := c0
 have HC1 : Hid (w.cell? ⟨bh, oh + b, none⟩ = some (.slice (hA b) (y.l b) (hC b))) := ch
 go_enter Tryz.func163, Tryz.ntmps163
 go_wp2_with fail
 go_region_law (first
  | (refine step_call rfl 129 _ _ rfl #[.pointer (some ⟨X, 0, none⟩), .int .i64 a, .int .i64 b] (by simp [Act.eval, Act.put]) (run_enter Tryz.func129 (by kernel_rfl) rfl) (HS.out w.drew (Below.refl _ _).drew) ?_; rintro e w1 ⟨a1, c1, rfl, b1⟩; refine ⟨_, rfl, ?_⟩; have q1 : Below w.heap.size w w1 := (Below.refl w.heap.size w).drew.trans b1; have c2 := (q1.cell (p := ⟨X, 0, none⟩) (World.block_lt_of_cell? w _ HC0.out)).trans HC0.out; have c3 := (q1.cell (p := ⟨bh, oh + b, none⟩) (World.block_lt_of_cell? w _ HC1.out)).trans HC1.out; have Q1 : Hid (Below w.heap.size w w1) := q1; clear b1 q1)
  | (refine step_call rfl 217 _ _ rfl #[.slice (hA b) (y.l b) (hC b), .int .i64 3, .int .i64 a, .int .i64 (cn : Nat)] (by simp [Act.eval, Act.put]) (run_enter Tryz.func217 (by kernel_rfl) rfl) (HN.out w1 Q1.out) ?_; rintro e w2 ⟨rfl, b2⟩; refine ⟨_, rfl, ?_⟩; have Q2 : Hid (Below w.heap.size w w2) := Q1.out.trans (b2.mono Q1.out.size); clear b2))
 all_goals
  clear Q1
  go_wp2
  go_ret
  exact ⟨rfl, Q2.out⟩
theorem isWholeH_any (X hc : Nat) (ha : Option Addr) (hA : Nat → Option Addr) (hC : Nat → Nat) (y : Hs) (w : World) (c0 : w.cell? ⟨X, 0, none⟩ = some (.slice ha y.n hc)) (hE : HisE w ha hA hC y) (hl : ∀ i, i < y.n → y.l i ≤ 200) (h4 : y.n ≤ 4) :
  Calls Tryz.prog 146 #[.pointer (some ⟨X, 0, none⟩)] w fun e w' => e = .returned (.bool (qB (∀ a, a < y.n → ∀ b, b < y.n → nthV (y.e b) 3 a (y.l b) (cnt (y.e a) 2 b (y.l a) : Nat) < 0))) ∧ Below w.heap.size w w' := by
 have HOv : Hid (∀ wx, Below w.heap.size w wx → ∀ a b, a < y.n → b < y.n → Calls Tryz.prog 163 #[.pointer (some ⟨X, 0, none⟩), .int .i64 (a : Nat), .int .i64 (b : Nat)] wx fun e w' => e = .returned (.int .i64 (nthV (y.e b) 3 a (y.l b) (cnt (y.e a) 2 b (y.l a) : Nat))) ∧ Below wx.heap.size wx w') := fun wx hb a b ha' hb' => unsentH_any X hc ha hA hC y a b wx ((hb.cell (p := ⟨X, 0, none⟩) (World.block_lt_of_cell? w _ c0)).trans c0) (hE.below hb) hl ha' hb'
 have HC0 : Hid (∀ wx, Below w.heap.size w wx → wx.cell? ⟨X, 0, none⟩ = some (.slice ha y.n hc)) := fun wx hb => (hb.cell (p := ⟨X, 0, none⟩) (World.block_lt_of_cell? w _ c0)).trans c0
 have hl' : (y.n : Int) ≤ 4 := by omega
 clear hE hl
 generalize hov : (fun a b : Nat => nthV (y.e b) 3 a (y.l b) (cnt (y.e a) 2 b (y.l a) : Nat)) = ov
 have e1 : ∀ a b : Nat, nthV (y.e b) 3 a (y.l b) (cnt (y.e a) 2 b (y.l a) : Nat) = ov a b := fun a b => by rw [← hov]
 simp only [e1] at HOv ⊢
 clear e1 hov
 go_enter Tryz.func146, Tryz.ntmps146
 go_wp2_with fail
 clear c0
 go_loopw [10] (fun i wr => ∃ k : Nat, k ≤ y.n ∧ i = .int .i64 k ∧ Hid (Below w.heap.size w wr) ∧ Hid (∀ a, a < k → ∀ b, b < y.n → ov a b < 0)) (fun i _ => y.n - (intOf i).toNat)
 case atStart => exact ⟨0, Nat.zero_le _, rfl, Below.refl _ _, fun j hj => by omega⟩
 case round =>
  obtain ⟨k, hk, rfl, HB, HK⟩ := hrel
  by_cases hlt : k < y.n
  ·have hlt' : (k : Int) < (y.n : Int) := by omega
   have c1 := HC0.out wr HB.out
   go_wp2_with fail
   clear c1
   go_loopw [18] (fun i wr => ∃ j : Nat, j ≤ y.n ∧ i = .int .i64 j ∧ Hid (Below w.heap.size w wr) ∧ Hid (∀ b, b < j → ov k b < 0)) (fun i _ => y.n - (intOf i).toNat)
   case atStart => exact ⟨0, Nat.zero_le _, rfl, HB.out, fun j hj => by omega⟩
   case round =>
    clear HB
    obtain ⟨j, hj, rfl, HB, HJ⟩ := hrel
    by_cases hjt : j < y.n
    ·have hjt' : (j : Int) < (y.n : Int) := by omega
     go_wp2_with fail
     refine (HOv.out _ HB.out k j hlt hjt).mono ?_
     rintro e w3 ⟨rfl, q3⟩
     have B3 : Hid (Below w.heap.size w w3) := HB.out.trans (q3.mono HB.out.size)
     clear q3 HB
     by_cases ho : 0 ≤ ov k j
     ·have HV : Hid (qB (∀ a, a < y.n → ∀ b, b < y.n → ov a b < 0) = false) := qB_false fun h => by
       have h1 := h k hlt j hjt
       omega
      go_wp2
      go_ret
      rw [HV.out]
      exact ⟨rfl, B3.out⟩
     ·have HJ' : Hid (∀ b, b < j + 1 → ov k b < 0) := fun b hb => by
       by_cases e : b = j
       ·subst e
        omega
       ·exact HJ.out b (by omega)
      clear HJ
      go_wp2
      go_roundw
      case rel => exact ⟨j + 1, by omega, by go_num, B3.out, HJ'.out⟩
      case measure => simp [intOf]; omega
    ·have HK' : Hid (∀ a, a < k + 1 → ∀ b, b < y.n → ov a b < 0) := fun a ha b hb => by
      by_cases e : a = k
      ·subst e
       exact HJ.out b (by omega)
      ·exact HK.out a (by omega) b hb
     clear HK HJ
     go_wp2
     go_roundw
     case rel => exact ⟨k + 1, by omega, by go_num, HB.out, HK'.out⟩
     case measure => simp [intOf]; omega
  ·have HV : Hid (qB (∀ a, a < y.n → ∀ b, b < y.n → ov a b < 0) = true) := qB_true fun a ha b hb => HK.out a (by omega) b hb
   have B3 := HB.out
   clear HK HB
   go_wp2
   go_ret
   rw [HV.out]
   exact ⟨rfl, B3⟩
def Sy.at (y : Sy) (c : List Int) : Hs := ⟨c.length, cN c, y.hH⟩
theorem hisE_at {x : SysIn} {w w' : World} {ha : Option Addr} {c : List Int} (hG : SysG w x) (hb : Below w.heap.size w w') (hC : x.y.Cut c) (hhn : x.hn = x.pn) (hr : RowS w' ha c.length (fun i => .slice (x.hA i) (cN c i) (cN c i))) : HisE w' ha x.hA (cN c) (x.y.at c) :=
 ⟨hr, fun i hi => by
  have hi' : i < x.pn := by have h1 : c.length = x.pn := hC.len; have h2 : i < c.length := hi; omega
  exact ((hG.below hb).hi i (by omega)).take (hC.leN hi')⟩
theorem his_cell {w : World} {X hc n : Nat} {ha : Option Addr} {cs : List Value} (h : w.rangeAt X 0 cs) (e : hcL ha n hc = cs) : w.cell? ⟨X, 0, none⟩ = some (.slice ha n hc) := by
 subst e
 have := h 0 (.slice ha n hc) rfl
 simpa using this
theorem implWhole_any (x : SysIn) (ca : Option Addr) (cc : Nat) (c : List Int) (w : World) (hG : SysG w x) (hL : x.Len) (hcap : ∀ i, i < x.hn → x.hL i ≤ x.hC i) (hc : Sl w ca c) (hcl : c.length ≤ 1048576) (hV : w.cell? ⟨0, 0, none⟩ = some (.iface 272 (.agg #[.pointer (some ⟨1, 172, none⟩)]))) :
  Calls Tryz.prog 65 #[x.v, .slice ca c.length cc] w fun e w' => e = .returned (.bool (whB x.y c)) ∧ Below w.heap.size w w' := by
 have HS : Hid (∀ wx, Below w.heap.size w wx → Calls Tryz.prog 145 #[x.v, .slice ca c.length cc] wx fun e w' => e = .returned (.bool (cutB x.y c)) ∧ Below wx.heap.size wx w') := fun wx hb => implCutOk_any x ca cc c wx (hG.below hb) hL (hc.below hb) hcl ((hb.cell (p := ⟨0, 0, none⟩) (World.block_lt_of_cell? w _ hV)).trans hV)
 have HH : Hid (cutB x.y c = true → ∀ wx, Below w.heap.size w wx → Calls Tryz.prog 66 #[x.v, .slice ca c.length cc] wx fun e w' => ∃ ha hc, e = .returned (.agg (hcL ha c.length hc).toArray) ∧ RowS w' ha c.length (fun i => .slice (x.hA i) (cN c i) (cN c i)) ∧ Below wx.heap.size wx w') := fun t wx hb => historyAt_any x ca cc c wx (hG.below hb) hcap (cutB_parts t).1.cn.2.2.1 (cutB_parts t).1.cn.1.2 (cutB_parts t).2 (hc.below hb)
 have HW : Hid (cutB x.y c = true → ∀ wx X ha hc, Below w.heap.size w wx → wx.cell? ⟨X, 0, none⟩ = some (.slice ha c.length hc) → RowS wx ha c.length (fun i => .slice (x.hA i) (cN c i) (cN c i)) → Calls Tryz.prog 146 #[.pointer (some ⟨X, 0, none⟩)] wx fun e w' => e = .returned (.bool (whB x.y c)) ∧ Below wx.heap.size wx w') := fun t wx X ha hc' hb hcell hr => by
  obtain ⟨hO, hC⟩ := cutB_parts t
  have hln : c.length = x.pn := hC.len
  have h := isWholeH_any X hc' ha x.hA (cN c) (x.y.at c) wx hcell (hisE_at hG hb hC hO.cn.2.2.1 hr) (fun i hi => Nat.le_trans (hC.leN (by have h2 : i < c.length := hi; show i < x.pn; omega)) (hO.hl200 (by have h2 : i < c.length := hi; show i < x.pn; omega))) (by have h4 : x.pn ≤ 4 := hO.cn.1.2; show c.length ≤ 4; omega)
  have e : whB x.y c = qB (∀ a, a < (x.y.at c).n → ∀ b, b < (x.y.at c).n → nthV ((x.y.at c).e b) 3 a ((x.y.at c).l b) (cnt ((x.y.at c).e a) 2 b ((x.y.at c).l a) : Nat) < 0) := by
   unfold whB
   rw [t, Bool.true_and]
   have hiff : x.y.Wh (cN c) ↔ (∀ a, a < (x.y.at c).n → ∀ b, b < (x.y.at c).n → nthV ((x.y.at c).e b) 3 a ((x.y.at c).l b) (cnt ((x.y.at c).e a) 2 b ((x.y.at c).l a) : Nat) < 0) := by
    constructor
    ·intro hw a ha b hb
     exact (ovN_neg (y := x.y) (c := cN c)).2 (hw a (by have h2 : a < c.length := ha; show a < x.pn; omega) b (by have h2 : b < c.length := hb; show b < x.pn; omega))
    ·intro hw a ha b hb
     exact (ovN_neg (y := x.y) (c := cN c)).1 (hw a (by have h2 : a < x.pn := ha; show a < c.length; omega) b (by have h2 : b < x.pn := hb; show b < c.length; omega))
   by_cases hw : x.y.Wh (cN c)
   ·rw [qB_true hw, qB_true (hiff.1 hw)]
   ·rw [qB_false hw, qB_false fun h => hw (hiff.2 h)]
  rw [e]
  exact h
 have HX : Hid (cutB x.y c = false → whB x.y c = false) := fun h => by
  show whB x.y c = false
  unfold whB
  rw [h]
  rfl
 have BW : Hid (Below w.heap.size w (w.alloc (oQ4 x.pa x.pn x.pc x.sa x.sn x.sc x.wa x.wn x.wc x.ha x.hn x.hc))) := below_alloc _ _
 have NB : Hid (BoxC (w.alloc (oQ4 x.pa x.pn x.pc x.sa x.sn x.sc x.wa x.wn x.wc x.ha x.hn x.hc)) w.heap.size (.slice x.pa x.pn x.pc) (.slice x.sa x.sn x.sc) (.slice x.wa x.wn x.wc) (.slice x.ha x.hn x.hc)) := BoxC.new w _ _ _ _ _
 generalize whB x.y c = R at *
 generalize cutB x.y c = T at *
 clear hG hL hcap hc hV
 go_enter Tryz.func65, Tryz.ntmps65
 go_wp2_with fail
 generalize w.alloc (oQ4 x.pa x.pn x.pc x.sa x.sn x.sc x.wa x.wn x.wc x.ha x.hn x.hc) = W2 at *
 refine (HS.out W2 BW.out).mono ?_
 rintro e w1 ⟨rfl, q1⟩
 have B1 : Hid (Below w.heap.size w w1 ∧ BoxC w1 w.heap.size (.slice x.pa x.pn x.pc) (.slice x.sa x.sn x.sc) (.slice x.wa x.wn x.wc) (.slice x.ha x.hn x.hc)) := ⟨BW.out.trans (q1.mono BW.out.size), NB.out.below q1⟩
 clear q1 BW NB HS
 cases T with
 | false =>
  have HV := HX.out rfl
  clear HX HH HW
  go_wp2
  go_ret
  rw [HV]
  exact ⟨rfl, B1.out.1⟩
 | true =>
  have HH' : Hid (∀ wx, Below w.heap.size w wx → Calls Tryz.prog 66 #[x.v, .slice ca c.length cc] wx fun e w' => ∃ ha hc, e = .returned (.agg (hcL ha c.length hc).toArray) ∧ RowS w' ha c.length (fun i => .slice (x.hA i) (cN c i) (cN c i)) ∧ Below wx.heap.size wx w') := HH.out rfl
  have HW' : Hid (∀ wx X ha hc, Below w.heap.size w wx → wx.cell? ⟨X, 0, none⟩ = some (.slice ha c.length hc) → RowS wx ha c.length (fun i => .slice (x.hA i) (cN c i) (cN c i)) → Calls Tryz.prog 146 #[.pointer (some ⟨X, 0, none⟩)] wx fun e w' => e = .returned (.bool R) ∧ Below wx.heap.size wx w') := HW.out rfl
  clear HX HH HW
  obtain ⟨b0, b1, b2, b3⟩ := B1.out.2
  go_wp2_with fail
  refine (HH'.out w1 B1.out.1).mono ?_
  rintro e w2 ⟨ea, ec, rfl, r2, q2⟩
  have B2 : Hid (Below w.heap.size w w2 ∧ RowS w2 ea c.length (fun i => .slice (x.hA i) (cN c i) (cN c i))) := ⟨B1.out.1.trans (q2.mono B1.out.1.size), r2⟩
  clear q2 r2 b0 b1 b2 b3 B1 HH'
  have hl := hcL_len ea c.length ec
  have ho := hcL_one ea c.length ec
  generalize hcs : hcL ea c.length ec = cl at *
  have hs : cl.toArray.size = 21 := by simpa using hl
  have HI : Hid ((Tryz.prog.info? 79).map (·.size) = some cl.toArray.size) := by show _ = _; rw [hs]; exact infoHistory
  have HO : Hid (cl.toArray.all (·.oneCell') = true) := all_oneCell_toArray ho
  have HT : Hid ((w2.alloc (zQ3)).there w2.heap.size 0 cl.toArray.size) := there_new _ _ _ _ _ (by rw [hs]; rfl) rfl
  have BE : Hid (Below w2.heap.size w2 ((w2.alloc (zQ3)).setCells w2.heap.size 0 cl)) := (Touch.sets (P := fun b => b = w2.heap.size) rfl _ _ (Touch.of_below (below_alloc _ _))).below (Nat.le_refl _) fun b e => by omega
  have HR : ((w2.alloc (zQ3)).setCells w2.heap.size 0 cl).rangeAt w2.heap.size 0 cl := World.rangeAt_setCells_same _ _ _ _ (by simpa using HT.out)
  have HCe : Hid (((w2.alloc (zQ3)).setCells w2.heap.size 0 cl).cell? ⟨w2.heap.size, 0, none⟩ = some (.slice ea c.length ec)) := his_cell HR hcs
  clear hl ho hs HR hcs
  go_upto_region 4 with (refine wpList_store_mid rfl 79 (.tmp 5) (.tmp 12) rfl w2.heap.size 0 cl.toArray rfl rfl HT.out HI.out HO.out ?_)
  clear HT HI HO
  generalize (w2.alloc (zQ3)).setCells w2.heap.size 0 cl = w3 at *
  have B3 : Hid (Below w.heap.size w w3 ∧ RowS w3 ea c.length (fun i => .slice (x.hA i) (cN c i) (cN c i))) := ⟨B2.out.1.trans (BE.out.mono B2.out.1.size), B2.out.2.below BE.out⟩
  clear BE B2
  go_wp2_with fail
  refine (HW'.out w3 w2.heap.size ea ec B3.out.1 HCe.out B3.out.2).mono ?_
  rintro e w4 ⟨rfl, q4⟩
  have B4 : Hid (Below w.heap.size w w4) := B3.out.1.trans (q4.mono B3.out.1.size)
  clear q4 B3 HCe HW'
  go_wp2
  go_ret
  exact ⟨rfl, B4.out⟩
theorem slice_from {w : World} {B : Nat} {a : Option Addr} {cap lo : Nat} {xs : List Int} (h : OwnI w B (.slice a xs.length cap) xs) (hl : lo ≤ xs.length) :
  ∃ a', (∀ w', (Instr.slice 37 (.slice a xs.length cap) (some (.int .i64 (lo : Int))) none none).run Tryz.prog w' = .ok (.slice a' (xs.drop lo).length (cap - lo)) w') ∧ ∀ k, k < (xs.drop lo).length → ∃ g o, a' = some ⟨g, o, none⟩ ∧ B ≤ g ∧ g < w.heap.size ∧ w.cell? ⟨g, o + k, none⟩ = some (.int .i64 (zi (xs.drop lo) k)) := by
 have hl' : (lo : Int) ≤ (xs.length : Int) := by omega
 rcases h.2 with ⟨e, h0⟩ | ⟨g, cp, cur, e, hb, hg, hnc, -⟩
 ·simp only [Value.slice.injEq] at e
  obtain ⟨rfl, -, rfl⟩ := e
  have h00 : lo = 0 := by omega
  subst h00
  refine ⟨none, fun w' => ?_, fun k hk => ?_⟩
  ·rw [h0]
   simp [go_sem, h0]
  ·simp at hk
   omega
 ·simp only [Value.slice.injEq] at e
  obtain ⟨rfl, -, rfl⟩ := e
  by_cases hc : cap = lo
  ·refine ⟨some ⟨g, 0, none⟩, fun w' => ?_, fun k hk => ?_⟩
   ·have e1 : xs.length = lo := by omega
    subst hc
    simp [go_sem, e1]
   ·simp at hk
    omega
  ·refine ⟨some ⟨g, lo, none⟩, fun w' => ?_, fun k hk => ⟨g, lo, rfl, hb, (h.lt g rfl).2, ?_⟩⟩
   ·simp [go_sem, hl', hc, Addr.add]
    exact fun h => h.symm
   ·rw [zi_drop]
    exact h.cell (by simp at hk; omega)
theorem takenH_any (X hc : Nat) (ha : Option Addr) (hA : Nat → Option Addr) (hC : Nat → Nat) (y : Hs) (a b : Nat) (w : World) (c0 : w.cell? ⟨X, 0, none⟩ = some (.slice ha y.n hc)) (hE : HisE w ha hA hC y) (hl : ∀ i, i < y.n → y.l i ≤ 200) (hbn : b < y.n) :
  Calls Tryz.prog 127 #[.pointer (some ⟨X, 0, none⟩), .int .i64 a, .int .i64 b] w fun e w' => ∃ a1 c1, e = .returned (.slice a1 (cnt (y.e b) 3 a (y.l b)) c1) ∧ Below w.heap.size w w' := by
 have HE : Hid (EvL w (hA b) (y.l b) (y.e b)) := hE.ev b hbn
 have HLb : Hid (y.l b ≤ 1048576) := by have := hl b hbn; show _ ≤ _; omega
 have hb' : (b : Int) < (y.n : Int) := by omega
 obtain ⟨bh, oh, eh, ch⟩ := hE.row.at hbn
 rw [eh] at c0
 clear hE hl eh
 go_enter Tryz.func127, Tryz.ntmps127
 go_wp2_with fail
 refine (implValues_l (hA b) (y.l b) _ (y.e b) 3 a w HLb.out HE.out).mono ?_
 rintro e w1 ⟨v, rfl, o1, b1⟩
 obtain ⟨a1, c1, rfl, -⟩ := o1.form
 have O1 : Hid (Below w.heap.size w w1) := b1
 clear o1 b1 c0 ch
 go_wp2
 go_ret
 exact ⟨_, _, by rw [valL_length]; rfl, O1.out⟩
theorem underWay_any (X hc : Nat) (ha : Option Addr) (hA : Nat → Option Addr) (hC : Nat → Nat) (y : Hs) (a b : Nat) (w : World) (c0 : w.cell? ⟨X, 0, none⟩ = some (.slice ha y.n hc)) (hE : HisE w ha hA hC y) (hl : ∀ i, i < y.n → y.l i ≤ 200) (han : a < y.n) (hbn : b < y.n) (hle : cnt (y.e b) 3 a (y.l b) ≤ cnt (y.e a) 2 b (y.l a)) :
  Calls Tryz.prog 147 #[.pointer (some ⟨X, 0, none⟩), .int .i64 a, .int .i64 b] w fun e w' => ∃ a1 c1, e = .returned (.slice a1 (wyL y a b).length c1) ∧ w'.ownsRow w.heap.size 126 2 (.slice a1 (wyL y a b).length c1) (wyL y a b).length (fT (itL (wyL y a b)) (wyL y a b).length) ∧ Value.slice a1 (wyL y a b).length c1 ≠ .slice none 0 0 ∧ Below w.heap.size w w' := by
 have HS : Hid (∀ wx, Below w.heap.size w wx → Calls Tryz.prog 129 #[.pointer (some ⟨X, 0, none⟩), .int .i64 a, .int .i64 b] wx fun e w' => ∃ a1 c1, e = .returned (.slice a1 (valL (y.e a) 2 b (y.l a)).length c1) ∧ OwnI w' wx.heap.size (.slice a1 (valL (y.e a) 2 b (y.l a)).length c1) (valL (y.e a) 2 b (y.l a)) ∧ Below wx.heap.size wx w') := fun wx hb => sentH_any X hc ha hA hC y a b wx ((hb.cell (p := ⟨X, 0, none⟩) (World.block_lt_of_cell? w _ c0)).trans c0) (hE.below hb) hl han
 have HT : Hid (∀ wx, Below w.heap.size w wx → Calls Tryz.prog 127 #[.pointer (some ⟨X, 0, none⟩), .int .i64 a, .int .i64 b] wx fun e w' => ∃ a1 c1, e = .returned (.slice a1 (cnt (y.e b) 3 a (y.l b)) c1) ∧ Below wx.heap.size wx w') := fun wx hb => takenH_any X hc ha hA hC y a b wx ((hb.cell (p := ⟨X, 0, none⟩) (World.block_lt_of_cell? w _ c0)).trans c0) (hE.below hb) hl hbn
 have hlv : (valL (y.e a) 2 b (y.l a)).length ≤ 200 := by
  rw [valL_length]
  exact Nat.le_trans (plN_le _ _ _ _) (hl a han)
 have hle' : cnt (y.e b) 3 a (y.l b) ≤ (valL (y.e a) 2 b (y.l a)).length := by
  rw [valL_length]
  exact hle
 have hzs : wyL y a b = (valL (y.e a) 2 b (y.l a)).drop (cnt (y.e b) 3 a (y.l b)) := rfl
 rw [hzs]
 clear hzs c0 hE hl hle
 generalize cnt (y.e b) 3 a (y.l b) = tn at *
 generalize valL (y.e a) 2 b (y.l a) = xs at *
 have HO0 : Hid ((w.alloc (.cells #[] 126)).ownsRow w.heap.size 126 2 (.slice (some ⟨w.heap.size, 0, none⟩) 0 0) 0 []) := World.ownsRow_made (base := w.heap.size) (e := 126) (size := 2) w #[] 0 (Nat.le_refl _) (by unfold maxLen; omega) (by simp)
 have BW : Hid (Below w.heap.size w (w.alloc (.cells #[] 126)) ∧ (w.alloc (.cells #[] 126)).heap.size = w.heap.size + 1) := ⟨below_alloc _ _, by simp⟩
 have HLE : Hid (tn ≤ xs.length ∧ xs.length ≤ 200) := ⟨hle', hlv⟩
 clear hle'
 go_enter Tryz.func147, Tryz.ntmps147
 go_wp2_with fail
 generalize w.alloc (.cells #[] 126) = W1 at *
 refine (HS.out W1 BW.out.1).mono ?_
 rintro e w1 ⟨a1, c1, rfl, o1, q1⟩
 have O1 : Hid (OwnI w1 W1.heap.size (.slice a1 xs.length c1) xs ∧ Below W1.heap.size W1 w1) := ⟨o1, q1⟩
 clear o1 q1 HS
 go_wp2_with fail
 refine (HT.out w1 (BW.out.1.trans (O1.out.2.mono BW.out.1.size))).mono ?_
 rintro e w2 ⟨a2, c2, rfl, q2⟩
 obtain ⟨a3, ks, hcell⟩ := slice_from (O1.out.1.below q2) HLE.out.1
 have HC : Hid (∀ k, k < (xs.drop tn).length → ∃ g o, a3 = some ⟨g, o, none⟩ ∧ W1.heap.size ≤ g ∧ g < w2.heap.size ∧ w2.cell? ⟨g, o + k, none⟩ = some (.int .i64 (zi (xs.drop tn) k))) := hcell
 have hzl : (xs.drop tn).length ≤ 200 := by rw [List.length_drop]; omega
 have hzl' : ((xs.drop tn).length : Int) ≤ 200 := by omega
 have O2 : Hid (w2.ownsRow w.heap.size 126 2 (.slice (some ⟨w.heap.size, 0, none⟩) 0 0) 0 [] ∧ Below W1.heap.size W1 w2) := ⟨ownsRow_blkL HO0.out fun k hk => (O1.out.2.trans (q2.mono O1.out.2.size)).block k (HO0.out.lt k hk).2, O1.out.2.trans (q2.mono O1.out.2.size)⟩
 generalize hzs : xs.drop tn = zs at *
 have HZS : Hid (xs.drop tn = zs) := hzs
 clear hcell q2 O1 HT HO0 hlv HLE hzs
 go_wp2_with fail
 clear ks
 go_loopw [7, 22] (fun o i wr => ∃ k : Nat, k ≤ zs.length ∧ i = .int .i64 k ∧ Hid (wr.ownsRow w.heap.size 126 2 o k (fT (itL zs) k) ∧ o ≠ .slice none 0 0 ∧ (∀ j, o.ownBlock = some j → j = w.heap.size ∨ w2.heap.size ≤ j) ∧ Below w.heap.size w wr ∧ w2.heap.size ≤ wr.heap.size ∧ ∀ g, W1.heap.size ≤ g → g < w2.heap.size → wr.heap[g]? = w2.heap[g]?)) (fun _ i _ => zs.length - (intOf i).toNat)
 case atStart => exact ⟨0, Nat.zero_le _, rfl, O2.out.1, by simp, fun j hj => by cases hj; exact .inl rfl, BW.out.1.trans (O2.out.2.mono BW.out.1.size), Nat.le_refl _, fun _ _ _ => rfl⟩
 case round =>
  clear O2
  obtain ⟨k, hk, rfl, HB⟩ := hrel
  by_cases hlt : k < zs.length
  ·have hlt' : (k : Int) < (zs.length : Int) := by omega
   obtain ⟨g, o, rfl, hg1, hg2, ck⟩ := HC.out k hlt
   have ck : wr.cell? ⟨g, o + k, none⟩ = some (.int .i64 (zi zs k)) := (World.cell?_of_block (HB.out.2.2.2.2.2 g hg1 hg2)).trans ck
   have HK2 : Hid (k ≤ 2000000) := by show _ ≤ _; omega
   have hgl : g < wr.heap.size := by have := HB.out.2.2.2.2.1; omega
   go_wp2_with (at_builtin; refine step_append_val kndT wr rfl rfl _ _ rfl w.heap.size u7 k _ rfl HB.out.1 #[.bool false, .int .i64 (zi zs k)] rfl rfl (by intro u hu; simp at hu; rcases hu with rfl | rfl <;> rfl) HK2.out HB.out.2.2.2.1.size ?_; intro v5 w5 o5 g5 q5 n5; have F5 : Hid (w5.ownsRow w.heap.size 126 2 v5 (k + 1) (fT (itL zs) (k + 1)) ∧ v5 ≠ .slice none 0 0 ∧ (∀ j, v5.ownBlock = some j → j = w.heap.size ∨ w2.heap.size ≤ j) ∧ Below w.heap.size w w5 ∧ w2.heap.size ≤ w5.heap.size ∧ ∀ g, W1.heap.size ≤ g → g < w2.heap.size → w5.heap[g]? = w2.heap[g]?) := ⟨o5, n5, fun j hj => by
     rcases q5 j hj with h | h
     ·exact HB.out.2.2.1 j h
     ·exact .inr (Nat.le_trans HB.out.2.2.2.2.1 h), Below.grown HB.out.2.2.2.1 g5 HB.out.2.2.2.1.size (fun j hj => (HB.out.1.lt j hj).1), Nat.le_trans HB.out.2.2.2.2.1 g5.size, fun b h1 h2 => (g5.block b (Nat.lt_of_lt_of_le h2 HB.out.2.2.2.2.1) (fun hj => by
      have e1 := BW.out.2
      rcases HB.out.2.2.1 b hj.symm with h | h <;> omega)).trans (HB.out.2.2.2.2.2 b h1 h2)⟩; clear o5 g5 q5 n5)
   go_roundw
   case rel => exact ⟨k + 1, by omega, by go_num, F5.out⟩
   case measure => simp [intOf]; omega
  ·have hkn : k = zs.length := by omega
   subst hkn
   obtain ⟨a4, c4, rfl⟩ := ownsRow_slice HB.out.1
   go_wp2
   go_ret
   rw [HZS.out]
   exact ⟨a4, c4, rfl, HB.out.1, HB.out.2.1, HB.out.2.2.2.1⟩
theorem waysAt_any (X hc : Nat) (ha : Option Addr) (hA : Nat → Option Addr) (hC : Nat → Nat) (y : Hs) (w : World) (c0 : w.cell? ⟨X, 0, none⟩ = some (.slice ha y.n hc)) (hE : HisE w ha hA hC y) (hl : ∀ i, i < y.n → y.l i ≤ 200) (h4 : y.n ≤ 4) (hle : ∀ a, a < y.n → ∀ b, b < y.n → cnt (y.e b) 3 a (y.l b) ≤ cnt (y.e a) 2 b (y.l a)) :
  Calls Tryz.prog 67 #[.pointer (some ⟨X, 0, none⟩)] w fun e w' => ∃ v u, e = .returned (.tuple #[v, .bool (wfB y)]) ∧ (wfB y = true → LT true w' (fun k => w.heap.size ≤ k ∧ k < w'.heap.size) v (y.n * y.n) u (fun i => (wyL y (i / y.n) (i % y.n)).length) (fun i => itL (wyL y (i / y.n) (i % y.n)))) ∧ Below w.heap.size w w' := by
 have HU : Hid (∀ wx, Below w.heap.size w wx → ∀ a b, a < y.n → b < y.n → Calls Tryz.prog 147 #[.pointer (some ⟨X, 0, none⟩), .int .i64 (a : Nat), .int .i64 (b : Nat)] wx fun e w' => ∃ a1 c1, e = .returned (.slice a1 (wyL y a b).length c1) ∧ w'.ownsRow wx.heap.size 126 2 (.slice a1 (wyL y a b).length c1) (wyL y a b).length (fT (itL (wyL y a b)) (wyL y a b).length) ∧ Value.slice a1 (wyL y a b).length c1 ≠ .slice none 0 0 ∧ Below wx.heap.size wx w') := fun wx hb a b ha' hb' => underWay_any X hc ha hA hC y a b wx ((hb.cell (p := ⟨X, 0, none⟩) (World.block_lt_of_cell? w _ c0)).trans c0) (hE.below hb) hl ha' hb' (hle a ha' b hb')
 have HC0 : Hid (∀ wx, Below w.heap.size w wx → wx.cell? ⟨X, 0, none⟩ = some (.slice ha y.n hc)) := fun wx hb => (hb.cell (p := ⟨X, 0, none⟩) (World.block_lt_of_cell? w _ c0)).trans c0
 have hl' : (y.n : Int) ≤ 4 := by omega
 have HW : Hid (∀ a b, a < y.n → (wyL y a b).length ≤ 200) := fun a b ha' => by
  unfold wyL
  rw [List.length_drop, valL_length]
  have h1 := plN_le (y.e a) 2 b (y.l a)
  have h2 := hl a ha'
  omega
 have HF : Hid (wfB y = qB (∀ a, a < y.n → ∀ b, b < y.n → (wyL y a b).length ≤ 12)) := rfl
 clear hE hl hle c0
 generalize wfB y = R at *
 obtain ⟨L, hLe⟩ : ∃ L : Nat → Nat, (fun i => (wyL y (i / y.n) (i % y.n)).length) = L := ⟨_, rfl⟩
 obtain ⟨H, hHe⟩ : ∃ H : Nat → Nat → I2, (fun i => itL (wyL y (i / y.n) (i % y.n))) = H := ⟨_, rfl⟩
 rw [hLe, hHe]
 have HLH : Hid (∀ k j, j < y.n → (wyL y k j).length = L (k * y.n + j) ∧ itL (wyL y k j) = H (k * y.n + j)) := fun k j hj => by
  obtain ⟨e1, e2⟩ := wy_at (a := k) hj
  rw [← hLe, ← hHe]
  dsimp only
  rw [e1, e2]
  exact ⟨rfl, rfl⟩
 clear hLe hHe
 go_enter Tryz.func67, Tryz.ntmps67
 have c1 := HC0.out (w.alloc (.cells #[] 124)) (below_alloc _ _)
 go_wp2_with fail
 clear c1
 go_loopw [4, 14] (fun v i wr => ∃ k : Nat, k ≤ y.n ∧ i = .int .i64 k ∧ Hid ((∃ u, LT true wr (fun b => w.heap.size ≤ b ∧ b < wr.heap.size) v (k * y.n) u L H) ∧ Below w.heap.size w wr) ∧ Hid (∀ a, a < k → ∀ b, b < y.n → (wyL y a b).length ≤ 12)) (fun _ i _ => y.n - (intOf i).toNat)
 case atStart => exact ⟨0, Nat.zero_le _, rfl, ⟨⟨fun _ => .slice none 0 0, by rw [Nat.zero_mul]; exact LL.new _ _ _ w _ (by simp) _ _ _⟩, below_alloc _ _⟩, fun j hj => by omega⟩
 case round =>
  obtain ⟨k, hk, rfl, HB, HK⟩ := hrel
  by_cases hlt : k < y.n
  ·have hlt' : (k : Int) < (y.n : Int) := by omega
   have c1 := HC0.out wr HB.out.2
   go_wp2_with fail
   clear c1
   go_loopw [4, 22] (fun v i wr => ∃ j : Nat, j ≤ y.n ∧ i = .int .i64 j ∧ Hid ((∃ u, LT true wr (fun b => w.heap.size ≤ b ∧ b < wr.heap.size) v (k * y.n + j) u L H) ∧ Below w.heap.size w wr) ∧ Hid (∀ b, b < j → (wyL y k b).length ≤ 12)) (fun _ i _ => y.n - (intOf i).toNat)
   case atStart => exact ⟨0, Nat.zero_le _, rfl, HB.out, fun j hj => by omega⟩
   case round =>
    clear HB
    obtain ⟨j, hj, rfl, HB, HJ⟩ := hrel
    by_cases hjt : j < y.n
    ·have hjt' : (j : Int) < (y.n : Int) := by omega
     go_wp2_with fail
     refine (HU.out _ HB.out.2 k j hlt hjt).mono ?_
     rintro e w3 ⟨a3, c3, rfl, o3, n3, q3⟩
     have hm := HW.out k j hlt
     by_cases ho : 12 < (wyL y k j).length
     ·have HV : Hid (R = false) := by
       show R = false
       rw [HF.out]
       exact qB_false fun h => by
        have h1 := h k hlt j hjt
        omega
      have ho' : (12 : Int) < ((wyL y k j).length : Int) := by omega
      have B3 : Hid (Below w.heap.size w w3) := HB.out.2.trans (q3.mono HB.out.2.size)
      generalize (wyL y k j).length = m at *
      clear o3 n3 q3 HB
      go_wp2
      exact bodyPost_ret (v := .tuple #[.slice none 0 0, .bool false]) (by simp [results, Tryz.results67, go_sem]) rfl ⟨_, fun _ => .slice none 0 0, by rw [HV.out], fun h => (by rw [HV.out] at h; cases h), B3.out⟩
     ·have ho' : ¬ (12 : Int) < ((wyL y k j).length : Int) := by omega
      have HJ' : Hid (∀ b, b < j + 1 → (wyL y k b).length ≤ 12) := fun b hb => by
       by_cases e : b = j
       ·subst e
        omega
       ·exact HJ.out b (by omega)
      rw [(HLH.out k j hjt).1, (HLH.out k j hjt).2] at o3
      rw [(HLH.out k j hjt).1] at n3 ho' hm ⊢
      have h16 : k * y.n ≤ 4 * 4 := Nat.mul_le_mul (by omega) h4
      have HK2 : Hid (k * y.n + j ≤ 2000000) := by show _ ≤ _; omega
      have F4 : Hid (w3.ownsRow wr.heap.size 126 2 (.slice a3 (L (k * y.n + j)) c3) (L (k * y.n + j)) (fT (H (k * y.n + j)) (L (k * y.n + j))) ∧ Below wr.heap.size wr w3 ∧ Value.slice a3 (L (k * y.n + j)) c3 ≠ .slice none 0 0) := ⟨o3, q3, n3⟩
      obtain ⟨⟨u, oz⟩, bz⟩ := HB.out
      have OZ : Hid (LT true wr (fun b => w.heap.size ≤ b ∧ b < wr.heap.size) u4 (k * y.n + j) u L H) := oz
      have BZ : Hid (Below w.heap.size w wr) := bz
      clear HJ o3 n3 q3 ho oz bz HB h16
      generalize hkk : k * y.n + j = kk at *
      have HKK : Hid (k * y.n + j = kk) := hkk
      clear hkk
      go_wp2_with (at_builtin; refine step_append_val kndTT w3 rfl rfl _ _ rfl 0 u4 kk _ rfl (OZ.out.below F4.out.2.1).row #[.slice a3 (L kk) c3] rfl rfl (by intro u hu; simp at hu; subst hu; rfl) HK2.out (Nat.zero_le _) ?_; intro v5 w5 o5 g5 q5 n5; have F5 : Hid (LT true w5 (fun b => w.heap.size ≤ b ∧ b < w5.heap.size) v5 (kk + 1) (fun j => if j = kk then .slice a3 (L kk) c3 else u j) L H ∧ Below w.heap.size w w5) := ⟨OZ.out.push F4.out.2.1 F4.out.1 (fun _ => F4.out.2.2) o5 g5 q5 (fun j hj _ => ⟨hj.1, Nat.lt_of_lt_of_le hj.2 (Nat.le_trans F4.out.2.1.size g5.size)⟩) (fun j hj hj' => ⟨Nat.le_trans BZ.out.size hj, hj'⟩), Below.grown (BZ.out.trans (F4.out.2.1.mono BZ.out.size)) g5 (Nat.le_trans BZ.out.size F4.out.2.1.size) (fun j hj => (OZ.out.rb j hj).1)⟩; clear o5 g5 q5 n5)
      go_roundw
      case rel => exact ⟨j + 1, by omega, by go_num, ⟨⟨_, by rw [← Nat.add_assoc, HKK.out]; exact F5.out.1⟩, F5.out.2⟩, HJ'.out⟩
      case measure => simp [intOf]; omega
    ·have HK' : Hid (∀ a, a < k + 1 → ∀ b, b < y.n → (wyL y a b).length ≤ 12) := fun a ha b hb => by
      by_cases e : a = k
      ·subst e
       exact HJ.out b (by omega)
      ·exact HK.out a (by omega) b hb
     have hjn : j = y.n := by omega
     have HB' : Hid ((∃ u, LT true wr (fun b => w.heap.size ≤ b ∧ b < wr.heap.size) u4 ((k + 1) * y.n) u L H) ∧ Below w.heap.size w wr) := by
      have := HB.out
      rw [hjn] at this
      rw [Nat.add_mul, Nat.one_mul]
      exact this
     clear HK HJ HB hjn
     go_wp2
     go_roundw
     case rel => exact ⟨k + 1, by omega, by go_num, HB'.out, HK'.out⟩
     case measure => simp [intOf]; omega
  ·have HV : Hid (R = true) := by
    show R = true
    rw [HF.out]
    exact qB_true fun a ha b hb => HK.out a (by omega) b hb
   have hkn : k = y.n := by omega
   subst hkn
   obtain ⟨⟨u, oz⟩, bz⟩ := HB.out
   have OZ : Hid (LT true wr (fun b => w.heap.size ≤ b ∧ b < wr.heap.size) u4 (y.n * y.n) u L H ∧ Below w.heap.size w wr) := ⟨oz, bz⟩
   clear HK HB oz bz
   go_wp2
   exact bodyPost_ret (v := .tuple #[u4, .bool true]) (by simp [results, Tryz.results67, go_sem]) rfl ⟨_, u, by rw [HV.out], fun _ => OZ.out.1, OZ.out.2⟩
section
variable {z : Bool} {e : TypeId} {sz : Nat} {E : TypeId} {w : World} {P : Nat → Prop} {v : Value} {n : Nat} {u : Nat → Value} {L : Nat → Nat} {c : Nat → List Value}
theorem LL.pushP (o : LL z e sz E w P v n u L c) {w1 w2 : World} {u' v' : Value} (hsz : w.heap.size ≤ w1.heap.size) (hb : ∀ k, P k → k < w.heap.size → w1.heap[k]? = w.heap[k]?) (hu : w1.ownsRow w.heap.size e sz u' (L n) (c n)) (hne : Nz z e → u' ≠ .slice none 0 0) (hv : w2.ownsRow 0 E 1 v' (n + 1) ((List.range n).map u ++ [u'])) (g : w1.grownBy w2 v.ownBlock)
  (hv' : ∀ j, v'.ownBlock = some j → v.ownBlock = some j ∨ w1.heap.size ≤ j) {P' : Nat → Prop} (hP : ∀ k, P k → k < w.heap.size → P' k) (hPu : ∀ k, u'.ownBlock = some k → P' k) (hPv : ∀ k, w1.heap.size ≤ k → v'.ownBlock = some k → P' k) : LL z e sz E w2 P' v' (n + 1) (fun j => if j = n then u' else u j) L c := by
 have hvlt : ∀ k, v.ownBlock = some k → k < w.heap.size := fun k hk => (o.row.lt k hk).2
 have hu2 : w2.ownsRow w.heap.size e sz u' (L n) (c n) := hu.kept g (by
  cases hk : u'.ownBlock with
  | none => exact .inl rfl
  | some k =>
   refine .inr fun e => ?_
   have q1 := (hu.lt k hk).1
   have q2 := hvlt k e.symm
   omega)
 have ho2 : ∀ i, i < n → w2.ownsRow 0 e sz (u i) (L i) (c i) := fun i hi => ownsRow_blkL (o.own i hi) fun k hk => (g.block k (Nat.lt_of_lt_of_le ((o.own i hi).lt k hk).2 hsz) fun e => o.ra i hi k hk e.symm).trans (hb k (o.ob i hi k hk) ((o.own i hi).lt k hk).2)
 have lts : ∀ i, i < n → ∀ k, (u i).ownBlock = some k → k < w.heap.size := fun i hi k hk => ((o.own i hi).lt k hk).2
 refine ⟨?_, fun i hi => ?_, fun k hk => ?_, fun i hi k hk => ?_, fun i hi k hk => ?_, fun i j hi hj hij k hk => ?_, fun hz i hi => ?_⟩
 ·have e : (List.range (n + 1)).map (fun j => if j = n then u' else u j) = (List.range n).map u ++ [u'] := by
   rw [List.range_succ, List.map_append]
   simp only [List.map_cons, List.map_nil, if_true]
   congr 1
   exact List.map_congr_left fun j hj => by
    rw [if_neg]
    have := List.mem_range.1 hj
    omega
  rw [e]
  exact hv
 ·by_cases ei : i = n
  ·subst ei
   rw [if_pos rfl]
   exact ownsRow_base0 hu2
  ·rw [if_neg ei]
   exact ho2 i (by omega)
 ·rcases hv' k hk with h | h
  ·exact hP k (o.rb k h) (hvlt k h)
  ·exact hPv k h hk
 ·by_cases ei : i = n
  ·simp only [if_pos ei] at hk
   exact hPu k hk
  ·simp only [if_neg ei] at hk
   exact hP k (o.ob i (by omega) k hk) (lts i (by omega) k hk)
 ·intro hvk
  by_cases ei : i = n
  ·simp only [if_pos ei] at hk
   rcases hv' k hvk with h | h
   ·have := hvlt k h
    have := (hu.lt k hk).1
    omega
   ·have := (hu.lt k hk).2
    omega
  ·simp only [if_neg ei] at hk
   rcases hv' k hvk with h | h
   ·exact o.ra i (by omega) k hk h
   ·have := lts i (by omega) k hk
    omega
 ·intro hjk
  by_cases ei : i = n
  ·have ej : j ≠ n := fun e => hij (by omega)
   simp only [if_pos ei] at hk
   simp only [if_neg ej] at hjk
   have := lts j (by omega) k hjk
   have := (hu.lt k hk).1
   omega
  ·simp only [if_neg ei] at hk
   by_cases ej : j = n
   ·simp only [if_pos ej] at hjk
    have := lts i (by omega) k hk
    have := (hu.lt k hjk).1
    omega
   ·simp only [if_neg ej] at hjk
    exact o.oa i j (by omega) (by omega) hij k hk hjk
 ·by_cases ei : i = n
  ·rw [if_pos ei]
   exact hne hz
  ·rw [if_neg ei]
   exact o.nn hz i (by omega)
end
section
variable {w : World} {P : Nat → Prop} {v : Value} {n : Nat} {vs : Nat → Value} {S : Nat → S4}
theorem LS.pushP (o : LS w P v n vs S) {w1 w2 : World} {u' v' : Value} (hsz : w.heap.size ≤ w1.heap.size) (hb : ∀ k, P k → k < w.heap.size → w1.heap[k]? = w.heap[k]?) (hu : StOwn w1 w.heap.size u' (S n).p (S n).rs (S n).os (S n).c) (hv : w2.ownsRow 0 39 4 v' (n + 1) (flat (fun i => cellsL (vs i)) n ++ cellsL u')) (g : w1.grownBy w2 v.ownBlock)
  (hv' : ∀ j, v'.ownBlock = some j → v.ownBlock = some j ∨ w1.heap.size ≤ j) {P' : Nat → Prop} (hP : ∀ k, P k → k < w.heap.size → P' k) (hPu : ∀ k, hasBlock u' k → P' k) (hPv : ∀ k, w1.heap.size ≤ k → v'.ownBlock = some k → P' k) : LS w2 P' v' (n + 1) (fun j => if j = n then u' else vs j) S := by
 have hvlt : ∀ k, v.ownBlock = some k → k < w.heap.size := fun k hk => (o.row.lt k hk).2
 have lts : ∀ i, i < n → ∀ k, hasBlock (vs i) k → k < w.heap.size := fun i hi k hk => ((o.own i hi).lt hk).2
 have hu2 : StOwn w2 w.heap.size u' (S n).p (S n).rs (S n).os (S n).c := hu.blk fun k hk => g.block k (hu.lt hk).2 fun e => by
  have q1 := (hu.lt hk).1
  have q2 := hvlt k e.symm
  omega
 have ho2 : ∀ i, i < n → StOwn w2 0 (vs i) (S i).p (S i).rs (S i).os (S i).c := fun i hi => (o.own i hi).blk fun k hk => (g.block k (Nat.lt_of_lt_of_le (lts i hi k hk) hsz) fun e => o.ra i hi k hk e.symm).trans (hb k (o.ob i hi k hk) (lts i hi k hk))
 refine ⟨?_, fun i hi => ?_, fun k hk => ?_, fun i hi k hk => ?_, fun i hi k hk => ?_, fun i j hi hj hij k hk => ?_⟩
 ·have e : flat (fun i => cellsL (if i = n then u' else vs i)) (n + 1) = flat (fun i => cellsL (vs i)) n ++ cellsL u' := by
   rw [flat, if_pos rfl]
   congr 1
   exact flat_congr fun i hi => by rw [if_neg (by omega)]
  rw [e]
  exact hv
 ·by_cases ei : i = n
  ·subst ei
   simp only [if_true]
   exact hu2.mono (Nat.zero_le _)
  ·simp only [if_neg ei]
   exact ho2 i (by omega)
 ·rcases hv' k hk with h | h
  ·exact hP k (o.rb k h) (hvlt k h)
  ·exact hPv k h hk
 ·by_cases ei : i = n
  ·simp only [if_pos ei] at hk
   exact hPu k hk
  ·simp only [if_neg ei] at hk
   exact hP k (o.ob i (by omega) k hk) (lts i (by omega) k hk)
 ·intro hvk
  by_cases ei : i = n
  ·simp only [if_pos ei] at hk
   rcases hv' k hvk with h | h
   ·have := hvlt k h
    have := (hu.lt hk).1
    omega
   ·have := (hu.lt hk).2
    omega
  ·simp only [if_neg ei] at hk
   rcases hv' k hvk with h | h
   ·exact o.ra i (by omega) k hk h
   ·have := lts i (by omega) k hk
    omega
 ·intro hjk
  by_cases ei : i = n
  ·have ej : j ≠ n := fun e => hij (by omega)
   simp only [if_pos ei] at hk
   simp only [if_neg ej] at hjk
   have := lts j (by omega) k hjk
   have := (hu.lt hk).1
   omega
  ·simp only [if_neg ei] at hk
   by_cases ej : j = n
   ·simp only [if_pos ej] at hjk
    have := lts i (by omega) k hk
    have := (hu.lt hjk).1
    omega
   ·simp only [if_neg ej] at hjk
    exact o.oa i j (by omega) (by omega) hij k hk hjk
end
section
variable {z : Bool} {B N : Nat} {c : Nat → Nat} {y : Sy} {wr : World} {vp vs vw vh : Value} {up us uw uh : Nat → Value}
theorem AtP.both (h : AtP z B N c y wr vp vs vw vh up us uw uh) {w1 w2 w3 w4 : World} {ue ust v3 v4 : Value} (b1 : Below wr.heap.size wr w1) (hue : w1.ownsRow wr.heap.size 71 3 ue (y.hL y.hn) (fE (y.hH y.hn) (y.hL y.hn))) (hne : ue ≠ .slice none 0 0) (b2 : Below w1.heap.size w1 w2) (hst : StOwn w2 w1.heap.size ust (y.sS y.sn).p (y.sS y.sn).rs (y.sS y.sn).os (y.sS y.sn).c)
  (hv3 : w3.ownsRow 0 35 1 v3 (y.hn + 1) ((List.range y.hn).map uh ++ [ue])) (g3 : w2.grownBy w3 vh.ownBlock) (hv3' : ∀ j, v3.ownBlock = some j → vh.ownBlock = some j ∨ w2.heap.size ≤ j)
  (hv4 : w4.ownsRow 0 39 4 v4 (y.sn + 1) (flat (fun i => cellsL (us i)) y.sn ++ cellsL ust)) (g4 : (w3.setCell ⟨N, 3, none⟩ v3).grownBy w4 vs.ownBlock) (hv4' : ∀ j, v4.ownBlock = some j → vs.ownBlock = some j ∨ (w3.setCell ⟨N, 3, none⟩ v3).heap.size ≤ j) :
  ∃ c', AtP z B N c' { y with sn := y.sn + 1, hn := y.hn + 1 } (w4.setCell ⟨N, 1, none⟩ v4) vp v4 vw v3 up (fun j => if j = y.sn then ust else us j) uw (fun j => if j = y.hn then ue else uh j) := by
 have hN := h.lt
 have hBN := h.bN
 have s1 := b1.size
 have s2 := b2.size
 have s3 := g3.size
 have s4 := g4.size
 have s3' : (w3.setCell ⟨N, 3, none⟩ v3).heap.size = w3.heap.size := by simp
 rw [s3'] at s4
 obtain ⟨q, hq⟩ : ∃ q : Nat → Nat, q = fun k => if k < wr.heap.size then c k else if k < w1.heap.size then 4 else if k < w2.heap.size then 2 else if k < w3.heap.size then 4 else 2 := ⟨_, rfl⟩
 have q0 : ∀ k, k < wr.heap.size → q k = c k := fun k hk => by rw [hq]; exact if_pos hk
 have q1 : ∀ k, wr.heap.size ≤ k → k < w1.heap.size → q k = 4 := fun k h1 h2 => by rw [hq]; dsimp only; rw [if_neg (by omega), if_pos h2]
 have q2 : ∀ k, w1.heap.size ≤ k → k < w2.heap.size → q k = 2 := fun k h1 h2 => by rw [hq]; dsimp only; rw [if_neg (by omega), if_neg (by omega), if_pos h2]
 have q3 : ∀ k, w2.heap.size ≤ k → k < w3.heap.size → q k = 4 := fun k h1 h2 => by rw [hq]; dsimp only; rw [if_neg (by omega), if_neg (by omega), if_neg (by omega), if_pos h2]
 have q4 : ∀ k, w3.heap.size ≤ k → q k = 2 := fun k h1 => by rw [hq]; dsimp only; rw [if_neg (by omega), if_neg (by omega), if_neg (by omega), if_neg (by omega)]
 clear hq
 have qN : q N = 0 := (q0 N hN).trans h.cN
 have vhc : ∀ k, vh.ownBlock = some k → k < wr.heap.size ∧ c k = 4 := fun k hk => ⟨(h.o.h.row.lt k hk).2, (h.o.h.rb k hk).2⟩
 have vsc : ∀ k, vs.ownBlock = some k → k < wr.heap.size ∧ c k = 2 := fun k hk => ⟨(h.o.s.row.lt k hk).2, (h.o.s.rb k hk).2⟩
 have e12 : ∀ k, k < wr.heap.size → w2.heap[k]? = wr.heap[k]? := fun k hk => (b2.block k (by omega)).trans (b1.block k hk)
 have e3 : ∀ k, k < w2.heap.size → q k ≠ 4 → k ≠ N → (w3.setCell ⟨N, 3, none⟩ v3).heap[k]? = w2.heap[k]? := fun k hk hc hn => (Below.heap_setCell _ _ _ _ hn).trans (g3.block k hk fun e => hc (by rw [q0 k (vhc k e.symm).1]; exact (vhc k e.symm).2))
 have e4 : ∀ k, k < w3.heap.size → q k ≠ 2 → k ≠ N → (w4.setCell ⟨N, 1, none⟩ v4).heap[k]? = (w3.setCell ⟨N, 3, none⟩ v3).heap[k]? := fun k hk hc hn => (Below.heap_setCell _ _ _ _ hn).trans (g4.block k (by rw [s3']; exact hk) fun e => hc (by rw [q0 k (vsc k e.symm).1]; exact (vsc k e.symm).2))
 have hP : ∀ i k, Cl B c i k → k < wr.heap.size → Cl B q i k := fun i k hk hl => ⟨hk.1, (q0 k hl).trans hk.2⟩
 have hnN : ∀ i k, i ≠ 0 → Cl B q i k → k ≠ N := fun i k hi hk e => hi (by rw [← hk.2, e, qN])
 have eN2 : w2.heap[N]? = wr.heap[N]? := e12 N hN
 have eN3 : w3.heap[N]? = wr.heap[N]? := (g3.block N (by omega) fun e => by
  have := (vhc N e.symm).2
  rw [h.cN] at this
  cases this).trans eN2
 have eN4 : w4.heap[N]? = (w3.setCell ⟨N, 3, none⟩ v3).heap[N]? := g4.block N (by rw [s3']; omega) fun e => by
  have := (vsc N e.symm).2
  rw [h.cN] at this
  cases this
 obtain ⟨x0, x1, x2, x3⟩ := h.bx
 have c3 : ∀ j, w3.cell? ⟨N, j, none⟩ = wr.cell? ⟨N, j, none⟩ := fun j => World.cell?_of_block eN3
 have c4 : ∀ j, w4.cell? ⟨N, j, none⟩ = (w3.setCell ⟨N, 3, none⟩ v3).cell? ⟨N, j, none⟩ := fun j => World.cell?_of_block eN4
 have hkk : ∀ i, i ≠ 0 → i ≠ 2 → i ≠ 4 → ∀ k, Cl B q i k → k < wr.heap.size → (w4.setCell ⟨N, 1, none⟩ v4).heap[k]? = wr.heap[k]? := fun i h0 h2 h4 k hk hl => ((e4 k (by omega) (by rw [hk.2]; exact h2) (hnN i k h0 hk)).trans (e3 k (by omega) (by rw [hk.2]; exact h4) (hnN i k h0 hk))).trans (e12 k hl)
 refine ⟨q, ⟨?_, ?_, ?_, ?_⟩, fun j => ?_, qN, hBN, ⟨?_, ?_, ?_, ?_⟩⟩
 ·rw [World.cell?_setCell_other _ _ _ _ (by simp), c4, World.cell?_setCell_other _ _ _ _ (by simp), c3]; exact x0
 ·exact World.cell?_setCell_same _ _ _ (((c4 1).trans ((World.cell?_setCell_other _ _ _ _ (by simp)).trans (c3 1))).trans x1)
 ·rw [World.cell?_setCell_other _ _ _ _ (by simp), c4, World.cell?_setCell_other _ _ _ _ (by simp), c3]; exact x2
 ·rw [World.cell?_setCell_other _ _ _ _ (by simp), c4]; exact World.cell?_setCell_same _ _ _ ((c3 3).trans x3)
 ·rw [World.frozen?_setCell, World.frozen?_of_block eN4, World.frozen?_setCell, World.frozen?_of_block eN3]; exact h.fr j
 ·exact (h.o.p.mono (hP 1)).keep (hkk 1 (by decide) (by decide) (by decide))
 ·have hs' : StOwn (w3.setCell ⟨N, 3, none⟩ v3) wr.heap.size ust (y.sS y.sn).p (y.sS y.sn).rs (y.sS y.sn).os (y.sS y.sn).c := (hst.mono s1).blk fun k hk => by
   have hl := hst.lt hk
   exact e3 k hl.2 (by rw [q2 k hl.1 hl.2]; decide) (by omega)
  refine (h.o.s.pushP (w1 := w3.setCell ⟨N, 3, none⟩ v3) (w2 := w4) (P' := Cl B q 2) (by omega) (fun k hk hl => ?_) hs' hv4 g4 hv4' (hP 2) (fun k hk => ?_) (fun k h1 hk => ?_)).keep fun k hk _ => Below.heap_setCell _ _ _ _ (hnN 2 k (by decide) hk)
  ·exact (e3 k (by omega) (by rw [(hP 2 k hk hl).2]; decide) (hnN 2 k (by decide) (hP 2 k hk hl))).trans (e12 k hl)
  ·have hl := hst.lt hk
   exact ⟨by omega, q2 k hl.1 hl.2⟩
  ·exact ⟨by omega, q4 k (by omega)⟩
 ·exact (h.o.t.mono (hP 3)).keep (hkk 3 (by decide) (by decide) (by decide))
 ·have hue2 : w2.ownsRow wr.heap.size 71 3 ue (y.hL y.hn) (fE (y.hH y.hn) (y.hL y.hn)) := ownsRow_blkL hue fun k hk => b2.block k (hue.lt k hk).2
  refine (h.o.h.pushP (w1 := w2) (w2 := w3) (P' := Cl B q 4) (by omega) (fun k _ hl => e12 k hl) hue2 (fun _ => hne) hv3 g3 hv3' (hP 4) (fun k hk => ?_) (fun k h1 hk => ?_)).keep fun k hk hl => (e4 k hl (by rw [hk.2]; decide) (hnN 4 k (by decide) hk)).trans (Below.heap_setCell _ _ _ _ (hnN 4 k (by decide) hk))
  ·have hl := hue.lt k hk
   exact ⟨by omega, q1 k hl.1 hl.2⟩
  ·exact ⟨by omega, q3 k h1 (hv3.lt k hk).2⟩
theorem AtP.putW {g cap : Nat} (h : AtP z B N c y wr vp vs (.slice (some ⟨g, 0, none⟩) y.wn cap) vh up us uw uh) {i : Nat} (hi : i < y.wn) {w1 : World} {u' : Value} {m : Nat} {H' : Nat → I2} (hs : wr.heap.size ≤ w1.heap.size) (g1 : ∀ k, k < wr.heap.size → (uw i).ownBlock ≠ some k → w1.heap[k]? = wr.heap[k]?)
  (hu : w1.ownsRow 0 126 2 u' m (fT H' m)) (hne : u' ≠ .slice none 0 0) (hb : ∀ k, u'.ownBlock = some k → (uw i).ownBlock = some k ∨ wr.heap.size ≤ k) :
  AtP z B N (rcol c wr.heap.size 3) (y.setW i m H') (w1.setCell ⟨g, i, none⟩ u') vp vs (.slice (some ⟨g, 0, none⟩) y.wn cap) vh up us (fun j => if j = i then u' else uw j) uh := by
 have hN := h.lt
 have hgc : c g = 3 := (h.o.t.rb g rfl).2
 have hgN : N ≠ g := fun e => by rw [← e, h.cN] at hgc; cases hgc
 have eN : (w1.setCell ⟨g, i, none⟩ u').heap[N]? = wr.heap[N]? := (Below.heap_setCell _ _ _ _ hgN).trans (g1 N hN fun e => by
  have := (h.o.t.ob i hi N e).2
  rw [h.cN] at this
  cases this)
 obtain ⟨x0, x1, x2, x3⟩ := h.bx
 exact ⟨⟨(World.cell?_of_block eN).trans x0, (World.cell?_of_block eN).trans x1, (World.cell?_of_block eN).trans x2, (World.cell?_of_block eN).trans x3⟩, fun j => (World.frozen?_of_block eN).trans (h.fr j), (rcol_old hN).trans h.cN, h.bN, h.o.putW hi (Nat.le_trans h.bN (Nat.le_of_lt hN)) hs g1 hu hne hb⟩
end
theorem BoxC.blkA {w w' : World} {N : Nat} {p vr vo code : Value} (h : BoxC w N p vr vo code) (hb : w'.heap[N]? = w.heap[N]?) : BoxC w' N p vr vo code := by
 obtain ⟨h0, h1, h2, h3⟩ := h
 exact ⟨(World.cell?_of_block hb).trans h0, (World.cell?_of_block hb).trans h1, (World.cell?_of_block hb).trans h2, (World.cell?_of_block hb).trans h3⟩
theorem AtP.startM {W1 w : World} {n : Nat} {L : Nat → Nat} {H : Nat → Nat → I5} {v1 v2 v3 v4 : Value} (h : NwF W1 n L H true true false true v1 v2 v3 v4 w) (S : Nat → S4) (wH : Nat → Nat → I2) (d : Nat → Nat) (hH : Nat → Nat → E3) :
  ∃ N c up, v4 = .pointer (some ⟨N, 0, none⟩) ∧ N < w.heap.size ∧ BoxC w N (.slice none 0 0) (.slice none 0 0) (.slice none 0 0) (.slice none 0 0) ∧ (∀ j, w.frozen? ⟨N, j, none⟩ = false) ∧ W1.heap.size ≤ N ∧ AtP false W1.heap.size N c ⟨n, L, H, 0, S, n * n, fun _ => 0, wH, 0, d, hH⟩ ((((w.setCell ⟨N, 0, none⟩ v1).setCell ⟨N, 1, none⟩ (.slice none 0 0)).setCell ⟨N, 2, none⟩ v2).setCell ⟨N, 3, none⟩ (.slice none 0 0)) v1 (.slice none 0 0) v2 (.slice none 0 0) up (fun _ => .slice none 0 0) (fun _ => .slice none 0 0) (fun _ => .slice none 0 0) := by
 obtain ⟨k, h1, h2, -, h4⟩ := h.ow
 obtain ⟨N, e, hN, bx, fr, cN⟩ := h4 rfl
 obtain ⟨u, o⟩ := h1 rfl
 have hl := World.block_lt_of_cell? w _ bx.1
 have hk : ∀ i, i ≠ 0 → ∀ j, Cl W1.heap.size k i j → j < w.heap.size → ((((w.setCell ⟨N, 0, none⟩ v1).setCell ⟨N, 1, none⟩ (.slice none 0 0)).setCell ⟨N, 2, none⟩ v2).setCell ⟨N, 3, none⟩ (.slice none 0 0)).heap[j]? = w.heap[j]? := fun i hi j hj _ => by
  have hne : j ≠ N := fun e => hi (by rw [← hj.2, e, cN])
  exact (Below.heap_setCell _ _ _ _ hne).trans ((Below.heap_setCell _ _ _ _ hne).trans ((Below.heap_setCell _ _ _ _ hne).trans (Below.heap_setCell _ _ _ _ hne)))
 obtain ⟨g0, g1, g2, g3⟩ := id bx
 exact ⟨N, k, u, e, hl, bx, fr, hN, BoxC.set4 ⟨g0, g1, g2, g3⟩ _ _ _ _, fun j => by simp only [World.frozen?_setCell]; exact fr j, cN, hN, ⟨(o.keep (hk 1 (by decide))).weak, LS.nil _ _ _ _, ((h2 rfl).keep (hk 3 (by decide))).ll (by decide) _ (fun _ => rfl), LL.nil _ _ _ _ _ _ _ _⟩⟩
def Sy.atK (y : Sy) (d : Nat → Nat) (ks : Nat) (WL : Nat → Nat) : Sy := { y.atY d with sn := ks, hn := ks, wL := WL }
def wlN (F : Nat → Nat) (m i : Nat) : Nat → Nat := fun q => if q < m then F q else if q = m then i else 0
theorem wlN_zero (F : Nat → Nat) : wlN F 0 0 = fun _ => 0 := funext fun q => by
 unfold wlN
 rw [if_neg (by omega)]
 split <;> rfl
theorem wlN_up (F : Nat → Nat) (m i : Nat) : (fun j => if j = m then i + 1 else wlN F m i j) = wlN F m (i + 1) := funext fun q => by
 unfold wlN
 by_cases h : q = m
 ·rw [if_pos h, if_neg (by omega), if_pos h]
 ·rw [if_neg h, if_neg h, if_neg h]
theorem wlN_next (F : Nat → Nat) (m : Nat) : wlN F m (F m) = wlN F (m + 1) 0 := funext fun q => by
 unfold wlN
 by_cases h : q < m
 ·rw [if_pos h, if_pos (by omega)]
 ·rw [if_neg h]
  by_cases h2 : q = m
  ·rw [if_pos h2, if_pos (by omega), h2]
  ·rw [if_neg h2, if_neg (by omega)]
   split <;> rfl
theorem wlN_at (F : Nat → Nat) (m i : Nat) : wlN F m i m = i := by
 unfold wlN
 rw [if_neg (Nat.lt_irrefl _), if_pos rfl]
theorem LL.cellG {z : Bool} {e : TypeId} {sz : Nat} {E : TypeId} {w : World} {P : Nat → Prop} {n : Nat} {u : Nat → Value} {L : Nat → Nat} {c : Nat → List Value} {g cap : Nat} (o : LL z e sz E w P (.slice (some ⟨g, 0, none⟩) n cap) n u L c) {i : Nat} (hi : i < n) : w.cell? ⟨g, i, none⟩ = some (u i) ∧ P g ∧ g < w.heap.size ∧ ∀ j, w.frozen? ⟨g, j, none⟩ = false := by
 obtain ⟨g', cap', e, h1, h2, h3, h4⟩ := o.cell hi
 simp only [Value.slice.injEq, Option.some.injEq, Addr.mk.injEq] at e
 obtain ⟨⟨rfl, -, -⟩, -, -⟩ := e
 exact ⟨h3, h1, h2, h4⟩
theorem evl_own {w : World} {B : Nat} {u : Value} {n : Nat} {g : Nat → E3} (o : w.ownsRow B 71 3 u n (fE g n)) : ∃ a cap, u = .slice a n cap ∧ EvL w a n g := by
 by_cases h : u = .slice none 0 0
 ·subst h
  rcases o.2 with ⟨-, h0⟩ | ⟨g, cap, cur, e, -⟩
  ·subst h0
   exact ⟨none, 0, rfl, .inl rfl⟩
  ·cases e
 ·obtain ⟨b, cap, e, hl, he, -⟩ := atE o h
  exact ⟨_, cap, e, .inr ⟨b, 0, rfl, hl, he⟩⟩
theorem atK_setW (y : Sy) (d : Nat → Nat) (ks m i : Nat) (F : Nat → Nat) : (y.atK d ks (wlN F m i)).setW m (i + 1) ((y.atY d).wH m) = y.atK d ks (wlN F m (i + 1)) := by
 have e : (fun j => if j = m then (y.atY d).wH m else (y.atY d).wH j) = (y.atY d).wH := funext fun j => by
  split
  ·rename_i h
   rw [h]
  ·rfl
 show { y.atK d ks (wlN F m i) with wL := fun j => if j = m then i + 1 else wlN F m i j, wH := fun j => if j = m then (y.atY d).wH m else (y.atY d).wH j } = _
 rw [wlN_up, e]
 rfl
theorem atK_full {w : World} {P : Nat → Prop} {v : Value} {n : Nat} {u : Nat → Value} {F : Nat → Nat} {H : Nat → Nat → I2} {z : Bool} (o : LT z w P v n u (wlN F n 0) H) : LT z w P v n u F H := by
 have e : ∀ i, i < n → wlN F n 0 i = F i := fun i hi => by
  unfold wlN
  rw [if_pos hi]
 refine ⟨o.row, fun i hi => ?_, o.rb, o.ob, o.ra, o.oa, o.nn⟩
 have := o.own i hi
 rw [e i hi] at this
 exact this
theorem l8At_any (x : SysIn) (ca : Option Addr) (cc : Nat) (c : List Int) (w : World) (hG : SysG w x) (hL : x.Len) (hcap : ∀ i, i < x.hn → x.hL i ≤ x.hC i) (hO : x.y.Ok) (hC : x.y.Cut c) (hc : Sl w ca c) :
  Calls Tryz.prog 60 #[x.v, .slice ca c.length cc] w fun e w' => ∃ v, e = .returned (.tuple #[v, .bool (wfB (x.y.ah (cN c)))]) ∧ OwnSys false w' w.heap.size (x.y.atW (cN c)) v ∧ Below w.heap.size w w' := by
 have hln : c.length = x.pn := hC.len
 have h4 : x.pn ≤ 4 := hO.cn.1.2
 have hhn : x.hn = x.pn := hO.cn.2.2.1
 have HN : Hid (c.length = x.pn ∧ x.hn = x.pn ∧ x.pn ≤ 4 ∧ 1 ≤ x.pn) := ⟨hln, hhn, h4, hO.cn.1.1⟩
 have HCK : Hid (∀ k, k < x.pn → zi c k = (cN c k : Nat) ∧ cN c k ≤ x.hC k ∧ cN c k ≤ x.hL k ∧ x.hL k ≤ 200) := fun k hk => ⟨hC.nat hk, Nat.le_trans (hC.leN hk) (hcap k (by omega)), hC.leN hk, hO.hl200 hk⟩
 have HG : Hid (SysG w x) := hG
 have HQ : Hid (Sl w ca c) := hc
 have HP : Hid (∀ wx, Below w.heap.size w wx → Calls Tryz.prog 120 #[.slice x.pa x.pn x.pc] wx fun e w' => ∃ v u, e = .returned v ∧ LI true w' (fun k => wx.heap.size ≤ k ∧ k < w'.heap.size) v x.pn u x.pL x.pH ∧ Below wx.heap.size wx w') := fun wx hb => l4Ins_any x.pa x.pn x.pc x.pA x.pL x.pC x.pH wx hL.p.1 hL.p.2 (HG.out.below hb).p (fun i hi => by
  obtain ⟨b, e, hlt, hI⟩ := (HG.out.below hb).pi i hi
  rw [e]
  exact srcI hlt hI)
 have HR : Hid (∀ wx, Below w.heap.size w wx → ∀ p, p < x.pn → ∀ ea ec, EvL wx ea (cN c p) (x.hH p) → Calls Tryz.prog 113 #[.slice (x.pA p) (x.pL p) (x.pC p), .slice ea (cN c p) ec] wx (DoneR wx ((x.y.atY (cN c)).sS p) (repO (x.pH p) (x.pL p) (x.hH p) (cN c p)).isSome)) := fun wx hb p hp ea ec he => by
  obtain ⟨b, e, hlt, hI⟩ := (HG.out.below hb).pi p hp
  rw [e]
  exact specReplay_l b (x.pL p) (x.pC p) ea (cN c p) ec (x.pH p) (x.hH p) wx (by have := hL.p.2 p hp; unfold maxLen; omega) hlt hI he (by have := HCK.out p hp; omega)
 have BW : Hid (Below w.heap.size w ((w.alloc (oQ4 x.pa x.pn x.pc x.sa x.sn x.sc x.wa x.wn x.wc x.ha x.hn x.hc)).alloc (zQ2))) := (below_allocL _ _).trans ((below_allocL _ _).mono (by simp))
 have NB : Hid (BoxC ((w.alloc (oQ4 x.pa x.pn x.pc x.sa x.sn x.sc x.wa x.wn x.wc x.ha x.hn x.hc)).alloc (zQ2)) w.heap.size (.slice x.pa x.pn x.pc) (.slice x.sa x.sn x.sc) (.slice x.wa x.wn x.wc) (.slice x.ha x.hn x.hc)) := (BoxC.new w _ _ _ _ _).below (below_allocL _ _)
 have RB : Hid (BoxC ((w.alloc (oQ4 x.pa x.pn x.pc x.sa x.sn x.sc x.wa x.wn x.wc x.ha x.hn x.hc)).alloc (zQ2)) (w.heap.size + 1) (.slice none 0 0) (.slice none 0 0) (.slice none 0 0) (.slice none 0 0) ∧ ∀ j, ((w.alloc (oQ4 x.pa x.pn x.pc x.sa x.sn x.sc x.wa x.wn x.wc x.ha x.hn x.hc)).alloc (zQ2)).frozen? ⟨w.heap.size + 1, j, none⟩ = false) := ⟨⟨new_cell _ _ _ 0 (by simp), new_cell _ _ _ 1 (by simp), new_cell _ _ _ 2 (by simp), new_cell _ _ _ 3 (by simp)⟩, fun j => new_frozen _ _ _ _ (by simp)⟩
 have hM : w.heap.size ≤ w.heap.size + 1 := Nat.le_succ _
 obtain ⟨NN, hNN⟩ : ∃ NN, NN = x.pn * x.pn := ⟨_, rfl⟩
 have HNN : Hid (NN = x.pn * x.pn) := hNN
 have hm0 : (x.pn : Int) * (x.pn : Int) = (NN : Int) := by rw [hNN]; simp
 have h16 : NN ≤ 16 := by rw [hNN]; exact Nat.le_trans (Nat.mul_le_mul h4 h4) (by omega)
 have h16' : (NN : Int) ≤ 16 := by omega
 have hn4 : (x.pn : Int) ≤ 4 := by omega
 have HYW : Hid (x.y.atW (cN c) = if wfB (x.y.ah (cN c)) = true then x.y.atY (cN c) else x.y.nil) := rfl
 have HWF : Hid (wfB (x.y.ah (cN c)) = qB (∀ a, a < x.pn → ∀ b, b < x.pn → (wyL (x.y.ah (cN c)) a b).length ≤ 12)) := rfl
 generalize x.y.atW (cN c) = YW at *
 generalize wfB (x.y.ah (cN c)) = wf at *
 clear hG hL hcap hO hC hc hNN hln hhn
 go_enter Tryz.func60, Tryz.ntmps60
 go_upto_region 1 with fail
 generalize (w.alloc (oQ4 x.pa x.pn x.pc x.sa x.sn x.sc x.wa x.wn x.wc x.ha x.hn x.hc)).alloc (zQ2) = W2 at *
 obtain ⟨b0, b1, b2, b3⟩ := NB.out
 go_upto_region 2 with fail
 have lW : w.heap.size < W2.heap.size := World.block_lt_of_cell? _ _ b0
 have HB0 : Hid (∀ wx, Below W2.heap.size W2 wx → wx.cell? ⟨w.heap.size, 0, none⟩ = some (.slice x.pa x.pn x.pc)) := fun wx hb => (hb.cell (p := ⟨w.heap.size, 0, none⟩) lW).trans b0
 have F0 : Hid (NwF W2 x.pn x.pL x.pH false false false false undef undef undef undef W2.drew) := ⟨(Below.refl _ _).drew, fun _ => 0, (fun e => by cases e), (fun e => by cases e), (fun e => by cases e), (fun e => by cases e)⟩
 refine wp_region_G (fun w' => w'.cell? ⟨w.heap.size, 0, none⟩ = some (.slice x.pa x.pn x.pc)) (fun i => i == 9) (by kernel_rfl) ?_
 have hHeld : (fun w' : World => w'.cell? ⟨w.heap.size, 0, none⟩ = some (.slice x.pa x.pn x.pc)) W2.drew := HB0.out _ F0.out.be
 refine wpGT_of [0, 1, 3, 4] ?_
 iterate 4 (refine wpGT_take rfl hHeld ?_; apply Exists.intro; refine ⟨fun wq hSw => ?_, ?_⟩; (· ((try dsimp only at hSw); go_simp; try with_reducible rfl)); (try simp only [Act.put, List.setIfInBounds_toArray, List.set_cons_zero, List.set_cons_succ]))
 refine wpGT_nil ?_
 refine wpG_take 5 rfl hHeld ⟨.int .i64 (NN : Int), fun wq _ => ?_, ?_⟩
 ·go_simp
  rw [IntKind.wrap_i64]
  omega
 (try simp only [Act.put, List.setIfInBounds_toArray, List.set_cons_zero, List.set_cons_succ])
 refine wpG_cast 5 #[true, true, false, true, true, true, false, false, false, false] (by kernel_rfl) (by kernel_rfl) ?_
 clear b0 b1 b2 b3
 refine wpG_three (fun b c d e => #[true, true, b, true, true, true, c, e, d, false]) 2 6 8 7 (fun b d e y wq => ∃ v1 v2 v4, y = ⟨#[x.v, .slice ca c.length cc, .pointer (some ⟨w.heap.size, 0, none⟩), undef, .pointer (some ⟨w.heap.size + 1, 0, none⟩), .bool false, .int .i64 x.pn, v4, undef, undef, undef, undef, undef, undef, undef, undef, undef, .pointer (some ⟨w.heap.size, 0, none⟩), .slice x.pa x.pn x.pc, .int .i64 x.pn, .pointer (some ⟨w.heap.size, 0, none⟩), .slice x.pa x.pn x.pc, v1, .int .i64 x.pn, .int .i64 x.pn, .int .i64 NN, v2, undef, undef, undef, undef, undef, undef, undef, undef, undef, undef, undef, undef, undef, undef, undef, undef, undef, undef, undef, undef, undef, undef, undef, undef, undef, undef, undef, undef, undef, undef, undef, undef, undef, undef, undef, undef, undef, undef, undef, undef, undef, undef, undef, undef, undef, undef, undef, undef, undef, undef, undef, undef, undef, undef, undef, undef, undef, undef, undef, undef, undef, undef, undef, undef, undef, undef, undef, undef, undef, undef, undef, undef, undef, undef, undef, undef, undef, undef, undef, undef, undef, undef, undef, undef, undef, undef, undef, undef, undef, undef, undef, undef, undef, undef, undef, undef, undef, undef, undef, undef, undef, undef], []⟩ ∧ NwF W2 x.pn x.pL x.pH b d false e v1 v2 undef v4 wq) (fun e y wq => ∃ a1 c1 a2 c2 v4, y = ⟨#[x.v, .slice ca c.length cc, .pointer (some ⟨w.heap.size, 0, none⟩), undef, .pointer (some ⟨w.heap.size + 1, 0, none⟩), .bool false, .int .i64 x.pn, v4, undef, undef, undef, undef, undef, undef, undef, undef, undef, .pointer (some ⟨w.heap.size, 0, none⟩), .slice x.pa x.pn x.pc, .int .i64 x.pn, .pointer (some ⟨w.heap.size, 0, none⟩), .slice x.pa x.pn x.pc, .slice a1 x.pn c1, .int .i64 x.pn, .int .i64 x.pn, .int .i64 NN, .slice a2 (x.pn * x.pn) c2, .agg #[.slice a1 x.pn c1, .slice none 0 0, .slice a2 (x.pn * x.pn) c2, .slice none 0 0], undef, undef, undef, undef, undef, undef, undef, undef, undef, undef, undef, undef, undef, undef, undef, undef, undef, undef, undef, undef, undef, undef, undef, undef, undef, undef, undef, undef, undef, undef, undef, undef, undef, undef, undef, undef, undef, undef, undef, undef, undef, undef, undef, undef, undef, undef, undef, undef, undef, undef, undef, undef, undef, undef, undef, undef, undef, undef, undef, undef, undef, undef, undef, undef, undef, undef, undef, undef, undef, undef, undef, undef, undef, undef, undef, undef, undef, undef, undef, undef, undef, undef, undef, undef, undef, undef, undef, undef, undef, undef, undef, undef, undef, undef, undef, undef, undef, undef, undef, undef, undef], []⟩ ∧ NwF W2 x.pn x.pL x.pH true true false e (.slice a1 x.pn c1) (.slice a2 (x.pn * x.pn) c2) undef v4 wq) (f0 := 1) ?_ (fun _ _ => rfl) (fun _ _ => rfl) (fun _ _ _ => rfl) (fun _ => rfl) rfl (by kernel_rfl) (fun d => by cases d <;> kernel_rfl) (fun d => by cases d <;> kernel_rfl) (by kernel_rfl) (fun _ _ _ _ h => h) ?_ ?_ ?_ ?_ ?_ ?_ 3 false false false _ _ rfl ⟨_, _, _, rfl, F0.out⟩
 ·intro b c d h
  cases b <;> cases c <;> cases d <;> first | exact absurd h (by decide) | kernel_rfl
 ·rintro d e y wq ⟨v1, v2, v4, rfl, F⟩
  refine wpOp_step rfl fun K hK => ?_
  refine stepR_call rfl 120 _ _ rfl #[.slice x.pa x.pn x.pc] (by simp [Act.eval]) (run_enter Tryz.func120 (by kernel_rfl) rfl) (HP.out wq (BW.out.trans (F.be.mono BW.out.size))) ?_
  rintro e w5 ⟨v5, u5, rfl, o5, d5⟩
  exact ⟨_, rfl, hK _ _ ⟨fun _ _ => HB0.out _ (F.one o5 d5).be, v5, v2, v4, rfl, F.one o5 d5⟩⟩
 ·rintro b e y wq ⟨v1, v2, v4, rfl, F⟩
  have hmk := run_make_nils kndTT nilItem NN (by omega) wq
  have F2 := F.two (by rw [← HNN.out]; omega)
  rw [← HNN.out] at F2
  refine wpOp_step rfl fun K hK => ?_
  go_simp
  refine hK _ _ ⟨fun _ _ => HB0.out _ F2.be, v1, .slice (some ⟨wq.heap.size, 0, none⟩) NN NN, v4, rfl, F2⟩
 ·rintro b d y wq ⟨v1, v2, v4, rfl, F⟩
  refine wpOp_step rfl fun K hK => ?_
  go_simp
  exact hK _ _ ⟨fun _ _ => HB0.out _ F.four.be, v1, v2, .pointer (some ⟨wq.heap.size, 0, none⟩), rfl, F.four⟩
 ·rintro e y wq ⟨v1, v2, v4, rfl, F⟩
  obtain ⟨k, h1, h2, -, -⟩ := F.ow
  obtain ⟨u, o1⟩ := h1 rfl
  obtain ⟨a1, c1, rfl⟩ := ownsRow_slice o1.row
  obtain ⟨a2, c2, rfl⟩ := ownsRow_slice (h2 rfl).row
  refine ⟨rfl, .agg #[.slice a1 x.pn c1, .slice none 0 0, .slice a2 (x.pn * x.pn) c2, .slice none 0 0], fun wz => ?_, a1, c1, a2, c2, v4, rfl, F⟩
  go_simp
 ·rintro y wq ⟨a1, c1, a2, c2, v4, rfl, F⟩
  refine wpOp_step rfl fun K hK => ?_
  go_simp
  exact hK _ _ ⟨fun _ _ => HB0.out _ F.four.be, a1, c1, a2, c2, .pointer (some ⟨wq.heap.size, 0, none⟩), rfl, F.four⟩
 rintro y w4 ⟨a1, c1, a2, c2, v4, rfl, F⟩
 clear F0 HB0 hHeld
 obtain ⟨N, cl0, up, rfl, nl, ⟨g0, g1, g2, g3⟩, gf, hBN, ns⟩ := AtP.startM F (x.y.atY (cN c)).sS (x.y.atY (cN c)).wH (cN c) x.hH
 refine wpG_one 9 rfl (by kernel_rfl) (fun K hK => ?_)
 go_simp
 refine hK.out _ _ (fun h => ?_) ?_
 ·exact absurd h (by decide)
 clear hK K
 (try simp only [List.setIfInBounds_toArray, List.set_cons_zero, List.set_cons_succ])
 refine wpG_done (by kernel_rfl) ?_ _
 have NS0 : Hid (AtP false W2.heap.size N cl0 (x.y.atK (cN c) 0 (fun _ => 0)) ((((w4.setCell ⟨N, 0, none⟩ (.slice a1 x.pn c1)).setCell ⟨N, 1, none⟩ (.slice none 0 0)).setCell ⟨N, 2, none⟩ (.slice a2 (x.pn * x.pn) c2)).setCell ⟨N, 3, none⟩ (.slice none 0 0)) (.slice a1 x.pn c1) (.slice none 0 0) (.slice a2 (x.pn * x.pn) c2) (.slice none 0 0) up (fun _ => .slice none 0 0) (fun _ => .slice none 0 0) (fun _ => .slice none 0 0) ∧ Below W2.heap.size W2 ((((w4.setCell ⟨N, 0, none⟩ (.slice a1 x.pn c1)).setCell ⟨N, 1, none⟩ (.slice none 0 0)).setCell ⟨N, 2, none⟩ (.slice a2 (x.pn * x.pn) c2)).setCell ⟨N, 3, none⟩ (.slice none 0 0))) := ⟨ns, (((F.be.setCell hBN _).setCell hBN _).setCell hBN _).setCell hBN _⟩
 clear ns g0 g1 g2 g3 gf nl F
 go_upto_region 3 with fail
 generalize ((((w4.setCell ⟨N, 0, none⟩ (.slice a1 x.pn c1)).setCell ⟨N, 1, none⟩ (.slice none 0 0)).setCell ⟨N, 2, none⟩ (.slice a2 (x.pn * x.pn) c2)).setCell ⟨N, 3, none⟩ (.slice none 0 0)) = W5 at *
 clear w4
 have HX3 : Hid (∀ wx, Below W2.heap.size W2 wx → Below w.heap.size w wx ∧ BoxC wx w.heap.size (.slice x.pa x.pn x.pc) (.slice x.sa x.sn x.sc) (.slice x.wa x.wn x.wc) (.slice x.ha x.hn x.hc) ∧ BoxC wx (w.heap.size + 1) (.slice none 0 0) (.slice none 0 0) (.slice none 0 0) (.slice none 0 0) ∧ (∀ j, wx.frozen? ⟨w.heap.size + 1, j, none⟩ = false) ∧ w.heap.size + 1 < W2.heap.size ∧ W2.heap.size ≤ wx.heap.size) := fun wx hb => ⟨BW.out.trans (hb.mono BW.out.size), NB.out.below hb, RB.out.1.below hb, fun j => ((bcell hb).2 _ j (World.block_lt_of_cell? _ _ RB.out.1.1)).trans (RB.out.2 j), World.block_lt_of_cell? _ _ RB.out.1.1, hb.size⟩
 clear BW NB RB lW HP
 go_wp2_with fail
 go_loopw [8] (fun i wr => ∃ k : Nat, k ≤ x.pn ∧ i = .int .i64 k ∧ Hid ((∃ cl vs vh us uh, AtP false W2.heap.size N cl (x.y.atK (cN c) k (fun _ => 0)) wr (.slice a1 x.pn c1) vs (.slice a2 (x.pn * x.pn) c2) vh up us (fun _ => .slice none 0 0) uh) ∧ Below W2.heap.size W2 wr)) (fun i _ => x.pn - (intOf i).toNat)
 case atStart => exact ⟨0, Nat.zero_le _, rfl, ⟨_, _, _, _, _, NS0.out.1⟩, NS0.out.2⟩
 case round =>
  clear NS0
  obtain ⟨k, hk, rfl, HZ⟩ := hrel
  by_cases hlt : k < x.pn
  ·have hlt' : (k : Int) < (x.pn : Int) := by omega
   have hlc : (k : Int) < (c.length : Int) := by have := HN.out; omega
   have hlh : (k : Int) < (x.hn : Int) := by have := HN.out; omega
   obtain ⟨hbw, ⟨b0, b1, b2, b3⟩, -, -, -, hle3⟩ := HX3.out wr HZ.out.2
   have lW : w.heap.size < wr.heap.size := World.block_lt_of_cell? _ _ b0
   obtain ⟨cb, co, rfl, lcb, cz⟩ := (HQ.out.below hbw).at (show k < c.length by have := HN.out; omega)
   rw [(HCK.out k hlt).1] at cz
   obtain ⟨bh, oh, eh, ch⟩ := (HG.out.below hbw).h.at (show k < x.hn by have := HN.out; omega)
   have lbh : bh < wr.heap.size := World.block_lt_of_cell? _ _ ch
   rw [eh] at b3
   clear eh
   have hcx := HCK.out k hlt
   have ks := slice_to (x.hA k) (x.hL k) (x.hC k) (cN c k) hcx.2.1
   have hkk : ((cN c k : Nat) : Int) ≤ 200 := by omega
   obtain ⟨⟨cl, vs, vh, us, uh, hA⟩, hbz⟩ := HZ.out
   have AP : Hid (AtP false W2.heap.size N cl (x.y.atK (cN c) k (fun _ => 0)) wr (.slice a1 x.pn c1) vs (.slice a2 (x.pn * x.pn) c2) vh up us (fun _ => .slice none 0 0) uh) := hA
   have BZ : Hid (Below W2.heap.size W2 wr ∧ Below w.heap.size w wr) := ⟨hbz, hbw⟩
   have HSE : Hid (Src wr (x.hA k) (fE (x.hH k) (cN c k))) := srcE (((HG.out.below hbw).hi k (by have := HN.out; omega)).take hcx.2.2.1)
   clear hA hbz hbw HZ hle3
   go_upto_region 6 with fail
   have q0 : Below wr.heap.size wr wr.drew := (Below.refl wr.heap.size wr).drew
   refine wp_region_G (fun w' => w'.cell? ⟨w.heap.size, 3, none⟩ = some (.slice (some ⟨bh, oh, none⟩) x.hn x.hc) ∧ w'.cell? ⟨bh, oh + k, none⟩ = some (.slice (x.hA k) (x.hL k) (x.hC k)) ∧ w'.cell? ⟨cb, co + k, none⟩ = some (.int .i64 (cN c k : Nat))) (fun _ => false) (by kernel_rfl) ?_
   have hHeld : (fun w' : World => w'.cell? ⟨w.heap.size, 3, none⟩ = some (.slice (some ⟨bh, oh, none⟩) x.hn x.hc) ∧ w'.cell? ⟨bh, oh + k, none⟩ = some (.slice (x.hA k) (x.hL k) (x.hC k)) ∧ w'.cell? ⟨cb, co + k, none⟩ = some (.int .i64 (cN c k : Nat))) wr.drew := ⟨(q0.cell (p := ⟨w.heap.size, 3, none⟩) lW).trans b3, (q0.cell (p := ⟨bh, oh + k, none⟩) lbh).trans ch, (q0.cell (p := ⟨cb, co + k, none⟩) lcb).trans cz⟩
   refine wpGT_of [1, 2, 3, 4, 5, 6, 7, 8, 9, 10] ?_
   iterate 10 (refine wpGT_take rfl hHeld ?_; apply Exists.intro; refine ⟨fun wq hSw => ?_, ?_⟩; (· ((try dsimp only at hSw); go_simp; try with_reducible rfl)); (try simp only [Act.put, List.setIfInBounds_toArray, List.set_cons_zero, List.set_cons_succ]))
   refine wpGT_nil ?_
   refine wpG_one 0 rfl (by kernel_rfl) (fun K hK => ?_)
   go_simp
   have qa : Below wr.heap.size wr (wr.drew.alloc (.cells #[] 71)) := q0.trans ((below_allocL _ _).mono q0.size)
   refine hK.out _ _ (fun _ => ⟨(qa.cell (p := ⟨w.heap.size, 3, none⟩) lW).trans b3, (qa.cell (p := ⟨bh, oh + k, none⟩) lbh).trans ch, (qa.cell (p := ⟨cb, co + k, none⟩) lcb).trans cz⟩) ?_
   clear hK K qa
   (try simp only [Act.put, List.setIfInBounds_toArray, List.set_cons_zero, List.set_cons_succ])
   refine wpG_one 11 rfl (by kernel_rfl) (fun K hK => ?_)
   refine stepR_append_srcN kndE wr.drew rfl rfl _ _ rfl (x.hA k) (cN c k) (x.hC k) (fE (x.hH k) (cN c k)) rfl rfl (fE_len _ _) (HSE.out.below q0) (fE_one _ _) (by omega) ?_
   intro v6 w6 o6 d6 n6
   obtain ⟨a6, c6, rfl⟩ := ownsRow_slice o6
   have Q6 : Hid (Below wr.heap.size wr w6 ∧ w6.ownsRow wr.heap.size 71 3 (.slice a6 (cN c k) c6) (cN c k) (fE (x.hH k) (cN c k)) ∧ Value.slice a6 (cN c k) c6 ≠ .slice none 0 0) := ⟨q0.trans (d6.mono q0.size), o6, n6⟩
   have hHeld6 : (fun w' : World => w'.cell? ⟨w.heap.size, 3, none⟩ = some (.slice (some ⟨bh, oh, none⟩) x.hn x.hc) ∧ w'.cell? ⟨bh, oh + k, none⟩ = some (.slice (x.hA k) (x.hL k) (x.hC k)) ∧ w'.cell? ⟨cb, co + k, none⟩ = some (.int .i64 (cN c k : Nat))) w6 := ⟨(Q6.out.1.cell (p := ⟨w.heap.size, 3, none⟩) lW).trans b3, (Q6.out.1.cell (p := ⟨bh, oh + k, none⟩) lbh).trans ch, (Q6.out.1.cell (p := ⟨cb, co + k, none⟩) lcb).trans cz⟩
   refine hK.out _ _ (fun _ => hHeld6) ?_
   clear hHeld hK K o6 d6 n6 q0
   have hHeld := hHeld6
   clear hHeld6
   (try simp only [Act.put, List.setIfInBounds_toArray, List.set_cons_zero, List.set_cons_succ])
   refine wpG_take 12 rfl hHeld ?_
   apply Exists.intro
   refine ⟨fun wq hSw => ?_, ?_⟩
   ·(try dsimp only at hSw)
    go_simp
    try with_reducible rfl
   (try simp only [Act.put, List.setIfInBounds_toArray, List.set_cons_zero, List.set_cons_succ])
   refine wpG_done (by kernel_rfl) ?_ _
   clear hHeld ks ch cz b0 b1 b2 b3 lbh lcb lW HSE
   obtain ⟨hb6, ⟨b0, b1, b2, b3⟩, -⟩ := HX3.out w6 (BZ.out.1.trans (Q6.out.1.mono BZ.out.1.size))
   obtain ⟨bp, op, epp, cp⟩ := (HG.out.below hb6).p.at hlt
   rw [epp] at b0
   clear epp
   have HE6 : Hid (EvL w6 a6 (cN c k) (x.hH k) ∧ Below w.heap.size w w6) := ⟨by
    obtain ⟨b, cp, e, hl, he, -⟩ := atE Q6.out.2.1 Q6.out.2.2
    simp only [Value.slice.injEq] at e
    obtain ⟨rfl, -, -⟩ := e
    exact .inr ⟨b, 0, rfl, hl, he⟩, hb6⟩
   clear hb6
   go_wp2_with fail
   refine (HR.out w6 HE6.out.2 k hlt a6 c6 HE6.out.1).mono ?_
   rintro e w7 ⟨v7, rfl, o7, q7⟩
   obtain ⟨ra1, rc1, oa1, oc1, rfl, -, -⟩ := o7.read
   clear b0 b1 b2 b3 cp
   have S7 : Hid (StOwn w7 w6.heap.size (stV ((x.y.atY (cN c)).sS k).p ra1 ((x.y.atY (cN c)).sS k).rs.length rc1 oa1 ((x.y.atY (cN c)).sS k).os.length oc1 ((x.y.atY (cN c)).sS k).c) ((x.y.atY (cN c)).sS k).p ((x.y.atY (cN c)).sS k).rs ((x.y.atY (cN c)).sS k).os ((x.y.atY (cN c)).sS k).c ∧ Below w6.heap.size w6 w7) := ⟨o7, q7⟩
   clear o7 q7 HE6
   generalize hTT : (x.y.atY (cN c)).sS k = T at *
   have HTT : Hid ((x.y.atY (cN c)).sS k = T) := hTT
   clear hTT
   generalize (repO (x.pH k) (x.pL k) (x.hH k) (cN c k)).isSome = rb at *
   have N8 : Hid (BoxC (w7.alloc (oQ1 T.p ra1 T.rs.length rc1 oa1 T.os.length oc1 T.c)) w7.heap.size (.int .i64 T.p) (.slice ra1 T.rs.length rc1) (.slice oa1 T.os.length oc1) (.int .i64 T.c) ∧ Below w6.heap.size w6 (w7.alloc (oQ1 T.p ra1 T.rs.length rc1 oa1 T.os.length oc1 T.c)) ∧ StOwn (w7.alloc (oQ1 T.p ra1 T.rs.length rc1 oa1 T.os.length oc1 T.c)) w6.heap.size (stV T.p ra1 T.rs.length rc1 oa1 T.os.length oc1 T.c) T.p T.rs T.os T.c ∧ w6.heap.size ≤ w7.heap.size) := ⟨BoxC.new w7 _ _ _ _ _, S7.out.2.trans ((below_allocL _ _).mono S7.out.2.size), S7.out.1.below (below_allocL _ _), S7.out.2.size⟩
   go_upto_region 8 with fail
   clear S7
   generalize w7.alloc (oQ1 T.p ra1 T.rs.length rc1 oa1 T.os.length oc1 T.c) = w8 at *
   generalize hS8 : w7.heap.size = S8 at *
   clear hS8 w7
   obtain ⟨sa, sc, rfl⟩ := ownsRow_slice AP.out.o.s.row
   obtain ⟨ha, hc, rfl⟩ := ownsRow_slice AP.out.o.h.row
   have Q8 : Hid (Below wr.heap.size wr w8) := Q6.out.1.trans (N8.out.2.1.mono Q6.out.1.size)
   obtain ⟨x0, x1, x2, x3⟩ := (AP.out.below Q8.out).bx
   have hk2 : Hid (k ≤ 2000000) := by show k ≤ 2000000; omega
   have lN8 : N < w8.heap.size := World.block_lt_of_cell? _ _ x0
   go_upto_region 9 with (at_builtin; refine step_append_val kndEE w8 rfl rfl _ _ rfl 0 (.slice ha k hc) k _ rfl (AP.out.o.h.below Q8.out).row #[.slice a6 (cN c k) c6] rfl rfl (by intro u hu; simp at hu; subst hu; rfl) hk2.out (Nat.zero_le _) ?_; intro v9 w9 o9 g9 q9 n9; obtain ⟨a9, c9, rfl⟩ := ownsRow_slice o9; obtain ⟨⟨z0, z1, z2, z3⟩, zf⟩ := AP.out.box Q8.out g9 (fun k hk => (AP.out.gH k hk).2); have F9 : Hid (w9.ownsRow 0 35 1 (.slice a9 (k + 1) c9) (k + 1) ((List.range k).map uh ++ [.slice a6 (cN c k) c6]) ∧ w8.grownBy w9 (Value.slice ha k hc).ownBlock ∧ (∀ j, (Value.slice a9 (k + 1) c9).ownBlock = some j → (Value.slice ha k hc).ownBlock = some j ∨ w8.heap.size ≤ j)) := ⟨o9, g9, q9⟩; clear o9 g9 q9 n9)
   have BX : Hid (BoxC (w9.setCell ⟨N, 3, none⟩ (.slice a9 (k + 1) c9)) N (.slice a1 x.pn c1) (.slice sa k sc) (.slice a2 (x.pn * x.pn) c2) (.slice a9 (k + 1) c9) ∧ (∀ j, (w9.setCell ⟨N, 3, none⟩ (.slice a9 (k + 1) c9)).frozen? ⟨N, j, none⟩ = false) ∧ BoxC (w9.setCell ⟨N, 3, none⟩ (.slice a9 (k + 1) c9)) S8 (.int .i64 T.p) (.slice ra1 T.rs.length rc1) (.slice oa1 T.os.length oc1) (.int .i64 T.c) ∧ (w9.setCell ⟨N, 3, none⟩ (.slice a9 (k + 1) c9)).ownsRow 0 39 4 (.slice sa k sc) k (flat (fun i => cellsL (us i)) k) ∧ Below W2.heap.size W2 (w9.setCell ⟨N, 3, none⟩ (.slice a9 (k + 1) c9))) := by
    have hNw : N < wr.heap.size := AP.out.lt
    have hS8 : wr.heap.size ≤ S8 := Nat.le_trans Q6.out.1.size N8.out.2.2.2
    have sw8 := Q8.out.size
    refine ⟨⟨(World.cell?_setCell_other _ _ _ _ (by simp)).trans z0, (World.cell?_setCell_other _ _ _ _ (by simp)).trans z1, (World.cell?_setCell_other _ _ _ _ (by simp)).trans z2, World.cell?_setCell_same _ _ _ z3⟩, fun j => (World.frozen?_setCell _ _ _ _).trans (zf j), N8.out.1.blkA ?_, ownsRow_blkL (AP.out.o.s.below Q8.out).row fun j hj => ?_, ?_⟩
    ·exact (Below.heap_setCell _ _ _ _ (fun e => by have e2 : S8 = N := e; omega)).trans (F9.out.2.1.block S8 (World.block_lt_of_cell? _ _ N8.out.1.1) fun e => by
      have := (AP.out.o.h.row.lt S8 e.symm).2
      omega)
    ·have hl := (AP.out.o.s.row.lt j hj).2
     have hcj : cl j = 2 := (AP.out.o.s.rb j hj).2
     exact (Below.heap_setCell _ _ _ _ fun e => by
      rw [e, AP.out.cN] at hcj
      cases hcj).trans (F9.out.2.1.block j (by omega) fun e => by
      have := (AP.out.o.h.rb j e.symm).2
      rw [hcj] at this
      cases this)
    ·exact (Below.grown (BZ.out.1.trans (Q8.out.mono BZ.out.1.size)) F9.out.2.1 (Nat.le_trans BZ.out.1.size Q8.out.size) (fun j hj => (AP.out.gH j hj).1)).setCell AP.out.bN _
   clear z0 z1 z2 z3 zf x0 x1 x2 x3 lN8
   generalize hW9 : w9.setCell ⟨N, 3, none⟩ (.slice a9 (k + 1) c9) = W9 at *
   have HW9 : Hid (w9.setCell ⟨N, 3, none⟩ (.slice a9 (k + 1) c9) = W9) := hW9
   clear hW9
   obtain ⟨x0, x1, x2, x3⟩ := BX.out.1
   obtain ⟨s0, s1, s2, s3⟩ := BX.out.2.2.1
   have lN9 : N < W9.heap.size := World.block_lt_of_cell? _ _ x0
   have lS9 : S8 < W9.heap.size := World.block_lt_of_cell? _ _ s0
   go_wp2_with (at_builtin; refine step_append_val kndS W9 rfl rfl _ _ rfl 0 (.slice sa k sc) k _ rfl BX.out.2.2.2.1 #[.int .i64 T.p, .slice ra1 T.rs.length rc1, .slice oa1 T.os.length oc1, .int .i64 T.c] rfl rfl (by intro u hu; simp at hu; rcases hu with rfl | rfl | rfl | rfl <;> rfl) hk2.out (Nat.zero_le _) ?_; intro v10 w10 o10 g10 q10 n10; obtain ⟨a10, c10, rfl⟩ := ownsRow_slice o10; have eN := g10.block N lN9 (fun e => (AP.out.gS N e.symm).2 AP.out.cN); have y1 := (World.cell?_of_block (a := ⟨N, 1, none⟩) eN).trans x1; have yf := (World.frozen?_of_block (a := ⟨N, 1, none⟩) eN).trans (BX.out.2.1 1); have F10 : Hid ((∃ cl', AtP false W2.heap.size N cl' (x.y.atK (cN c) (k + 1) (fun _ => 0)) (w10.setCell ⟨N, 1, none⟩ (.slice a10 (k + 1) c10)) (.slice a1 x.pn c1) (.slice a10 (k + 1) c10) (.slice a2 (x.pn * x.pn) c2) (.slice a9 (k + 1) c9) up (fun j => if j = k then stV T.p ra1 T.rs.length rc1 oa1 T.os.length oc1 T.c else us j) (fun _ => .slice none 0 0) (fun j => if j = k then .slice a6 (cN c k) c6 else uh j)) ∧ Below W2.heap.size W2 (w10.setCell ⟨N, 1, none⟩ (.slice a10 (k + 1) c10))) := ⟨AP.out.both Q6.out.1 Q6.out.2.1 Q6.out.2.2 N8.out.2.1 (by show StOwn w8 w6.heap.size _ ((x.y.atY (cN c)).sS k).p ((x.y.atY (cN c)).sS k).rs ((x.y.atY (cN c)).sS k).os ((x.y.atY (cN c)).sS k).c; rw [HTT.out]; exact N8.out.2.2.1) F9.out.1 F9.out.2.1 F9.out.2.2 o10 (by rw [HW9.out]; exact g10) (by rw [HW9.out]; exact q10), (Below.grown BX.out.2.2.2.2 g10 BX.out.2.2.2.2.size (fun j hj => (AP.out.gS j hj).1)).setCell AP.out.bN _⟩; clear o10 g10 q10 n10)
   go_roundw
   case rel =>
    obtain ⟨cl', h10⟩ := F10.out.1
    first | exact ⟨k + 1, by omega, by go_num, ⟨cl', _, _, _, _, h10⟩, F10.out.2⟩ | exact ⟨.int .i64 ((k + 1 : Nat) : Int), _, _, _, ⟨k + 1, (by have := HN.out; omega), rfl, ⟨cl', _, _, _, _, h10⟩, F10.out.2⟩, by simp, rfl, rfl, rfl⟩
   case measure => simp [intOf]; omega
  ·have hkn : k = x.pn := by omega
   subst hkn
   obtain ⟨⟨cl, vs, vh, us, uh, hA⟩, hbz⟩ := HZ.out
   obtain ⟨sa, sc, rfl⟩ := ownsRow_slice hA.o.s.row
   obtain ⟨ha, hc, rfl⟩ := ownsRow_slice hA.o.h.row
   obtain ⟨gw, gc, egw, -⟩ := hA.o.t.cell (i := 0) (by show 0 < x.pn * x.pn; have := HN.out; exact Nat.mul_pos (by omega) (by omega))
   simp only [Value.slice.injEq] at egw
   obtain ⟨rfl, -, -⟩ := egw
   obtain ⟨gh, gc2, egh, -⟩ := hA.o.h.cell (i := 0) (by show 0 < x.pn; have := HN.out; omega)
   simp only [Value.slice.injEq] at egh
   obtain ⟨rfl, -, -⟩ := egh
   have A0 : Hid (AtP false W2.heap.size N cl (x.y.atK (cN c) x.pn (wlN (x.y.atY (cN c)).wL (0 * x.pn) 0)) (wr) (.slice a1 x.pn c1) (.slice sa x.pn sc) (.slice (some ⟨gw, 0, none⟩) (x.pn * x.pn) c2) (.slice (some ⟨gh, 0, none⟩) x.pn hc) up us (fun _ => .slice none 0 0) uh ∧ Below W2.heap.size W2 wr) := ⟨by rw [Nat.zero_mul, wlN_zero]; exact hA, hbz⟩
   clear hA hbz HZ HR HQ
   go_wp2_with fail
   go_loopw [12] (fun i wr => ∃ k : Nat, k ≤ x.pn ∧ i = .int .i64 k ∧ Hid ((∃ cl uw, AtP false W2.heap.size N cl (x.y.atK (cN c) x.pn (wlN (x.y.atY (cN c)).wL (k * x.pn) 0)) wr (.slice a1 x.pn c1) (.slice sa x.pn sc) (.slice (some ⟨gw, 0, none⟩) (x.pn * x.pn) c2) (.slice (some ⟨gh, 0, none⟩) x.pn hc) up us uw uh) ∧ Below W2.heap.size W2 wr) ∧ Hid (∀ a, a < k → ∀ b, b < x.pn → (wyL (x.y.ah (cN c)) a b).length ≤ 12)) (fun i _ => x.pn - (intOf i).toNat)
   case atStart => exact ⟨0, Nat.zero_le _, rfl, ⟨⟨_, _, A0.out.1⟩, A0.out.2⟩, fun j hj => by omega⟩
   case round =>
    clear A0
    obtain ⟨k, hk, rfl, HZ, HK⟩ := hrel
    by_cases hlt : k < x.pn
    ·have hlt' : (k : Int) < (x.pn : Int) := by omega
     go_wp2_with fail
     go_loopw [13] (fun i wr => ∃ l : Nat, l ≤ x.pn ∧ i = .int .i64 l ∧ Hid ((∃ cl uw, AtP false W2.heap.size N cl (x.y.atK (cN c) x.pn (wlN (x.y.atY (cN c)).wL (k * x.pn + l) 0)) wr (.slice a1 x.pn c1) (.slice sa x.pn sc) (.slice (some ⟨gw, 0, none⟩) (x.pn * x.pn) c2) (.slice (some ⟨gh, 0, none⟩) x.pn hc) up us uw uh) ∧ Below W2.heap.size W2 wr) ∧ Hid (∀ b, b < l → (wyL (x.y.ah (cN c)) k b).length ≤ 12)) (fun i _ => x.pn - (intOf i).toNat)
     case atStart => exact ⟨0, Nat.zero_le _, rfl, HZ.out, fun j hj => by omega⟩
     case round =>
      clear HZ
      obtain ⟨l, hl, rfl, HZ, HJ⟩ := hrel
      by_cases hll : l < x.pn
      ·have hll' : (l : Int) < (x.pn : Int) := by omega
       obtain ⟨m, hm⟩ : ∃ m, m = k * x.pn + l := ⟨_, rfl⟩
       obtain ⟨ap, hap⟩ : ∃ ap, ap = k * x.pn := ⟨_, rfl⟩
       have hap' : (k : Int) * (x.pn : Int) = (ap : Int) := by rw [hap]; simp
       have hmp : ap + l = m := by omega
       have hm16 : m < x.pn * x.pn := by
        have := Nat.mul_le_mul (show k + 1 ≤ x.pn by omega) (Nat.le_refl x.pn)
        rw [Nat.add_mul, Nat.one_mul] at this
        omega
       have hmN : m < NN := by rw [HNN.out]; exact hm16
       have hm16' : (m : Int) < ((x.pn * x.pn : Nat) : Int) := by omega
       have hp16 : x.pn * x.pn ≤ 16 := Nat.le_trans (Nat.mul_le_mul HN.out.2.2.1 HN.out.2.2.1) (by omega)
       have hap4 : ap ≤ 16 := by omega
       have HM : Hid (m = k * x.pn + l) := hm
       rw [← hm] at HZ
       clear hm hap
       obtain ⟨⟨cl, uw, hA⟩, hbz⟩ := HZ.out
       have AP : Hid (AtP false W2.heap.size N cl (x.y.atK (cN c) x.pn (wlN (x.y.atY (cN c)).wL m 0)) wr (.slice a1 x.pn c1) (.slice sa x.pn sc) (.slice (some ⟨gw, 0, none⟩) (x.pn * x.pn) c2) (.slice (some ⟨gh, 0, none⟩) x.pn hc) up us uw uh) := hA
       have BZ : Hid (Below W2.heap.size W2 wr) := hbz
       have HGW : Hid (gw < wr.heap.size) := (hA.o.t.cellG (i := m) hm16).2.2.1
       obtain ⟨x0, x1, x2, x3⟩ := hA.bx
       obtain ⟨ea, ec, eu, hev⟩ := evl_own (hA.o.h.own k hlt)
       obtain ⟨fa, fc, fu, hfv⟩ := evl_own (hA.o.h.own l hll)
       have ch := (hA.o.h.cellG (i := k) hlt).1
       have cf := (hA.o.h.cellG (i := l) hll).1
       have lgh := (hA.o.h.cellG (i := k) hlt).2.2.1
       rw [eu] at ch
       rw [fu] at cf
       have lN := hA.lt
       have EV : Hid (EvL wr ea (cN c k) (x.hH k) ∧ EvL wr fa (cN c l) (x.hH l)) := ⟨hev, hfv⟩
       clear hA hbz HZ hev hfv eu fu
       have ch : wr.cell? ⟨gh, k, none⟩ = some (.slice ea (cN c k) ec) := ch
       have cf : wr.cell? ⟨gh, l, none⟩ = some (.slice fa (cN c l) fc) := cf
       go_wp2_with fail
       refine (specValues_l ea (cN c k) ec (x.hH k) 2 l wr (by have := HCK.out k hlt; omega) EV.out.1).mono ?_
       rintro e w16 ⟨v16, rfl, o16, q16⟩
       obtain ⟨sa1, sc1, rfl, -⟩ := o16.form
       have Q16 : Hid (OwnI w16 wr.heap.size (.slice sa1 (valL (x.hH k) 2 l (cN c k)).length sc1) (valL (x.hH k) 2 l (cN c k)) ∧ Below wr.heap.size wr w16) := ⟨o16, q16⟩
       have y3 := (q16.cell (p := ⟨N, 3, none⟩) lN).trans x3
       have cf := (q16.cell (p := ⟨gh, l, none⟩) lgh).trans cf
       clear o16 q16 x0 x1 x2 x3 ch
       go_wp2_with fail
       refine (specCount_l fa (cN c l) fc (x.hH l) 3 k w16 (by have := HCK.out l hll; omega) (EV.out.2.below Q16.out.2)).mono ?_
       rintro e w17 ⟨rfl, q17⟩
       clear y3 cf lgh EV
       have hsl : (valL (x.hH k) 2 l (cN c k)).length ≤ 200 := by
        rw [valL_length]
        have h1 := plN_le (x.hH k) 2 l (cN c k)
        have h2 := HCK.out k hlt
        omega
       have htl : (plN (x.hH l) 3 k (cN c l)).length ≤ 200 := by
        have h1 := plN_le (x.hH l) 3 k (cN c l)
        have h2 := HCK.out l hll
        omega
       have HWY : Hid ((x.y.atY (cN c)).wL m = ((valL (x.hH k) 2 l (cN c k)).drop (plN (x.hH l) 3 k (cN c l)).length).length ∧ (x.y.atY (cN c)).wH m = itL ((valL (x.hH k) 2 l (cN c k)).drop (plN (x.hH l) 3 k (cN c l)).length) ∧ wyL (x.y.ah (cN c)) k l = (valL (x.hH k) 2 l (cN c k)).drop (plN (x.hH l) 3 k (cN c l)).length) := by
        have e1 := wy_at (a := k) hll
        rw [← HM.out] at e1
        refine ⟨?_, ?_, rfl⟩
        ·show (wyL (x.y.ah (cN c)) (m / x.pn) (m % x.pn)).length = _
         rw [e1.1, e1.2]
         rfl
        ·show itL (wyL (x.y.ah (cN c)) (m / x.pn) (m % x.pn)) = _
         rw [e1.1, e1.2]
         rfl
       have HC : Hid (∀ j, j < (valL (x.hH k) 2 l (cN c k)).length → ∃ g0, sa1 = some ⟨g0, 0, none⟩ ∧ wr.heap.size ≤ g0 ∧ g0 < w17.heap.size ∧ w17.cell? ⟨g0, j, none⟩ = some (.int .i64 (zi (valL (x.hH k) 2 l (cN c k)) j))) := fun j hj => by
        have o := Q16.out.1.below q17
        obtain ⟨g0, cp, e, h1, h2⟩ := o.block (by omega)
        simp only [Value.slice.injEq] at e
        obtain ⟨rfl, -, rfl⟩ := e
        exact ⟨g0, rfl, h1, h2, o.cell hj⟩
       have Q17 : Hid (Below wr.heap.size wr w17) := Q16.out.2.trans (q17.mono Q16.out.2.size)
       clear q17 Q16
       generalize valL (x.hH k) 2 l (cN c k) = sent at *
       generalize (plN (x.hH l) 3 k (cN c l)).length = tk at *
       have hsl' : (sent.length : Int) ≤ 200 := by omega
       have htl' : (tk : Int) ≤ 200 := by omega
       go_wp2_with fail
       have HSR0 : ∃ SR, SR = wr.heap.size := ⟨_, rfl⟩
       obtain ⟨SR, hSR⟩ := HSR0
       have HSR : Hid (SR = wr.heap.size) := hSR
       rw [← hSR] at HC HGW
       clear hSR
       go_loopw [16] (fun i w' => ∃ j : Nat, j ≤ (sent.drop tk).length ∧ i = .int .i64 ((tk + j : Nat) : Int) ∧ Hid ((∃ cl uw, AtP false W2.heap.size N cl (x.y.atK (cN c) x.pn (wlN (x.y.atY (cN c)).wL m j)) w' (.slice a1 x.pn c1) (.slice sa x.pn sc) (.slice (some ⟨gw, 0, none⟩) (x.pn * x.pn) c2) (.slice (some ⟨gh, 0, none⟩) x.pn hc) up us uw uh ∧ ∀ b, (uw m).ownBlock = some b → b < SR ∨ w17.heap.size ≤ b) ∧ Below W2.heap.size W2 w' ∧ w17.heap.size ≤ w'.heap.size ∧ ∀ b, SR ≤ b → b < w17.heap.size → w'.heap[b]? = w17.heap[b]?)) (fun i _ => sent.length - (intOf i).toNat)
       case atStart => exact ⟨0, Nat.zero_le _, rfl, ⟨_, _, AP.out.below Q17.out, fun b hb => .inl (by rw [HSR.out]; exact ((AP.out.o.t.own m hm16).lt b hb).2)⟩, BZ.out.trans (Q17.out.mono BZ.out.size), Nat.le_refl _, fun _ _ _ => rfl⟩
       case round =>
        clear AP
        obtain ⟨j, hj, rfl, HD⟩ := hrel
        generalize hti : tk + j = ti at *
        have HTI : Hid (tk + j = ti) := hti
        clear hti
        have hdl : (sent.drop tk).length = sent.length - tk := List.length_drop
        by_cases htj : ti < sent.length
        ·have htj' : (ti : Int) < (sent.length : Int) := by omega
         obtain ⟨g0, rfl, hg1, hg2, cg⟩ := HC.out ti htj
         obtain ⟨⟨cl, uw, hA, huw⟩, hbw, hsw, hkp⟩ := HD.out
         have AP : Hid (AtP false W2.heap.size N cl (x.y.atK (cN c) x.pn (wlN (x.y.atY (cN c)).wL m j)) wr (.slice a1 x.pn c1) (.slice sa x.pn sc) (.slice (some ⟨gw, 0, none⟩) (x.pn * x.pn) c2) (.slice (some ⟨gh, 0, none⟩) x.pn hc) up us uw uh) := hA
         have HU : Hid ((∀ b, (uw m).ownBlock = some b → b < SR ∨ w17.heap.size ≤ b) ∧ Below W2.heap.size W2 wr ∧ w17.heap.size ≤ wr.heap.size ∧ ∀ b, SR ≤ b → b < w17.heap.size → wr.heap[b]? = w17.heap[b]?) := ⟨huw, hbw, hsw, hkp⟩
         obtain ⟨um, uc, eum⟩ := ownsRow_slice (hA.o.t.own m hm16)
         have eum : uw m = .slice um j uc := by
          rw [eum]
          show Value.slice um (wlN (x.y.atY (cN c)).wL m j m) uc = _
          rw [wlN_at]
         have OM : Hid (wr.ownsRow 0 126 2 (.slice um j uc) j (fT ((x.y.atY (cN c)).wH m) j)) := by
          have h := hA.o.t.own m hm16
          rw [eum] at h
          have h : wr.ownsRow 0 126 2 (.slice um j uc) (wlN (x.y.atY (cN c)).wL m j m) (fT ((x.y.atY (cN c)).wH m) (wlN (x.y.atY (cN c)).wL m j m)) := h
          rw [wlN_at] at h
          exact h
         have hcw := (hA.o.t.cellG (i := m) hm16)
         rw [eum] at hcw
         have HEU : Hid (uw m = .slice um j uc) := eum
         obtain ⟨cw, hgw, lgw, fgw⟩ := hcw
         obtain ⟨x0, x1, x2, x3⟩ := hA.bx
         have lN := hA.lt
         have lg0 : g0 < wr.heap.size := by omega
         have cg : wr.cell? ⟨g0, ti, none⟩ = some (.int .i64 (zi sent ti)) := (World.cell?_of_block (hkp g0 hg1 hg2)).trans cg
         have HVE : Hid (zi sent ti = ((x.y.atY (cN c)).wH m j).v ∧ ((x.y.atY (cN c)).wH m j).m = false) := by
          rw [HWY.out.2.1]
          exact ⟨by rw [← HTI.out]; exact (zi_drop _ _ _).symm, rfl⟩
         clear hA huw hbw hsw hkp HD eum
         go_upto_region 21 with fail
         have q0 : Below wr.heap.size wr wr.drew := (Below.refl wr.heap.size wr).drew
         refine wp_region_G (fun w' => w'.cell? ⟨N, 2, none⟩ = some (.slice (some ⟨gw, 0, none⟩) (x.pn * x.pn) c2) ∧ w'.cell? ⟨gw, m, none⟩ = some (.slice um j uc) ∧ w'.cell? ⟨g0, ti, none⟩ = some (.int .i64 (zi sent ti))) (fun i => i == 24) (by kernel_rfl) ?_
         have hHeld : (fun w' : World => w'.cell? ⟨N, 2, none⟩ = some (.slice (some ⟨gw, 0, none⟩) (x.pn * x.pn) c2) ∧ w'.cell? ⟨gw, m, none⟩ = some (.slice um j uc) ∧ w'.cell? ⟨g0, ti, none⟩ = some (.int .i64 (zi sent ti))) wr.drew := ⟨(q0.cell (p := ⟨N, 2, none⟩) lN).trans x2, (q0.cell (p := ⟨gw, m, none⟩) lgw).trans cw, (q0.cell (p := ⟨g0, ti, none⟩) lg0).trans cg⟩
         refine wpGT_of [0, 1, 2, 3] ?_
         iterate 4 (refine wpGT_take rfl hHeld ?_; apply Exists.intro; refine ⟨fun wq hSw => ?_, ?_⟩; (· ((try dsimp only at hSw); go_simp; try with_reducible rfl)); (try simp only [Act.put, List.setIfInBounds_toArray, List.set_cons_zero, List.set_cons_succ]))
         refine wpGT_nil ?_
         refine wpG_take 4 rfl hHeld ⟨.int .i64 (ap : Int), fun wq _ => ?_, ?_⟩
         ·go_simp
          try (rw [IntKind.wrap_i64]; omega)
         (try simp only [Act.put, List.setIfInBounds_toArray, List.set_cons_zero, List.set_cons_succ])
         refine wpG_take 5 rfl hHeld ?_
         apply Exists.intro
         refine ⟨fun wq hSw => ?_, ?_⟩
         ·(try dsimp only at hSw)
          go_simp
          try with_reducible rfl
         (try simp only [Act.put, List.setIfInBounds_toArray, List.set_cons_zero, List.set_cons_succ])
         refine wpG_take 6 rfl hHeld ⟨.int .i64 (m : Int), fun wq _ => ?_, ?_⟩
         ·go_simp
          try (rw [IntKind.wrap_i64]; omega)
         (try simp only [Act.put, List.setIfInBounds_toArray, List.set_cons_zero, List.set_cons_succ])
         refine wpGT_of [7, 8, 9, 10] ?_
         iterate 4 (refine wpGT_take rfl hHeld ?_; apply Exists.intro; refine ⟨fun wq hSw => ?_, ?_⟩; (· ((try dsimp only at hSw); go_simp; try with_reducible rfl)); (try simp only [Act.put, List.setIfInBounds_toArray, List.set_cons_zero, List.set_cons_succ]))
         refine wpGT_nil ?_
         refine wpG_take 11 rfl hHeld ⟨.int .i64 (ap : Int), fun wq _ => ?_, ?_⟩
         ·go_simp
          try (rw [IntKind.wrap_i64]; omega)
         (try simp only [Act.put, List.setIfInBounds_toArray, List.set_cons_zero, List.set_cons_succ])
         refine wpG_take 12 rfl hHeld ?_
         apply Exists.intro
         refine ⟨fun wq hSw => ?_, ?_⟩
         ·(try dsimp only at hSw)
          go_simp
          try with_reducible rfl
         (try simp only [Act.put, List.setIfInBounds_toArray, List.set_cons_zero, List.set_cons_succ])
         refine wpG_take 13 rfl hHeld ⟨.int .i64 (m : Int), fun wq _ => ?_, ?_⟩
         ·go_simp
          try (rw [IntKind.wrap_i64]; omega)
         (try simp only [Act.put, List.setIfInBounds_toArray, List.set_cons_zero, List.set_cons_succ])
         refine wpGT_of [14, 15, 16, 17, 18, 19, 20] ?_
         iterate 7 (refine wpGT_take rfl hHeld ?_; apply Exists.intro; refine ⟨fun wq hSw => ?_, ?_⟩; (· ((try dsimp only at hSw); go_simp; try with_reducible rfl)); (try simp only [Act.put, List.setIfInBounds_toArray, List.set_cons_zero, List.set_cons_succ]))
         refine wpGT_nil ?_
         refine wpG_one 21 rfl (by kernel_rfl) (fun K hK => ?_)
         go_simp
         have qa : Below wr.heap.size wr (wr.drew.alloc (.cells #[.bool false, .int .i64 (zi sent ti)] 126)) := q0.trans ((below_allocL _ _).mono q0.size)
         refine hK.out _ _ (fun _ => ⟨(qa.cell (p := ⟨N, 2, none⟩) lN).trans x2, (qa.cell (p := ⟨gw, m, none⟩) lgw).trans cw, (qa.cell (p := ⟨g0, ti, none⟩) lg0).trans cg⟩) ?_
         clear hK K qa hHeld
         (try simp only [Act.put, List.setIfInBounds_toArray, List.set_cons_zero, List.set_cons_succ])
         refine wpG_one 22 rfl (by kernel_rfl) (fun K hK => ?_)
         refine stepR_append_val kndT wr.drew rfl rfl _ _ rfl 0 (.slice um j uc) j _ rfl (ownsRow_blkL OM.out fun b hb => q0.block b (OM.out.lt b hb).2) #[.bool false, .int .i64 (zi sent ti)] rfl rfl (by intro u hu; simp at hu; rcases hu with rfl | rfl <;> rfl) (by omega) (Nat.zero_le _) ?_
         intro v22 w22 o22 g22 p22 n22
         obtain ⟨a22, c22, rfl⟩ := ownsRow_slice o22
         have e22 : ∀ b, b < wr.heap.size → (Value.slice um j uc).ownBlock ≠ some b → w22.heap[b]? = wr.heap[b]? := fun b hb hne => (g22.block b (Nat.lt_of_lt_of_le hb q0.size) (Ne.symm hne)).trans (q0.block b hb)
         have eN : w22.heap[N]? = wr.heap[N]? := e22 N lN fun e => by
          have := (AP.out.o.t.ob m hm16 N (by rw [HEU.out]; exact e)).2
          rw [AP.out.cN] at this
          cases this
         have eG : w22.heap[gw]? = wr.heap[gw]? := e22 gw lgw fun e => AP.out.o.t.ra m hm16 gw (by rw [HEU.out]; exact e) rfl
         have e0 : w22.heap[g0]? = wr.heap[g0]? := e22 g0 lg0 fun e => by
          rcases HU.out.1 g0 (by rw [HEU.out]; exact e) with h | h <;> omega
         have F22 : Hid ((∃ cl uw, AtP false W2.heap.size N cl (x.y.atK (cN c) x.pn (wlN (x.y.atY (cN c)).wL m (j + 1))) (w22.setCell ⟨gw, m, none⟩ (.slice a22 (j + 1) c22)) (.slice a1 x.pn c1) (.slice sa x.pn sc) (.slice (some ⟨gw, 0, none⟩) (x.pn * x.pn) c2) (.slice (some ⟨gh, 0, none⟩) x.pn hc) up us uw uh ∧ ∀ b, (uw m).ownBlock = some b → b < SR ∨ w17.heap.size ≤ b) ∧ Below W2.heap.size W2 (w22.setCell ⟨gw, m, none⟩ (.slice a22 (j + 1) c22)) ∧ w17.heap.size ≤ (w22.setCell ⟨gw, m, none⟩ (.slice a22 (j + 1) c22)).heap.size ∧ ∀ b, SR ≤ b → b < w17.heap.size → (w22.setCell ⟨gw, m, none⟩ (.slice a22 (j + 1) c22)).heap[b]? = w17.heap[b]?) := by
          have s22 : wr.heap.size ≤ w22.heap.size := Nat.le_trans q0.size g22.size
          have hs17 := HU.out.2.2.1
          have hgw := HGW.out
          have hfu : w22.ownsRow 0 126 2 (.slice a22 (j + 1) c22) (j + 1) (fT ((x.y.atY (cN c)).wH m) (j + 1)) := by
           have e : fT ((x.y.atY (cN c)).wH m) (j + 1) = fT ((x.y.atY (cN c)).wH m) j ++ [.bool false, .int .i64 (zi sent ti)] := by
            rw [HVE.out.1, ← HVE.out.2]
            rfl
           rw [e]
           exact o22
          have hA := AP.out.putW (w1 := w22) (u' := .slice a22 (j + 1) c22) (m := j + 1) (H' := (x.y.atY (cN c)).wH m) hm16 s22 (fun b hb hne => e22 b hb (by rw [← HEU.out]; exact hne)) hfu n22 (fun b hb => by
           rcases p22 b hb with h | h
           ·exact .inl (by rw [HEU.out]; exact h)
           ·exact .inr h)
          rw [atK_setW] at hA
          refine ⟨⟨_, _, hA, fun b hb => ?_⟩, ?_, ?_, fun b h1 h2 => ?_⟩
          ·simp only [if_true] at hb
           rcases p22 b hb with h | h
           ·exact HU.out.1 b (by rw [HEU.out]; exact h)
           ·exact .inr (Nat.le_trans hs17 h)
          ·exact (Below.grown (HU.out.2.1.trans (q0.mono HU.out.2.1.size)) g22 (Nat.le_trans HU.out.2.1.size q0.size) (fun b hb => (AP.out.o.t.ob m hm16 b (by rw [HEU.out]; exact hb)).1)).setCell (AP.out.o.t.rb gw rfl).1 _
          ·rw [World.size_setCell]
           omega
          ·refine ((Below.heap_setCell _ _ _ _ (fun e => by have e2 : b = gw := e; omega)).trans (e22 b (by omega) fun e => ?_)).trans (HU.out.2.2.2 b h1 h2)
           rcases HU.out.1 b (by rw [HEU.out]; exact e) with h | h <;> omega
         have d2 := (World.cell?_of_block (a := ⟨N, 2, none⟩) eN).trans x2
         have dw := (World.cell?_of_block (a := ⟨gw, m, none⟩) eG).trans cw
         have d0 := (World.cell?_of_block (a := ⟨g0, ti, none⟩) e0).trans cg
         have fw := (World.frozen?_of_block (a := ⟨gw, m, none⟩) eG).trans (fgw m)
         refine hK.out _ _ (fun _ => ⟨d2, dw, d0⟩) ?_
         clear o22 g22 p22 n22 hK K e22 eN eG e0 x0 x1 x2 x3 cw cg fgw
         (try simp only [Act.put, List.setIfInBounds_toArray, List.set_cons_zero, List.set_cons_succ])
         have hHeld : (fun w' : World => w'.cell? ⟨N, 2, none⟩ = some (.slice (some ⟨gw, 0, none⟩) (x.pn * x.pn) c2) ∧ w'.cell? ⟨gw, m, none⟩ = some (.slice um j uc) ∧ w'.cell? ⟨g0, ti, none⟩ = some (.int .i64 (zi sent ti))) w22 := ⟨d2, dw, d0⟩
         refine wpG_take 23 rfl hHeld ?_
         apply Exists.intro
         refine ⟨fun wq hSw => ?_, ?_⟩
         ·(try dsimp only at hSw)
          go_simp
          try with_reducible rfl
         (try simp only [Act.put, List.setIfInBounds_toArray, List.set_cons_zero, List.set_cons_succ])
         refine wpG_one 24 rfl (by kernel_rfl) (fun K hK => ?_)
         go_simp
         refine hK.out _ _ (fun h => ?_) ?_
         ·exact absurd h (by decide)
         clear hK K d2 dw d0 fw q0 lN lgw lg0 hgw AP HU OM HEU
         (try simp only [Act.put])
         refine wpG_done (by kernel_rfl) ?_ _
         go_wp2
         go_roundw
         case rel => exact ⟨j + 1, by have := HTI.out; omega, by have h := HTI.out; rw [← Nat.add_assoc, h]; go_num, F22.out⟩
         case measure => simp [intOf]; omega
        ·have htj' : ¬ (ti : Int) < (sent.length : Int) := by omega
         have hjl : j = (x.y.atY (cN c)).wL m := by
          rw [HWY.out.1]
          have := HTI.out
          omega
         have hwl : (wyL (x.y.ah (cN c)) k l).length = sent.length - tk := by rw [HWY.out.2.2]; exact hdl
         obtain ⟨⟨cl, uw, hA, -⟩, hbw, -, -⟩ := HD.out
         rw [hjl, wlN_next] at hA
         have AP : Hid (AtP false W2.heap.size N cl (x.y.atK (cN c) x.pn (wlN (x.y.atY (cN c)).wL (m + 1) 0)) wr (.slice a1 x.pn c1) (.slice sa x.pn sc) (.slice (some ⟨gw, 0, none⟩) (x.pn * x.pn) c2) (.slice (some ⟨gh, 0, none⟩) x.pn hc) up us uw uh ∧ Below W2.heap.size W2 wr) := ⟨hA, hbw⟩
         clear hA hbw HD hjl
         by_cases h12 : 12 < (wyL (x.y.ah (cN c)) k l).length
         ·have h12' : (12 : Int) < (sent.length : Int) - (tk : Int) := by omega
          have HV : Hid (wf = false ∧ YW = x.y.nil) := by
           have e : wf = false := by
            rw [HWF.out]
            exact qB_false fun h => by
             have := h k hlt l hll
             omega
           refine ⟨e, ?_⟩
           rw [HYW.out, e]
           rfl
          obtain ⟨hbw, -, ⟨r0, r1, r2, r3⟩, rf, -, -⟩ := HX3.out wr AP.out.2
          have BW : Hid (Below w.heap.size w wr) := hbw
          clear hbw
          go_wp2
          exact bodyPost_ret (v := .tuple #[sysV none 0 0 none 0 0 none 0 0 none 0 0, .bool false]) (by simp [results, Tryz.results60, go_sem, r0, r1, r2, r3]) rfl ⟨_, by rw [HV.out.1], by rw [HV.out.2]; exact OwnSys.zero _ _ _, (((BW.out.setCell hM _).setCell hM _).setCell hM _).setCell hM _⟩
         ·have h12' : ¬ (12 : Int) < (sent.length : Int) - (tk : Int) := by omega
          have HJ' : Hid (∀ b, b < l + 1 → (wyL (x.y.ah (cN c)) k b).length ≤ 12) := fun b hb => by
           by_cases e : b = l
           ·subst e
            omega
           ·exact HJ.out b (by omega)
          have AP2 : Hid ((∃ cl uw, AtP false W2.heap.size N cl (x.y.atK (cN c) x.pn (wlN (x.y.atY (cN c)).wL (k * x.pn + (l + 1)) 0)) wr (.slice a1 x.pn c1) (.slice sa x.pn sc) (.slice (some ⟨gw, 0, none⟩) (x.pn * x.pn) c2) (.slice (some ⟨gh, 0, none⟩) x.pn hc) up us uw uh) ∧ Below W2.heap.size W2 wr) := ⟨⟨cl, uw, by rw [← Nat.add_assoc, ← HM.out]; exact AP.out.1⟩, AP.out.2⟩
          clear HJ AP hwl hdl h12
          go_wp2
          go_roundw
          case rel => first | exact ⟨l + 1, by omega, by go_num, AP2.out, HJ'.out⟩ | exact ⟨.int .i64 ((l + 1 : Nat) : Int), _, _, _, ⟨l + 1, (by have := HN.out; omega), rfl, AP2.out, HJ'.out⟩, by simp, rfl, rfl, rfl⟩
          case measure => simp [intOf]; omega
      ·have hln : l = x.pn := by omega
       have HK' : Hid (∀ a, a < k + 1 → ∀ b, b < x.pn → (wyL (x.y.ah (cN c)) a b).length ≤ 12) := fun a ha b hb => by
        by_cases e : a = k
        ·subst e
         exact HJ.out b (by omega)
        ·exact HK.out a (by omega) b hb
       have AP2 : Hid ((∃ cl uw, AtP false W2.heap.size N cl (x.y.atK (cN c) x.pn (wlN (x.y.atY (cN c)).wL ((k + 1) * x.pn) 0)) wr (.slice a1 x.pn c1) (.slice sa x.pn sc) (.slice (some ⟨gw, 0, none⟩) (x.pn * x.pn) c2) (.slice (some ⟨gh, 0, none⟩) x.pn hc) up us uw uh) ∧ Below W2.heap.size W2 wr) := by
        have := HZ.out
        rw [hln] at this
        rw [Nat.add_mul, Nat.one_mul]
        exact this
       clear HK HJ HZ hln
       go_wp2
       go_roundw
       case rel => first | exact ⟨k + 1, by omega, by go_num, AP2.out, HK'.out⟩ | exact ⟨.int .i64 ((k + 1 : Nat) : Int), _, _, _, _, ⟨k + 1, (by have := HN.out; omega), rfl, AP2.out, HK'.out⟩, by simp, rfl, rfl, rfl, rfl⟩
       case measure => simp [intOf]; omega
    ·have hkn : k = x.pn := by omega
     obtain ⟨⟨cl, uw, hA⟩, hbz⟩ := HZ.out
     obtain ⟨x0, x1, x2, x3⟩ := hA.bx
     obtain ⟨hbw, -, ⟨r0, r1, r2, r3⟩, rf, l1, hle3⟩ := HX3.out wr hbz
     have HV : Hid (wf = true ∧ YW = x.y.atY (cN c)) := by
      have e : wf = true := by
       rw [HWF.out]
       exact qB_true fun a ha b hb => HK.out a (by omega) b hb
      refine ⟨e, ?_⟩
      rw [HYW.out, e]
      rfl
     have OS : Hid (OwnSys false wr W2.heap.size (x.y.atY (cN c)) (.agg #[.slice a1 x.pn c1, .slice sa x.pn sc, .slice (some ⟨gw, 0, none⟩) (x.pn * x.pn) c2, .slice (some ⟨gh, 0, none⟩) x.pn hc])) := by
      refine ⟨cl, _, _, _, _, _, _, uw, _, rfl, hA.o.p, hA.o.s, ?_, hA.o.h⟩
      have ho := hA.o.t
      rw [hkn] at ho
      exact atK_full ho
     have BW : Hid (Below w.heap.size w wr ∧ w.heap.size ≤ W2.heap.size) := ⟨hbw, by omega⟩
     have lN : N < wr.heap.size := hA.lt
     have hNr : W2.heap.size ≤ N := hA.bN
     have hl1 : w.heap.size + 1 < wr.heap.size := by omega
     clear hA HZ hbw hbz HX3
     go_wp2
     exact bodyPost_ret (v := .tuple #[.agg #[.slice a1 x.pn c1, .slice sa x.pn sc, .slice (some ⟨gw, 0, none⟩) (x.pn * x.pn) c2, .slice (some ⟨gh, 0, none⟩) x.pn hc], .bool true]) (by simp [results, Tryz.results60, go_sem, r0, r1, r2, r3]) rfl ⟨_, by rw [HV.out.1], by
      rw [HV.out.2]
      exact ((((OS.out.setBelow l1 0 _).setBelow l1 1 _).setBelow l1 2 _).setBelow l1 3 _).base BW.out.2, (((BW.out.1.setCell hM _).setCell hM _).setCell hM _).setCell hM _⟩
end Go.Proofs.YtcplnkhdclcgfaaGreatDoor
