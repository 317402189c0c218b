/- The walks of Sender, the program's. -/
import Derived.Test.YthdaejgmfognbabGreatDoorWd0
import Derived.Test.YthdaejgmfognbabGreatDoorWd40
import Derived.Test.YthdaejgmfognbabGreatDoorWd34
import Derived.Deep.RegionWith
import Derived.Test.YthdaejgmfognbabGreatDoorWd33
import Derived.Test.YthdaejgmfognbabGreatDoorWd31
import Derived.Deep.RegionLaw
import Derived.BigQuiet
import Derived.Test.YthdaejgmfognbabGreatDoorWd39
import Derived.Test.YthdaejgmfognbabGreatDoorWd32
import Derived.Test.YthdaejgmfognbabGreatDoorWd42
namespace Go.Proofs.YthdaejgmfognbabGreatDoor
set_option maxRecDepth 100000
set_option maxHeartbeats 2000000
open Go.ChangeShapes Go.WideShapes Go.ChangeAt Go.RowKit Go.Deep Go.Sort
theorem IsSys.g2 {w : World} {lo hi : Nat} {x : SysIn} {v : Value} (o : IsSys w lo hi x v) : ∃ x' : SysIn, v = x'.v /\ SysG w x' /\ x'.y = x.y /\ ∀ i, i < x'.hn -> x'.hL i <= x'.hC i := by
 obtain ⟨D1, D2, D3, D4, b1, vs, b3, b4, h1, h2, h3, o⟩ := o
 obtain ⟨q1, q2, q3, q4, -⟩ := o.hi
 have hst : ∀ i, i < x.sn -> ∃ t : Option Addr × Nat × Option Addr × Nat, vs i = stV (x.sS i).p t.1 (x.sS i).rs.length t.2.1 t.2.2.1 (x.sS i).os.length t.2.2.2 (x.sS i).c /\ w.cell? ⟨D2, i * 4, none⟩ = some (.int .i64 (x.sS i).p) /\ w.cell? ⟨D2, i * 4 + 1, none⟩ = some (.slice t.1 (x.sS i).rs.length t.2.1) /\ w.cell? ⟨D2, i * 4 + 2, none⟩ = some (.slice t.2.2.1 (x.sS i).os.length t.2.2.2) /\ w.cell? ⟨D2, i * 4 + 3, none⟩ = some (.int .i64 (x.sS i).c) := by
  intro i hi
  obtain ⟨ra, rc, oa, oc, e, c0, c1, c2, c3⟩ := o.ss.cel i hi
  exact ⟨(ra, rc, oa, oc), e, c0, c1, c2, c3⟩
 have inh : Inhabited (Option Addr × Nat × Option Addr × Nat) := ⟨(none, 0, none, 0)⟩
 obtain ⟨t, ht⟩ := Go.Deep.choose_lt hst
 refine ⟨⟨some ⟨D1, 0, none⟩, x.pn, x.pn, fun i => some ⟨b1 i, 0, none⟩, x.pL, x.pL, x.pH, some ⟨D2, 0, none⟩, x.sn, x.sn, fun i => ⟨(x.sS i).p, (t i).1, (t i).2.1, (x.sS i).rs, (t i).2.2.1, (t i).2.2.2, (x.sS i).os, (x.sS i).c⟩, some ⟨D3, 0, none⟩, x.wn, x.wn, fun i => some ⟨b3 i, 0, none⟩, x.wL, x.wL, x.wH, some ⟨D4, 0, none⟩, x.hn, x.hn, fun i => some ⟨b4 i, 0, none⟩, x.hL, x.hL, x.hH⟩, o.val, ?_, rfl, fun i _ => Nat.le_refl _⟩
 have l1 := o.pp.lt
 have l2 := o.ss.lt
 have l3 := o.ww.lt
 have l4 := o.hh.lt
 refine ⟨.inr ⟨D1, 0, rfl, by omega, fun i hi => ?_⟩, fun i hi => ⟨b1 i, rfl, zL (o.pp.bd i hi).2 o.pp.le, o.pp.row i hi⟩, ⟨.inr ⟨D2, 0, rfl, by omega, fun i hi => ?_⟩, fun i hi => ?_⟩, .inr ⟨D3, 0, rfl, by omega, fun i hi => ?_⟩, fun i hi => .inr ⟨b3 i, 0, rfl, zL (o.ww.bd i hi).2 o.ww.le, o.ww.row i hi⟩, .inr ⟨D4, 0, rfl, by omega, fun i hi => ?_⟩, fun i hi => .inr ⟨b4 i, 0, rfl, zL (o.hh.bd i hi).2 o.hh.le, o.hh.row i hi⟩⟩
 ·have := o.pp.cel i hi
  simpa using this
 ·have := (ht i hi).2
  simpa using this
 ·have h4 := o.ss.own i hi
  rw [(ht i hi).1] at h4
  exact ⟨h4.parts.1.slOf, h4.parts.2.1.slOf⟩
 ·have := o.ww.cel i hi
  simpa using this
 ·have := o.hh.cel i hi
  simpa using this
theorem SysIn.len_of {x x' : SysIn} (hs : x.size <= 1048576) (hy : x'.y = x.y) : x'.Len := by
 have l := SysIn.lens hs
 have e1 : x'.pn = x.pn := congrArg Sy.pn hy
 have e2 : x'.pL = x.pL := congrArg Sy.pL hy
 have e3 : x'.sn = x.sn := congrArg Sy.sn hy
 have e4 : x'.sS = x.sS := congrArg Sy.sS hy
 have e5 : x'.wn = x.wn := congrArg Sy.wn hy
 have e6 : x'.wL = x.wL := congrArg Sy.wL hy
 have e7 : x'.hn = x.hn := congrArg Sy.hn hy
 have e8 : x'.hL = x.hL := congrArg Sy.hL hy
 refine ⟨⟨by omega, fun i hi => ?_⟩, ⟨by omega, fun i hi => ?_⟩, ⟨by omega, fun i hi => ?_⟩, ⟨by omega, fun i hi => ?_⟩⟩
 ·rw [e2]
  exact sum_le l.1.2 i (by omega)
 ·have h1 := SysIn.lensS hs i (by omega)
  have h2 : x'.sS i = x.sS i := by rw [e4]
  have h3 : (x'.sQ i).rs = (x.sQ i).rs := congrArg S4.rs h2
  have h4 : (x'.sQ i).os = (x.sQ i).os := congrArg S4.os h2
  rw [h3, h4]
  exact h1
 ·rw [e6]
  exact sum_le l.2.2.1.2 i (by omega)
 ·rw [e8]
  exact sum_le l.2.2.2.2 i (by omega)
structure Px (W : World) (x : SysIn) (w : World) : Prop where
 be : Below W.heap.size W w
 bx : BoxC w W.heap.size (.slice x.pa x.pn x.pc) (.slice x.sa x.sn x.sc) (.slice x.wa x.wn x.wc) (.slice x.ha x.hn x.hc)
 lt : W.heap.size < w.heap.size
theorem Px.below {W : World} {x : SysIn} {w w' : World} (h : Px W x w) (hb : Below w.heap.size w w') : Px W x w' := ⟨h.be.trans (hb.mono (Nat.le_of_lt h.lt)), h.bx.below hb, zL h.lt hb.size⟩
def sndN (y : Sy) (p i : Nat) : Int := if (y.hH p i).k = 3 then nthV (y.hH (y.hH p i).q.toNat) 2 p (y.hL (y.hH p i).q.toNat) ((plN (y.hH p) 3 (y.hH p i).q i).length : Nat) else -1
open Classical in
noncomputable def hasB (y : Sy) (p i : Int) : Bool := y.okB && belB p y.pn && belB i (y.hL p.toNat)
theorem hasB_parts {y : Sy} {p i : Int} (h : hasB y p i = true) : y.Ok /\ ∃ a b : Nat, p = a /\ i = b /\ a < y.pn /\ b < y.hL a := by
 simp only [hasB, Bool.and_eq_true, belB, decide_eq_true_eq] at h
 obtain ⟨⟨h1, h2⟩, h3⟩ := h
 refine ⟨Sy.ok_of h1, p.toNat, i.toNat, by omega, by omega, by omega, by omega⟩
theorem l7Sender_any (x : SysIn) (p i : Nat) (w : World) (hG : SysG w x) (hcap : ∀ i, i < x.hn -> x.hL i <= x.hC i) (hO : x.y.Ok) (hp : p < x.pn) (hi : i < x.hL p) :
  Calls Tryz.prog 96 #[x.v, .int .i64 p, .int .i64 i] w fun e w' => e = .returned (.int .i64 (sndN x.y p i)) /\ Below w.heap.size w w' := by
 have hhn : x.hn = x.pn := hO.cn.2.2.1
 have hph : p < x.hn := by omega
 have hq : 0 <= (x.hH p i).q /\ (x.hH p i).q < (x.pn : Int) := hO.evq hp hi
 have hlp : x.hL p <= 200 := hO.hl200 hp
 obtain ⟨q, hqe⟩ : ∃ q : Nat, (x.hH p i).q = q := ⟨(x.hH p i).q.toNat, by omega⟩
 have hqn : q < x.hn := by omega
 have hlq : x.hL q <= 200 := hO.hl200 (by show q < x.pn; omega)
 have hcp := hcap p hph
 have hph' : (p : Int) < (x.hn : Int) := by omega
 have hqn' : (q : Int) < (x.hn : Int) := by omega
 have hi' : (i : Int) < (x.hL p : Int) := by omega
 have HG : Hid (SysG w x) := hG
 have HV : Hid (sndN x.y p i = if (x.hH p i).k = 3 then nthV (x.hH q) 2 p (x.hL q) ((plN (x.hH p) 3 q i).length : Nat) else -1) := by
  show sndN x.y p i = _
  unfold sndN
  show (if (x.hH p i).k = 3 then nthV (x.hH (x.hH p i).q.toNat) 2 p (x.hL (x.hH p i).q.toNat) ((plN (x.hH p) 3 (x.hH p i).q i).length : Nat) else -1) = _
  rw [hqe, Int.toNat_natCast]
 have hcn : (plN (x.hH p) 3 q i).length <= i := plN_le _ _ _ _
 have ks := slice_to (x.hA p) (x.hL p) (x.hC p) i (by omega)
 have HCk : Hid (∀ wx, Below w.heap.size w wx -> Calls Tryz.prog 141 #[.slice (x.hA p) i (x.hC p), .int .i64 3, .int .i64 q] wx fun e w' => e = .returned (.int .i64 ((plN (x.hH p) 3 q i).length : Nat)) /\ Below wx.heap.size wx w') := fun wx hb => specCount_l (x.hA p) i (x.hC p) (x.hH p) 3 q wx (by omega) (((hG.below hb).hi p hph).take (by omega))
 have HNt : Hid (∀ wx, Below w.heap.size w wx -> Calls Tryz.prog 142 #[.slice (x.hA q) (x.hL q) (x.hC q), .int .i64 2, .int .i64 p, .int .i64 ((plN (x.hH p) 3 q i).length : Nat)] wx fun e w' => e = .returned (.int .i64 (nthV (x.hH q) 2 p (x.hL q) ((plN (x.hH p) 3 q i).length : Nat))) /\ Below wx.heap.size wx w') := fun wx hb => specNth_l (x.hA q) (x.hL q) (x.hC q) (x.hH q) 2 p _ wx (by omega) ((hG.below hb).hi q hqn) (by omega) (by omega)
 generalize hCn : (plN (x.hH p) 3 q i).length = cn at *
 generalize hNv : nthV (x.hH q) 2 p (x.hL q) (cn : Nat) = nv at *
 have HQ : Hid ((x.hH p i).q = q) := hqe
 clear hG hcap hO hq hqe hNv hCn hhn
 have BW : Hid (Below w.heap.size w (w.alloc (oQ4 x.pa x.pn x.pc x.sa x.sn x.sc x.wa x.wn x.wc x.ha x.hn x.hc))) := zS _ _
 have NB : Hid (BoxC (w.alloc (oQ4 x.pa x.pn x.pc x.sa x.sn x.sc x.wa x.wn x.wc x.ha x.hn x.hc)) w.heap.size (.slice x.pa x.pn x.pc) (.slice x.sa x.sn x.sc) (.slice x.wa x.wn x.wc) (.slice x.ha x.hn x.hc)) := BoxC.new w _ _ _ _ _
 go_enter Tryz.func96, Tryz.ntmps96
 go_upto_region 1 with fail
 generalize w.alloc (oQ4 x.pa x.pn x.pc x.sa x.sn x.sc x.wa x.wn x.wc x.ha x.hn x.hc) = W2 at *
 obtain ⟨-, -, -, b3⟩ := NB.out
 obtain ⟨bh, oh, eh, cp⟩ := (HG.out.below BW.out).h.at hph
 obtain ⟨bh', oh', eh', cq⟩ := (HG.out.below BW.out).h.at hqn
 rw [eh] at eh' b3
 simp only [Option.some.injEq, Addr.mk.injEq] at eh'
 obtain ⟨rfl, rfl, -⟩ := eh'
 obtain ⟨b, off, ea, zb, e0, e1, e2⟩ := ((HG.out.below BW.out).hi p hph).at hi
 rw [ea] at cp ks
 rw [HQ.out] at e1
 have HCk' := HCk.out
 rw [ea] at HCk'
 clear HCk
 have HCk : Hid (∀ wx, Below w.heap.size w wx -> Calls Tryz.prog 141 #[.slice (some ⟨b, off, none⟩) i (x.hC p), .int .i64 3, .int .i64 q] wx fun e w' => e = .returned (.int .i64 (cn : Nat)) /\ Below wx.heap.size wx w') := HCk'
 clear HCk' eh ea
 generalize (x.hH p i).k = K at *
 generalize (x.hH p i).v = V at *
 have BW3 : Hid (Below w.heap.size w (W2.alloc (oQ0 K q V))) := BW.out.trans ((zS _ _).mono BW.out.size)
 have c0 := zV W2 #[.int .i64 K, .int .i64 q, .int .i64 V] 61 0 rfl
 have c1 := zV W2 #[.int .i64 K, .int .i64 q, .int .i64 V] 61 1 rfl
 have b3' := cell_allocs b3 (oQ0 K q V)
 have cp' := cell_allocs cp (oQ0 K q V)
 have cq' := cell_allocs cq (oQ0 K q V)
 go_upto_region 2 with fail
 clear b3 cp cq e0 e1 e2 zb BW NB
 generalize hN2 : W2.heap.size = N2 at *
 clear hN2
 generalize W2.alloc (oQ0 K q V) = W3 at *
 rcases zK (K == 3) with t | t
 case inr =>
  have HV2 : Hid (sndN x.y p i = -1) := by
   show sndN x.y p i = -1
   rw [HV.out, if_neg (by simpa using t)]
  clear HV
  go_wp2
  go_ret
  exact ⟨ret_int HV2.out.symm, BW3.out⟩
 case inl =>
  have HV2 : Hid (sndN x.y p i = nv) := by
   show sndN x.y p i = nv
   rw [HV.out, if_pos (by simpa using t)]
  clear HV
  have q1 := cell_regrown c1
  have q3 := cell_regrown b3'
  have qp := cell_regrown cp'
  have qq := cell_regrown cq'
  have HQ2 : Hid (∀ d os, Below w.heap.size w (grow (redrawn W3 d) os)) := fun d os => BW3.out.trans ((below_regrown W3 d os).mono BW3.out.size)
  go_upto_region 4 with fail
  clear c1 b3' cp' cq'
  refine wp_region_quiet_below (by kernel_rfl) (by kernel_rfl) ?_
  repeat (quiet_step (first | (go_at_call 141; exact Calls.regrown_of (HCk.out _ (HQ2.out _ _))) | (go_at_call 142; exact Calls.regrown_of (HNt.out _ (HQ2.out _ _)))))
  refine wpQuiet_nil ?_
  intro _ hw'
  obtain ⟨⟨dd, os⟩, hw''⟩ := hw'
  subst hw''
  have B3 := HQ2.out dd os
  generalize grow (redrawn W3 dd) os = w3 at *
  go_wp2
  go_ret
  exact ⟨ret_int HV2.out.symm, B3⟩
theorem l7Has_any (x : SysIn) (p i : Int) (w : World) (hG : SysG w x) (hL : x.Len) (hcap : ∀ i, i < x.hn -> x.hL i <= x.hC i) :
  Calls Tryz.prog 84 #[x.v, .int .i64 p, .int .i64 i] w fun e w' => e = .returned (.bool (hasB x.y p i)) /\ Below w.heap.size w w' := by
 have HG : Hid (SysG w x) := hG
 have HL : Hid x.Len := hL
 have HS : Hid (∀ wx, Below w.heap.size w wx -> Calls Tryz.prog 56 #[x.v] wx fun e w' => e = .returned (.bool x.y.okB) /\ Below wx.heap.size wx w') := fun wx hb => specSysOk_any x wx (HG.out.below hb) hL hcap
 have BW : Hid (Below w.heap.size w (w.alloc (oQ4 x.pa x.pn x.pc x.sa x.sn x.sc x.wa x.wn x.wc x.ha x.hn x.hc))) := zS _ _
 have NB : Hid (BoxC (w.alloc (oQ4 x.pa x.pn x.pc x.sa x.sn x.sc x.wa x.wn x.wc x.ha x.hn x.hc)) w.heap.size (.slice x.pa x.pn x.pc) (.slice x.sa x.sn x.sc) (.slice x.wa x.wn x.wc) (.slice x.ha x.hn x.hc)) := BoxC.new w _ _ _ _ _
 clear hG hL hcap
 go_enter Tryz.func84, Tryz.ntmps84
 go_wp2_with fail
 generalize w.alloc (oQ4 x.pa x.pn x.pc x.sa x.sn x.sc x.wa x.wn x.wc x.ha x.hn x.hc) = W2 at *
 refine (HS.out W2 BW.out).mono ?_
 rintro e w1 ⟨rfl, q1⟩
 have B1 : Hid (Below w.heap.size w w1 /\ BoxC w1 w.heap.size (.slice x.pa x.pn x.pc) (.slice x.sa x.sn x.sc) (.slice x.wa x.wn x.wc) (.slice x.ha x.hn x.hc)) := ⟨BW.out.trans (q1.mono BW.out.size), NB.out.below q1⟩
 clear q1 BW NB HS
 rcases zK x.y.okB with t | t
 case inr =>
  have HV : Hid (hasB x.y p i = false) := by
   show hasB x.y p i = false
   rw [hasB, t]
   rfl
  rw [t]
  clear t
  go_wp2
  go_ret
  rw [HV.out]
  exact ⟨rfl, B1.out.1⟩
 have HO : Hid x.y.Ok := Sy.ok_of t
 have h4 : (x.pn : Int) <= 4 := by have : x.pn <= 4 := HO.out.cn.1.2; omega
 have HT : Hid (x.y.okB = true) := t
 rw [t]
 clear t
 obtain ⟨b0, -, -, b3⟩ := B1.out.2
 go_wp2_with fail
 refine (l1In_any _ _ _ _).mono ?_
 rintro e w2 ⟨rfl, rfl⟩
 rcases zK (inB p 0 ((x.pn : Int) - 1)) with tp | tp
 case inr =>
  have HV : Hid (hasB x.y p i = false) := by
   show hasB x.y p i = false
   have : belB p x.y.pn = false := by
    simp only [inB, decide_eq_false_iff_not] at tp
    simp only [belB, decide_eq_false_iff_not]
    show ¬ (0 <= p /\ p < (x.pn : Int))
    omega
   rw [hasB, this]
   simp
  rw [tp]
  clear tp
  go_wp2
  go_ret
  rw [HV.out]
  exact ⟨rfl, B1.out.1⟩
 have hp0 : 0 <= p /\ p < (x.pn : Int) := by
  simp only [inB, decide_eq_true_eq] at tp
  omega
 obtain ⟨a, rfl⟩ : ∃ a : Nat, p = a := ⟨p.toNat, by omega⟩
 have hhn : x.hn = x.pn := HO.out.cn.2.2.1
 have ha : a < x.hn := by omega
 have ha' : (a : Int) < (x.hn : Int) := by omega
 have hl : (x.hL a : Int) <= 200 := by have : x.hL a <= 200 := HO.out.hl200 (by show a < x.pn; omega); omega
 obtain ⟨bh, oh, eh, ca⟩ := (HG.out.below B1.out.1).h.at ha
 rw [eh] at b3
 rw [tp]
 have HV : Hid (hasB x.y a i = inB i 0 ((x.hL a : Int) - 1)) := by
  show hasB x.y a i = _
  have h1 : belB (a : Int) x.y.pn = true := by
   simp only [belB, decide_eq_true_eq]
   show 0 <= (a : Int) /\ (a : Int) < (x.pn : Int)
   omega
  rw [hasB, HT.out, h1, Int.toNat_natCast]
  show belB i (x.hL a) = _
  simp only [belB, inB]
  by_cases h : 0 <= i /\ i < (x.hL a : Int)
  ·rw [decide_eq_true h, decide_eq_true (by omega)]
  ·rw [decide_eq_false h, decide_eq_false (by omega)]
 clear tp eh hhn hp0
 go_wp2_with fail
 refine (l1In_any _ _ _ _).mono ?_
 rintro e w2 ⟨rfl, rfl⟩
 rw [<- HV.out]
 go_wp2
 go_ret
 exact ⟨rfl, B1.out.1⟩
theorem cnt_find {eh : Nat -> E3} {kd pr : Int} : ∀ {m j : Nat}, j < cnt eh kd pr m -> ∃ k, k < m /\ hitB eh kd pr k = true /\ cnt eh kd pr k = j
 | 0, j, h => by
  rw [cnt_zero] at h
  omega
 | m + 1, j, h => by
  by_cases hh : hitB eh kd pr m = true
  ·rw [cnt_hit hh] at h
   by_cases e : j < cnt eh kd pr m
   ·obtain ⟨k, h1, h2⟩ := cnt_find e
    exact ⟨k, by omega, h2⟩
   ·exact ⟨m, by omega, hh, by omega⟩
  ·rw [cnt_not (by simpa using hh)] at h
   obtain ⟨k, h1, h2⟩ := cnt_find h
   exact ⟨k, by omega, h2⟩
def sdr (y : Sy) (p i : Nat) : Option (Nat × Nat) := if (y.hH p i).k = 3 then some ((y.hH p i).q.toNat, (sndN y p i).toNat) else none
def clkF (y : Sy) : Nat -> Nat -> Nat -> Nat -> Nat
 | 0, _, _, _ => 0
 | f + 1, p, i, q => if q = p then i + 1 else max (if i = 0 then 0 else clkF y f p (i - 1) q) (match sdr y p i with | none => 0 | some s => clkF y f s.1 s.2 q)
theorem clkF_succ (y : Sy) (f p i q : Nat) : clkF y (f + 1) p i q = if q = p then i + 1 else max (if i = 0 then 0 else clkF y f p (i - 1) q) (match sdr y p i with | none => 0 | some s => clkF y f s.1 s.2 q) := by rw [clkF]
def clk (y : Sy) (p i q : Nat) : Nat := clkF y 801 p i q
theorem can_sdr {y : Sy} {d : Nat -> Nat} {p : Nat} (hO : y.Ok) (hd : ∀ a, d a <= y.hL a) (hp : p < y.pn) (hc : y.hs.Can d p) {s : Nat × Nat} (hs : sdr y p (d p) = some s) : s.1 < y.pn /\ s.2 < d s.1 /\ sndN y p (d p) = (s.2 : Int) := by
 obtain ⟨h1, h2⟩ := hc
 have h1' : d p < y.hL p := h1
 unfold sdr at hs
 by_cases e : (y.hH p (d p)).k = 3
 ·rw [if_pos e] at hs
  simp only [Option.some.injEq] at hs
  have hq := hO.evq hp h1'
  have h3 : cnt (y.hH p) 3 (y.hH p (d p)).q (d p) < cnt (y.hH (y.hH p (d p)).q.toNat) 2 p (d (y.hH p (d p)).q.toNat) := h2 e
  obtain ⟨k, k1, k2, k3⟩ := cnt_find h3
  have hk : sndN y p (d p) = (k : Int) := by
   unfold sndN
   rw [if_pos e]
   refine nthV_hit (zL k1 (hd _)) k2 ?_
   rw [plI, List.length_map]
   exact congrArg Nat.cast k3.symm
  rw [<- hs]
  refine ⟨by show (y.hH p (d p)).q.toNat < y.pn; omega, ?_, ?_⟩
  ·show (sndN y p (d p)).toNat < d (y.hH p (d p)).q.toNat
   rw [hk]
   simpa using k1
  ·show sndN y p (d p) = ((sndN y p (d p)).toNat : Int)
   rw [hk]
   simp
 ·rw [if_neg e] at hs
  cases hs
theorem put_stab {y : Sy} {d : Nat -> Nat} (hO : y.Ok) (h : y.hs.Put d) : ∀ p, p < y.pn -> ∀ i, i < d p -> ∀ f, sumL d y.pn <= f -> ∀ q, clkF y f p i q = clkF y (sumL d y.pn) p i q := by
 induction h with
 | start =>
  intro p _ i hi
  exact absurd hi (Nat.not_lt_zero _)
 | @next d p0 hput hp0 hc ih =>
  have hp0' : p0 < y.pn := hp0
  intro p hp i hi f hf q
  have hs : sumL (up d p0) y.pn = sumL d y.pn + 1 := sumL_up hp0'
  rw [hs] at hf ⊢
  have old : ∀ p, p < y.pn -> ∀ i, i < d p -> ∀ f, sumL d y.pn <= f -> ∀ q, clkF y f p i q = clkF y (sumL d y.pn) p i q := ih
  by_cases e : p = p0 /\ i = d p0
  ·obtain ⟨rfl, rfl⟩ := e
   obtain ⟨g, rfl⟩ : ∃ g, f = g + 1 := ⟨f - 1, by omega⟩
   rw [clkF_succ, clkF_succ]
   by_cases eq : q = p
   ·rw [if_pos eq, if_pos eq]
   ·rw [if_neg eq, if_neg eq]
    congr 1
    ·by_cases e0 : d p = 0
     ·rw [if_pos e0, if_pos e0]
     ·rw [if_neg e0, if_neg e0]
      exact old p hp (d p - 1) (by omega) g (by omega) q
    ·cases hs' : sdr y p (d p) with
     | none => rfl
     | some s =>
      obtain ⟨s1, s2, -⟩ := can_sdr hO hput.le hp hc hs'
      exact old s.1 s1 s.2 s2 g (by omega) q
  ·have hi' : i < d p := by
    by_cases ep : p = p0
    ·subst ep
     rw [up_same] at hi
     have : i ≠ d p := fun h => e ⟨rfl, h⟩
     omega
    ·rw [up_other ep] at hi
     exact hi
   rw [old p hp i hi' f (by omega) q, old p hp i hi' (sumL d y.pn + 1) (by omega) q]
theorem clk_next {y : Sy} {d : Nat -> Nat} (hO : y.Ok) (h : y.hs.Put d) {p : Nat} (hp : p < y.pn) (hc : y.hs.Can d p) (q : Nat) :
  clk y p (d p) q = if q = p then d p + 1 else max (if d p = 0 then 0 else clk y p (d p - 1) q) (match sdr y p (d p) with | none => 0 | some s => clk y s.1 s.2 q) := by
 have hle : sumL d y.pn <= 800 := by
  have h1 : ∀ n, n <= y.pn -> sumL d n <= n * 200 := by
   intro n
   induction n with
   | zero => exact fun _ => Nat.le_refl _
   | succ n ih =>
    intro hn
    have h2 := ih (by omega)
    have h3 : d n <= 200 := zO (h.le n) (hO.hl200 (by omega))
    show sumL d n + d n <= (n + 1) * 200
    omega
  have h2 := h1 y.pn (Nat.le_refl _)
  have h3 := hO.cn.1.2
  omega
 obtain ⟨N, hN⟩ : ∃ N, N = 800 := ⟨_, rfl⟩
 have key : ∀ a, a < y.pn -> ∀ k, k < d a -> clkF y N a k q = clk y a k q := fun a ha k hk => (put_stab hO h a ha k hk N (by omega) q).trans (put_stab hO h a ha k hk 801 (by omega) q).symm
 have e1 : clk y p (d p) q = clkF y (N + 1) p (d p) q := by rw [hN]; rfl
 rw [e1, clkF_succ]
 by_cases eq : q = p
 ·rw [if_pos eq, if_pos eq]
 ·rw [if_neg eq, if_neg eq]
  refine congr (congrArg max ?_) ?_
  ·by_cases e0 : d p = 0
   ·rw [if_pos e0, if_pos e0]
   ·rw [if_neg e0, if_neg e0]
    exact key p hp (d p - 1) (by omega)
  ·cases hs' : sdr y p (d p) with
   | none => rfl
   | some s =>
    obtain ⟨s1, s2, -⟩ := can_sdr hO h.le hp hc hs'
    exact key s.1 s1 s.2 s2
theorem Hs.Put.was {x : Hs} {d : Nat -> Nat} (h : x.Put d) : ∀ p i, i < d p -> p < x.n /\ ∃ d', x.Put d' /\ d' p = i /\ x.Can d' p := by
 induction h with
 | start =>
  intro p i hi
  exact absurd hi (Nat.not_lt_zero _)
 | @next d p0 hput hp0 hc ih =>
  intro p i hi
  by_cases e : p = p0 /\ i = d p0
  ·obtain ⟨rfl, rfl⟩ := e
   exact ⟨hp0, d, hput, rfl, hc⟩
  ·refine ih p i ?_
   by_cases ep : p = p0
   ·subst ep
    rw [up_same] at hi
    have : i ≠ d p := fun h => e ⟨rfl, h⟩
    omega
   ·rw [up_other ep] at hi
    exact hi
theorem sdr_at {y : Sy} (hO : y.Ok) {p i : Nat} (hp : p < y.pn) (hi : i < y.hL p) {s : Nat × Nat} (hs : sdr y p i = some s) :
  (y.hH p i).k = 3 /\ (y.hH p i).q = (s.1 : Int) /\ s.1 < y.pn /\ s.2 < y.hL s.1 /\ sndN y p i = (s.2 : Int) /\ hitB (y.hH s.1) 2 p s.2 = true /\ cnt (y.hH s.1) 2 p s.2 = cnt (y.hH p) 3 s.1 i /\ (s.1 = p -> s.2 < i) := by
 obtain ⟨dA, hA, hall⟩ := hO.ro
 have hi' : i < dA p := by rw [hall p hp]; exact hi
 obtain ⟨-, d, hput, rfl, hc⟩ := hA.was p i hi'
 obtain ⟨h1, h2, h3⟩ := can_sdr hO hput.le hp hc hs
 have hq := hO.evq hp hi
 unfold sdr at hs
 by_cases e : (y.hH p (d p)).k = 3
 ·rw [if_pos e] at hs
  simp only [Option.some.injEq] at hs
  have e1 : (y.hH p (d p)).q.toNat = s.1 := by rw [<- hs]
  have e2 : (y.hH p (d p)).q = (s.1 : Int) := by omega
  have h4 : cnt (y.hH p) 3 (y.hH p (d p)).q (d p) < cnt (y.hH (y.hH p (d p)).q.toNat) 2 p (d (y.hH p (d p)).q.toNat) := hc.2 e
  rw [e1, e2] at h4
  obtain ⟨k, k1, k2, k3⟩ := cnt_find h4
  have hk : sndN y p (d p) = (k : Int) := by
   unfold sndN
   rw [if_pos e, e1, e2]
   refine nthV_hit (zL k1 (hput.le _)) k2 ?_
   rw [plI, List.length_map]
   exact congrArg Nat.cast k3.symm
  have e3 : k = s.2 := by
   rw [hk] at h3
   omega
  subst e3
  exact ⟨e, e2, h1, zL k1 (hput.le _), hk, k2, k3, fun ep => by rw [ep] at k1; exact k1⟩
 ·rw [if_neg e] at hs
  cases hs
theorem sdr_none {y : Sy} {p i : Nat} (h : sdr y p i = none) : (y.hH p i).k ≠ 3 := by
 intro e
 rw [sdr, if_pos e] at h
 cases h
theorem can_sdr_iff {y : Sy} (hO : y.Ok) {d : Nat -> Nat} {p : Nat} (hp : p < y.pn) (hl : d p < y.hL p) : y.hs.Can d p ↔ ∀ s, sdr y p (d p) = some s -> s.2 < d s.1 := by
 constructor
 ·intro hc s hs
  obtain ⟨h1, h2, h3, h4, h5, h6, h7, -⟩ := sdr_at hO hp hl hs
  have h8 : cnt (y.hH p) 3 (y.hH p (d p)).q (d p) < cnt (y.hH (y.hH p (d p)).q.toNat) 2 p (d (y.hH p (d p)).q.toNat) := hc.2 h1
  rw [h2, Int.toNat_natCast, <- h7] at h8
  refine Decidable.byContradiction fun hn => ?_
  have := cnt_mono (y.hH s.1) 2 p (show d s.1 <= s.2 by omega)
  omega
 ·intro h
  refine ⟨hl, fun e => ?_⟩
  cases hs : sdr y p (d p) with
  | none => exact absurd e (sdr_none hs)
  | some s =>
   obtain ⟨h1, h2, h3, h4, h5, h6, h7, -⟩ := sdr_at hO hp hl hs
   have hlt := h s hs
   show cnt (y.hH p) 3 (y.hH p (d p)).q (d p) < cnt (y.hH (y.hH p (d p)).q.toNat) 2 p (d (y.hH p (d p)).q.toNat)
   rw [h2, Int.toNat_natCast, <- h7]
   have h9 := cnt_mono (y.hH s.1) 2 p (show s.2 + 1 <= d s.1 by omega)
   rw [cnt_hit h6] at h9
   omega
def snV (y : Sy) (p i : Nat) : Value := if (y.hH p i).k = 3 then .tuple #[.agg #[.int .i64 (y.hH p i).q, .int .i64 (sndN y p i)], .bool true] else .tuple #[.agg #[.int .i64 0, .int .i64 0], .bool false]
theorem senderIn_any (x : SysIn) (p i : Nat) (w : World) (hG : SysG w x) (hcap : ∀ i, i < x.hn -> x.hL i <= x.hC i) (hO : x.y.Ok) (hp : p < x.pn) (hi : i < x.hL p) :
  Calls Tryz.prog 134 #[x.v, .agg #[.int .i64 p, .int .i64 i]] w fun e w' => e = .returned (snV x.y p i) /\ Below w.heap.size w w' := by
 have hhn : x.hn = x.pn := hO.cn.2.2.1
 have hph : p < x.hn := by omega
 have hq : 0 <= (x.hH p i).q /\ (x.hH p i).q < (x.pn : Int) := hO.evq hp hi
 have hlp : x.hL p <= 200 := hO.hl200 hp
 obtain ⟨q, hqe⟩ : ∃ q : Nat, (x.hH p i).q = q := ⟨(x.hH p i).q.toNat, by omega⟩
 have hqn : q < x.hn := by omega
 have hlq : x.hL q <= 200 := hO.hl200 (by show q < x.pn; omega)
 have hcp := hcap p hph
 have hph' : (p : Int) < (x.hn : Int) := by omega
 have hqn' : (q : Int) < (x.hn : Int) := by omega
 have hi' : (i : Int) < (x.hL p : Int) := by omega
 have HG : Hid (SysG w x) := hG
 have HV : Hid (sndN x.y p i = if (x.hH p i).k = 3 then nthV (x.hH q) 2 p (x.hL q) ((plN (x.hH p) 3 q i).length : Nat) else -1) := by
  show sndN x.y p i = _
  unfold sndN
  show (if (x.hH p i).k = 3 then nthV (x.hH (x.hH p i).q.toNat) 2 p (x.hL (x.hH p i).q.toNat) ((plN (x.hH p) 3 (x.hH p i).q i).length : Nat) else -1) = _
  rw [hqe, Int.toNat_natCast]
 have hcn : (plN (x.hH p) 3 q i).length <= i := plN_le _ _ _ _
 have ks := slice_to (x.hA p) (x.hL p) (x.hC p) i (by omega)
 have HCk : Hid (∀ wx, Below w.heap.size w wx -> Calls Tryz.prog 169 #[.slice (x.hA p) i (x.hC p), .int .i64 3, .int .i64 q] wx fun e w' => e = .returned (.int .i64 ((plN (x.hH p) 3 q i).length : Nat)) /\ Below wx.heap.size wx w') := fun wx hb => implCount_l (x.hA p) i (x.hC p) (x.hH p) 3 q wx (by omega) (((hG.below hb).hi p hph).take (by omega))
 have HNt : Hid (∀ wx, Below w.heap.size w wx -> Calls Tryz.prog 170 #[.slice (x.hA q) (x.hL q) (x.hC q), .int .i64 2, .int .i64 p, .int .i64 ((plN (x.hH p) 3 q i).length : Nat)] wx fun e w' => e = .returned (.int .i64 (nthV (x.hH q) 2 p (x.hL q) ((plN (x.hH p) 3 q i).length : Nat))) /\ Below wx.heap.size wx w') := fun wx hb => implNth_l (x.hA q) (x.hL q) (x.hC q) (x.hH q) 2 p _ wx (by omega) ((hG.below hb).hi q hqn)
 generalize hCn : (plN (x.hH p) 3 q i).length = cn at *
 generalize hNv : nthV (x.hH q) 2 p (x.hL q) (cn : Nat) = nv at *
 have HQ : Hid ((x.hH p i).q = q) := hqe
 clear hG hcap hO hq hqe hNv hCn hhn
 have HSV : Hid (snV x.y p i = if (x.hH p i).k = 3 then .tuple #[.agg #[.int .i64 (x.hH p i).q, .int .i64 (sndN x.y p i)], .bool true] else .tuple #[.agg #[.int .i64 0, .int .i64 0], .bool false]) := rfl
 generalize snV x.y p i = R at *
 have BW : Hid (Below w.heap.size w (((w.alloc (oQ4 x.pa x.pn x.pc x.sa x.sn x.sc x.wa x.wn x.wc x.ha x.hn x.hc)).alloc (oQ5 p i)).alloc (zQ4))) := (zS _ _).trans (((zS _ _).trans ((zS _ _).mono (by simp))).mono (by simp))
 have NB : Hid (BoxC (((w.alloc (oQ4 x.pa x.pn x.pc x.sa x.sn x.sc x.wa x.wn x.wc x.ha x.hn x.hc)).alloc (oQ5 p i)).alloc (zQ4)) w.heap.size (.slice x.pa x.pn x.pc) (.slice x.sa x.sn x.sc) (.slice x.wa x.wn x.wc) (.slice x.ha x.hn x.hc)) := ((BoxC.new w _ _ _ _ _).below (zS _ _)).below (zS _ _)
 have NS : Hid ((((w.alloc (oQ4 x.pa x.pn x.pc x.sa x.sn x.sc x.wa x.wn x.wc x.ha x.hn x.hc)).alloc (oQ5 p i)).alloc (zQ4)).cell? ⟨w.heap.size + 1, 0, none⟩ = some (.int .i64 p) /\ (((w.alloc (oQ4 x.pa x.pn x.pc x.sa x.sn x.sc x.wa x.wn x.wc x.ha x.hn x.hc)).alloc (oQ5 p i)).alloc (zQ4)).cell? ⟨w.heap.size + 1, 1, none⟩ = some (.int .i64 i)) := ⟨cell_allocs (zV (w.alloc (oQ4 x.pa x.pn x.pc x.sa x.sn x.sc x.wa x.wn x.wc x.ha x.hn x.hc)) _ _ 0 (by simp)) _, cell_allocs (zV (w.alloc (oQ4 x.pa x.pn x.pc x.sa x.sn x.sc x.wa x.wn x.wc x.ha x.hn x.hc)) _ _ 1 (by simp)) _⟩
 have NZ : Hid ((((w.alloc (oQ4 x.pa x.pn x.pc x.sa x.sn x.sc x.wa x.wn x.wc x.ha x.hn x.hc)).alloc (oQ5 p i)).alloc (zQ4)).cell? ⟨w.heap.size + 2, 0, none⟩ = some (.int .i64 0) /\ (((w.alloc (oQ4 x.pa x.pn x.pc x.sa x.sn x.sc x.wa x.wn x.wc x.ha x.hn x.hc)).alloc (oQ5 p i)).alloc (zQ4)).cell? ⟨w.heap.size + 2, 1, none⟩ = some (.int .i64 0) /\ ∀ j, (((w.alloc (oQ4 x.pa x.pn x.pc x.sa x.sn x.sc x.wa x.wn x.wc x.ha x.hn x.hc)).alloc (oQ5 p i)).alloc (zQ4)).frozen? ⟨w.heap.size + 2, j, none⟩ = false) := ⟨zV ((w.alloc (oQ4 x.pa x.pn x.pc x.sa x.sn x.sc x.wa x.wn x.wc x.ha x.hn x.hc)).alloc (oQ5 p i)) _ _ 0 (by simp), zV ((w.alloc (oQ4 x.pa x.pn x.pc x.sa x.sn x.sc x.wa x.wn x.wc x.ha x.hn x.hc)).alloc (oQ5 p i)) _ _ 1 (by simp), fun j => yA ((w.alloc (oQ4 x.pa x.pn x.pc x.sa x.sn x.sc x.wa x.wn x.wc x.ha x.hn x.hc)).alloc (oQ5 p i)) _ _ _ (by simp)⟩
 have hM2 : w.heap.size <= w.heap.size + 2 := Nat.le_add_right _ _
 go_enter Tryz.func134, Tryz.ntmps134
 go_upto_region 1 with fail
 generalize ((w.alloc (oQ4 x.pa x.pn x.pc x.sa x.sn x.sc x.wa x.wn x.wc x.ha x.hn x.hc)).alloc (oQ5 p i)).alloc (zQ4) = W2 at *
 obtain ⟨-, -, -, b3⟩ := NB.out
 obtain ⟨d0, d1⟩ := NS.out
 obtain ⟨z0, z1, zf⟩ := NZ.out
 obtain ⟨bh, oh, eh, cp⟩ := (HG.out.below BW.out).h.at hph
 obtain ⟨bh', oh', eh', cq⟩ := (HG.out.below BW.out).h.at hqn
 rw [eh] at eh' b3
 simp only [Option.some.injEq, Addr.mk.injEq] at eh'
 obtain ⟨rfl, rfl, -⟩ := eh'
 obtain ⟨b, off, ea, zb, e0, e1, e2⟩ := ((HG.out.below BW.out).hi p hph).at hi
 rw [ea] at cp ks
 rw [HQ.out] at e1
 have HCk' := HCk.out
 rw [ea] at HCk'
 clear HCk
 have HCk : Hid (∀ wx, Below w.heap.size w wx -> Calls Tryz.prog 169 #[.slice (some ⟨b, off, none⟩) i (x.hC p), .int .i64 3, .int .i64 q] wx fun e w' => e = .returned (.int .i64 (cn : Nat)) /\ Below wx.heap.size wx w') := HCk'
 have hSV := HSV.out
 rw [HQ.out] at hSV
 clear HSV HCk' eh ea NB NS NZ
 generalize (x.hH p i).k = K at *
 generalize (x.hH p i).v = V at *
 have HSV : Hid (R = if K = 3 then .tuple #[.agg #[.int .i64 q, .int .i64 (sndN x.y p i)], .bool true] else .tuple #[.agg #[.int .i64 0, .int .i64 0], .bool false]) := hSV
 clear hSV
 have BW3 : Hid (Below w.heap.size w (W2.alloc (oQ0 K q V)).drew) := (BW.out.trans ((zS _ _).mono BW.out.size)).drew
 have c0 : (W2.alloc (oQ0 K q V)).drew.cell? ⟨W2.heap.size, 0, none⟩ = some (.int .i64 K) := zV W2 #[.int .i64 K, .int .i64 q, .int .i64 V] 61 0 rfl
 have c1 : (W2.alloc (oQ0 K q V)).drew.cell? ⟨W2.heap.size, 1, none⟩ = some (.int .i64 q) := zV W2 #[.int .i64 K, .int .i64 q, .int .i64 V] 61 1 rfl
 have hb3 : ∀ o, (W2.alloc o).cell? _ = _ := cell_allocs b3
 have hd0 : ∀ o, (W2.alloc o).cell? _ = _ := cell_allocs d0
 have hd1 : ∀ o, (W2.alloc o).cell? _ = _ := cell_allocs d1
 have hcpo : ∀ o, (W2.alloc o).cell? _ = _ := cell_allocs cp
 have he0 : ∀ o, (W2.alloc o).cell? _ = _ := cell_allocs e0
 have he1 : ∀ o, (W2.alloc o).cell? _ = _ := cell_allocs e1
 have he2 : ∀ o, (W2.alloc o).cell? _ = _ := cell_allocs e2
 have F3 : Hid ((W2.alloc (oQ0 K q V)).drew.cell? ⟨w.heap.size, 3, none⟩ = some (.slice (some ⟨bh, oh, none⟩) x.hn x.hc) /\ (W2.alloc (oQ0 K q V)).drew.cell? ⟨bh, oh + p, none⟩ = some (.slice (some ⟨b, off, none⟩) (x.hL p) (x.hC p)) /\ (W2.alloc (oQ0 K q V)).drew.cell? ⟨bh, oh + q, none⟩ = some (.slice (x.hA q) (x.hL q) (x.hC q)) /\ (W2.alloc (oQ0 K q V)).drew.cell? ⟨w.heap.size + 1, 0, none⟩ = some (.int .i64 p) /\ (W2.alloc (oQ0 K q V)).drew.cell? ⟨w.heap.size + 1, 1, none⟩ = some (.int .i64 i)) := ⟨cell_allocs b3 _, cell_allocs cp _, cell_allocs cq _, cell_allocs d0 _, cell_allocs d1 _⟩
 have Z3 : Hid ((W2.alloc (oQ0 K q V)).drew.cell? ⟨w.heap.size + 2, 0, none⟩ = some (.int .i64 0) /\ (W2.alloc (oQ0 K q V)).drew.cell? ⟨w.heap.size + 2, 1, none⟩ = some (.int .i64 0) /\ ∀ j, (W2.alloc (oQ0 K q V)).drew.frozen? ⟨w.heap.size + 2, j, none⟩ = false) := ⟨cell_allocs z0 _, cell_allocs z1 _, fun j => ((bcell (zS W2 _)).2 _ j (zJ W2 _ z0)).trans (zf j)⟩
 go_wp2_with fail
 go_region
 all_goals
  go_upto_region 2 with fail
  clear b3 d0 d1 z0 z1 zf cp cq e0 e1 e2 zb BW hb3 hd0 hd1 hcpo he0 he1 he2
  generalize hN2 : W2.heap.size = N2 at *
  clear hN2
  generalize (W2.alloc (oQ0 K q V)).drew = W3 at *
  obtain ⟨z0, z1, zf⟩ := Z3.out
  rcases zK (K == 3) with t | t
  case inr =>
   have HV2 : Hid (R = .tuple #[.agg #[.int .i64 0, .int .i64 0], .bool false]) := by
    show R = _
    rw [HSV.out, if_neg (by simpa using t)]
   clear HV HSV
   go_wp2
   exact bodyPost_ret (v := .tuple #[.agg #[.int .i64 0, .int .i64 0], .bool false]) (by simp [results, Tryz.results134, go_sem, z0, z1]) rfl ⟨by rw [HV2.out], (BW3.out.setCell hM2 _).setCell hM2 _⟩
  case inl =>
   have HV2 : Hid (R = .tuple #[.agg #[.int .i64 q, .int .i64 nv], .bool true]) := by
    show R = _
    have hk : K = 3 := by simpa using t
    rw [HSV.out, if_pos hk, HV.out, if_pos hk]
   clear HV HSV
   obtain ⟨b3, cp, cq, d0, d1⟩ := F3.out
   have q1 := cell_regrown c1
   have q3 := cell_regrown b3
   have qp := cell_regrown cp
   have qd0 := cell_regrown d0
   have qd1 := cell_regrown d1
   have HQ2 : Hid (∀ d os, Below w.heap.size w (grow (redrawn W3 d) os)) := fun d os => BW3.out.trans ((below_regrown W3 d os).mono BW3.out.size)
   go_upto_region 4 with fail
   refine wp_region_quiet_below (by kernel_rfl) (by kernel_rfl) ?_
   repeat (quiet_step (first | (go_at_call 169; exact Calls.regrown_of (HCk.out _ (HQ2.out _ _)))))
   refine wpQuiet_nil ?_
   intro _ hw'
   obtain ⟨⟨dd, os⟩, hw''⟩ := hw'
   subst hw''
   have B4 : Hid (Below w.heap.size w (grow (redrawn W3 dd) os)) := HQ2.out dd os
   have br := below_regrown W3 dd os
   have F4 : Hid (∀ wx, Below (grow (redrawn W3 dd) os).heap.size (grow (redrawn W3 dd) os) wx -> wx.cell? ⟨N2, 1, none⟩ = some (.int .i64 q) /\ wx.cell? ⟨w.heap.size, 3, none⟩ = some (.slice (some ⟨bh, oh, none⟩) x.hn x.hc) /\ wx.cell? ⟨bh, oh + q, none⟩ = some (.slice (x.hA q) (x.hL q) (x.hC q)) /\ wx.cell? ⟨w.heap.size + 1, 0, none⟩ = some (.int .i64 p) /\ wx.cell? ⟨w.heap.size + 2, 0, none⟩ = some (.int .i64 0) /\ wx.cell? ⟨w.heap.size + 2, 1, none⟩ = some (.int .i64 0) /\ ∀ j, wx.frozen? ⟨w.heap.size + 2, j, none⟩ = false) := fun wx hx => by
    have hx' : Below W3.heap.size W3 wx := br.trans (hx.mono br.size)
    have hcl : ∀ a v, W3.cell? a = some v -> wx.cell? a = some v := fun a v ha => (hx'.cell (zJ W3 _ ha)).trans ha
    exact ⟨hcl _ _ c1, hcl _ _ b3, hcl _ _ cq, hcl _ _ d0, hcl _ _ z0, hcl _ _ z1, fun j => ((bcell hx').2 _ j (zJ W3 _ z0)).trans (zf j)⟩
   clear q1 q3 qp qd0 qd1 c0 c1 b3 cp cq d0 d1 z0 z1 zf F3 Z3 HCk BW3 HQ2 br
   generalize grow (redrawn W3 dd) os = W4 at *
   obtain ⟨c1, b3, cq, d0, z0, z1, zf⟩ := F4.out W4 (Below.refl _ _)
   have HNw : Hid (Calls Tryz.prog 170 #[.slice (x.hA q) (x.hL q) (x.hC q), .int .i64 2, .int .i64 p, .int .i64 (cn : Nat)] W4.drew fun e w' => e = .returned (.int .i64 nv) /\ Below W4.drew.heap.size W4.drew w') := HNt.out W4.drew B4.out.drew
   go_upto_region 5 with fail
   refine wp_region_G (fun w' => w'.cell? ⟨N2, 1, none⟩ = some (.int .i64 q) /\ w'.cell? ⟨w.heap.size, 3, none⟩ = some (.slice (some ⟨bh, oh, none⟩) x.hn x.hc) /\ w'.cell? ⟨bh, oh + q, none⟩ = some (.slice (x.hA q) (x.hL q) (x.hC q)) /\ w'.cell? ⟨w.heap.size + 1, 0, none⟩ = some (.int .i64 p) /\ w'.cell? ⟨w.heap.size + 2, 0, none⟩ = some (.int .i64 0) /\ w'.cell? ⟨w.heap.size + 2, 1, none⟩ = some (.int .i64 0)) (fun i => i == 13 || i == 14) (by kernel_rfl) ?_
   have hHeld : (fun w' => w'.cell? ⟨N2, 1, none⟩ = some (.int .i64 q) /\ w'.cell? ⟨w.heap.size, 3, none⟩ = some (.slice (some ⟨bh, oh, none⟩) x.hn x.hc) /\ w'.cell? ⟨bh, oh + q, none⟩ = some (.slice (x.hA q) (x.hL q) (x.hC q)) /\ w'.cell? ⟨w.heap.size + 1, 0, none⟩ = some (.int .i64 p) /\ w'.cell? ⟨w.heap.size + 2, 0, none⟩ = some (.int .i64 0) /\ w'.cell? ⟨w.heap.size + 2, 1, none⟩ = some (.int .i64 0)) W4.drew := ⟨c1, b3, cq, d0, z0, z1⟩
   refine wpGT_of [0, 1, 2, 3, 4, 5, 6, 7, 8, 9, 10] ?_
   iterate 11 (refine wpGT_take rfl hHeld ?_; apply Exists.intro; refine ⟨fun wq hSw => ?_, ?_⟩; (· ((try dsimp only at hSw); go_simp; try with_reducible rfl)); (try simp only [Act.put, zD, zE, zF]))
   refine wpGT_nil ?_
   refine wpG_one 11 rfl (by kernel_rfl) (fun K hK => ?_)
   refine stepR_call rfl 170 _ _ rfl #[.slice (x.hA q) (x.hL q) (x.hC q), .int .i64 2, .int .i64 p, .int .i64 (cn : Nat)] (by simp [Act.eval]) (zZ Tryz.func170 (by kernel_rfl) rfl) HNw.out ?_
   rintro e w1 ⟨rfl, b1⟩
   refine ⟨_, rfl, ?_⟩
   have q1 : Below W4.heap.size W4 w1 := (Below.refl W4.heap.size W4).drew.trans b1
   obtain ⟨r1, r3, rq, rd, rz0, rz1, rzf⟩ := F4.out w1 q1
   have Q1 : Hid (Below w.heap.size w w1) := B4.out.trans (q1.mono B4.out.size)
   refine hK.out _ _ (fun _ => ⟨r1, r3, rq, rd, rz0, rz1⟩) ?_
   clear hHeld
   have hHeld : (fun w' => w'.cell? ⟨N2, 1, none⟩ = some (.int .i64 q) /\ w'.cell? ⟨w.heap.size, 3, none⟩ = some (.slice (some ⟨bh, oh, none⟩) x.hn x.hc) /\ w'.cell? ⟨bh, oh + q, none⟩ = some (.slice (x.hA q) (x.hL q) (x.hC q)) /\ w'.cell? ⟨w.heap.size + 1, 0, none⟩ = some (.int .i64 p) /\ w'.cell? ⟨w.heap.size + 2, 0, none⟩ = some (.int .i64 0) /\ w'.cell? ⟨w.heap.size + 2, 1, none⟩ = some (.int .i64 0)) w1 := ⟨r1, r3, rq, rd, rz0, rz1⟩
   clear b1 q1
   clear hK K
   (try simp only [Act.put, zD, zE, zF])
   refine wpG_take 12 rfl hHeld ?_
   apply Exists.intro
   refine ⟨fun wq hSw => ?_, ?_⟩
   ·(try dsimp only at hSw)
    go_simp
    try with_reducible rfl
   (try simp only [Act.put, zD, zE, zF])
   refine wpG_one 13 rfl (by kernel_rfl) (fun K hK => ?_)
   go_simp
   refine hK.out _ _ (fun h => ?_) ?_
   ·exact absurd h (by decide)
   clear hK K
   (try simp only [Act.put, zD, zE, zF])
   refine wpG_one 14 rfl (by kernel_rfl) (fun K hK => ?_)
   go_simp
   refine hK.out _ _ (fun h => ?_) ?_
   ·exact absurd h (by decide)
   clear hK K
   (try simp only [Act.put, zD, zE, zF])
   refine wpG_done (by kernel_rfl) ?_ _
   go_wp2
   refine bodyPost_ret (v := .tuple #[.agg #[.int .i64 q, .int .i64 nv], .bool true]) (by simp [results, Tryz.results134, go_sem, rz0, rz1]) rfl ⟨by rw [HV2.out], ?_⟩
   exact (Q1.out.setCell hM2 _).setCell hM2 _
def SpAt (w : World) (b n : Nat) (f : Nat -> Int × Int) : Prop := ∀ k, k < n -> w.cell? ⟨b, k * 2, none⟩ = some (.int .i64 (f k).1) /\ w.cell? ⟨b, k * 2 + 1, none⟩ = some (.int .i64 (f k).2)
theorem SpAt.below {w w' : World} {b n : Nat} {f : Nat -> Int × Int} (h : SpAt w b n f) (hb : b < w.heap.size) (q : Below w.heap.size w w') : SpAt w' b n f := fun k hk => ⟨(q.cell (p := ⟨b, _, none⟩) hb).trans (h k hk).1, (q.cell (p := ⟨b, _, none⟩) hb).trans (h k hk).2⟩
def Sy.Has (y : Sy) (u : Int × Int) : Prop := belB u.1 y.hn = true /\ belB u.2 (y.hL u.1.toNat) = true
noncomputable def arB (y : Sy) (n : Nat) (f : Nat -> Int × Int) : Bool := y.okB && qB (∀ k, k < n -> y.Has (f k))
theorem areIn_any (x : SysIn) (b n cap : Nat) (f : Nat -> Int × Int) (w : World) (hG : SysG w x) (hL : x.Len) (hV : w.cell? ⟨0, 0, none⟩ = some (.iface 269 (.agg #[.pointer (some ⟨1, 217, none⟩)]))) (hb : b < w.heap.size) (hn : n <= 1000) (hS : SpAt w b n f) :
  Calls Tryz.prog 86 #[x.v, .slice (some ⟨b, 0, none⟩) n cap] w fun e w' => e = .returned (.bool (arB x.y n f)) /\ Below w.heap.size w w' := by
 have HG : Hid (SysG w x) := hG
 have HSp : Hid (SpAt w b n f) := hS
 have hn' : (n : Int) <= 1000 := by omega
 have HS : Hid (∀ wx, Below w.heap.size w wx -> Calls Tryz.prog 66 #[x.v] wx fun e w' => e = .returned (.bool x.y.okB) /\ Below wx.heap.size wx w') := fun wx hb => implSysOk_any x wx (HG.out.below hb) hL ((hb.cell (p := ⟨0, 0, none⟩) (zJ w _ hV)).trans hV)
 have BW : Hid (Below w.heap.size w (w.alloc (oQ4 x.pa x.pn x.pc x.sa x.sn x.sc x.wa x.wn x.wc x.ha x.hn x.hc))) := zS _ _
 have NB : Hid (BoxC (w.alloc (oQ4 x.pa x.pn x.pc x.sa x.sn x.sc x.wa x.wn x.wc x.ha x.hn x.hc)) w.heap.size (.slice x.pa x.pn x.pc) (.slice x.sa x.sn x.sc) (.slice x.wa x.wn x.wc) (.slice x.ha x.hn x.hc)) := BoxC.new w _ _ _ _ _
 have HR : Hid (arB x.y n f = (x.y.okB && qB (∀ k, k < n -> x.y.Has (f k)))) := rfl
 generalize arB x.y n f = R at *
 clear hG hL hV hS
 go_enter Tryz.func86, Tryz.ntmps86
 go_wp2_with fail
 generalize w.alloc (oQ4 x.pa x.pn x.pc x.sa x.sn x.sc x.wa x.wn x.wc x.ha x.hn x.hc) = W2 at *
 refine (HS.out W2 BW.out).mono ?_
 rintro e w1 ⟨rfl, q1⟩
 have B1 : Hid (Below w.heap.size w w1 /\ BoxC w1 w.heap.size (.slice x.pa x.pn x.pc) (.slice x.sa x.sn x.sc) (.slice x.wa x.wn x.wc) (.slice x.ha x.hn x.hc)) := ⟨BW.out.trans (q1.mono BW.out.size), NB.out.below q1⟩
 clear q1 BW NB HS
 rcases zK x.y.okB with t | t
 case inr =>
  have HV : Hid (R = false) := by
   show R = false
   rw [HR.out, t]
   rfl
  rw [t]
  clear t
  go_wp2
  go_ret
  rw [HV.out]
  exact ⟨rfl, B1.out.1⟩
 have HO : Hid x.y.Ok := Sy.ok_of t
 have HV : Hid (R = qB (∀ k, k < n -> x.y.Has (f k))) := by
  show R = _
  rw [HR.out, t]
  rfl
 have h4 : (x.hn : Int) <= 4 := by
  have h1 : x.pn <= 4 := HO.out.cn.1.2
  have h2 : x.hn = x.pn := HO.out.cn.2.2.1
  omega
 have HH : Hid (∀ a, a < x.hn → x.hL a ≤ 200) := fun a ha => HO.out.hl200 (by
  show a < x.pn
  have h2 : x.hn = x.pn := HO.out.cn.2.2.1
  omega)
 rw [t]
 clear t HR
 go_wp2_with fail
 go_loopw [12] (fun i wr => ∃ k : Nat, k <= n /\ i = .int .i64 k /\ Hid (Below w.heap.size w wr /\ BoxC wr w.heap.size (.slice x.pa x.pn x.pc) (.slice x.sa x.sn x.sc) (.slice x.wa x.wn x.wc) (.slice x.ha x.hn x.hc) /\ ∀ j, j < k -> x.y.Has (f j))) (fun i _ => n - (intOf i).toNat)
 case atStart => exact ⟨0, Nat.zero_le _, rfl, B1.out.1, B1.out.2, fun j hj => by omega⟩
 case round =>
  clear B1
  obtain ⟨k, hk, rfl, HK⟩ := hrel
  by_cases hlt : k < n
  ·have hlt' : (k : Int) < (n : Int) := by omega
   obtain ⟨c0, c1⟩ := HSp.out.below hb HK.out.1 k hlt
   have HU : Hid (x.y.Has (f k) ↔ (belB (f k).1 x.hn = true /\ belB (f k).2 (x.hL (f k).1.toNat) = true)) := Iff.rfl
   have BA : Hid (Below w.heap.size w (wr.alloc (oQ5 (f k).1 (f k).2)) /\ BoxC (wr.alloc (oQ5 (f k).1 (f k).2)) w.heap.size (.slice x.pa x.pn x.pc) (.slice x.sa x.sn x.sc) (.slice x.wa x.wn x.wc) (.slice x.ha x.hn x.hc)) := ⟨HK.out.1.trans ((zS _ _).mono HK.out.1.size), HK.out.2.1.below (zS _ _)⟩
   have NA : Hid ((wr.alloc (oQ5 (f k).1 (f k).2)).cell? ⟨wr.heap.size, 0, none⟩ = some (.int .i64 (f k).1) /\ (wr.alloc (oQ5 (f k).1 (f k).2)).cell? ⟨wr.heap.size, 1, none⟩ = some (.int .i64 (f k).2)) := ⟨zV wr _ _ 0 rfl, zV wr _ _ 1 rfl⟩
   generalize (f k).1 = P at *
   generalize (f k).2 = I at *
   go_upto_region 6 with fail
   clear c0 c1
   generalize hNN : wr.heap.size = NN at *
   clear hNN
   generalize wr.alloc (oQ5 P I) = W3 at *
   have z0 := cell_regrown NA.out.1
   have z1 := cell_regrown NA.out.2
   have z3 := cell_regrown BA.out.2.2.2.2
   rcases zK (belB P x.hn) with tp | tp
   case inr =>
    have HT : Hid (belB P x.hn = false) := tp
    have HZ : Hid (R = false) := by
     show R = false
     rw [HV.out, qB_false fun h => by have := (HU.out.1 (h k hlt)).1; rw [tp] at this; cases this]
    clear tp
    refine wp_region_quiet_below (by kernel_rfl) (by kernel_rfl) ?_
    iterate 5 (quiet_step (fail))
    quiet_step (first | (go_at_call 49; exact Calls.regrown_same (isBelow_any P x.hn _)))
    rw [HT.out]
    repeat (first | go_big_quiet_skip | quiet_step (fail))
    refine wpQuiet_nil ?_
    intro _ hw'
    obtain ⟨⟨dq, osq⟩, hw''⟩ := hw'
    subst hw''
    have B3 : Hid (Below w.heap.size w (grow (redrawn W3 dq) osq)) := BA.out.1.trans ((below_regrown W3 dq osq).mono BA.out.1.size)
    generalize grow (redrawn W3 dq) osq = w3 at *
    clear z0 z1 z3
    go_wp2
    go_ret
    rw [HZ.out]
    exact ⟨rfl, B3.out⟩
   have hP : 0 <= P /\ P < (x.hn : Int) := by simpa [belB] using tp
   obtain ⟨a, rfl⟩ : ∃ a : Nat, P = a := ⟨P.toNat, by omega⟩
   have ha : a < x.hn := by omega
   have ha' : (a : Int) < (x.hn : Int) := by omega
   have hl : (x.hL a : Int) <= 200 := by have := HH.out a ha; omega
   obtain ⟨bh, oh, eh, ca⟩ := (HG.out.below BA.out.1).h.at ha
   rw [eh] at z3
   clear eh
   have zc := cell_regrown ca
   have HB1 : Hid (∀ wx, Calls Tryz.prog 49 #[.int .i64 a, .int .i64 x.hn] wx fun e w' => e = .returned (.bool true) /\ w' = wx) := fun wx => by
    have := isBelow_any a x.hn wx
    rw [tp] at this
    exact this
   have HB2 : Hid (∀ wx, Calls Tryz.prog 49 #[.int .i64 I, .int .i64 (x.hL a)] wx fun e w' => e = .returned (.bool (belB I (x.hL a))) /\ w' = wx) := fun wx => isBelow_any I (x.hL a) wx
   have HU2 : Hid (x.y.Has (f k) ↔ belB I (x.hL a) = true) := by
    show x.y.Has (f k) ↔ _
    rw [HU.out, Int.toNat_natCast]
    exact ⟨fun h => h.2, fun h => ⟨tp, h⟩⟩
   clear HU tp hP
   generalize belB I (x.hL a) = T at *
   refine wp_region_quiet_below (by kernel_rfl) (by kernel_rfl) ?_
   repeat (quiet_step (first | (go_at_call_of 49 (x.hn); exact Calls.regrown_same (HB1.out _)) | (go_at_call_of 49 (I); exact Calls.regrown_same (HB2.out _))))
   refine wpQuiet_nil ?_
   intro _ hw'
   obtain ⟨⟨dq, osq⟩, hw''⟩ := hw'
   subst hw''
   have B3 : Hid (Below w.heap.size w (grow (redrawn W3 dq) osq) /\ BoxC (grow (redrawn W3 dq) osq) w.heap.size (.slice x.pa x.pn x.pc) (.slice x.sa x.sn x.sc) (.slice x.wa x.wn x.wc) (.slice x.ha x.hn x.hc)) := ⟨BA.out.1.trans ((below_regrown W3 dq osq).mono BA.out.1.size), BA.out.2.below (below_regrown W3 dq osq)⟩
   generalize grow (redrawn W3 dq) osq = w3 at *
   clear z0 z1 z3 zc NA BA HB1 HB2 ca
   cases T with
   | false =>
    have HZ : Hid (R = false) := by
     show R = false
     rw [HV.out, qB_false fun h => by have := HU2.out.1 (h k hlt); cases this]
    go_wp2
    go_ret
    rw [HZ.out]
    exact ⟨rfl, B3.out.1⟩
   | true =>
    have HZ : Hid (∀ j, j < k + 1 -> x.y.Has (f j)) := fun j hj => by
     by_cases e : j = k
     ·rw [e]; exact HU2.out.2 rfl
     ·exact HK.out.2.2 j (by omega)
    clear HU2 HK
    go_wp2
    go_roundw
    case rel => exact ⟨k + 1, by omega, by go_num, B3.out.1, B3.out.2, HZ.out⟩
    case measure => simp [intOf]; omega
  ·have HZ : Hid (R = true) := by
    show R = true
    rw [HV.out, qB_true fun j hj => HK.out.2.2 j (by omega)]
   have B3 := HK.out.1
   clear HK
   go_wp2
   go_ret
   rw [HZ.out]
   exact ⟨rfl, B3⟩
end Go.Proofs.YthdaejgmfognbabGreatDoor
