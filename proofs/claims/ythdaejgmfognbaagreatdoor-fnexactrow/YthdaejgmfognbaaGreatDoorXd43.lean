/- The walk of the program's clocksIn. -/
import Derived.Test.YthdaejgmfognbaaGreatDoorXd0
import Derived.Test.YthdaejgmfognbaaGreatDoorXd40
import Derived.Test.YthdaejgmfognbaaGreatDoorXd33
import Derived.Deep.RegionWith
import Derived.Test.YthdaejgmfognbaaGreatDoorXd32
import Derived.Test.YthdaejgmfognbaaGreatDoorXd39
import Derived.Deep.RegionLaw
import Derived.BigQuiet
import Derived.Test.YthdaejgmfognbaaGreatDoorXd37
import Derived.Test.YthdaejgmfognbaaGreatDoorXd38
import Derived.Test.YthdaejgmfognbaaGreatDoorXd42
import Derived.Test.YthdaejgmfognbaaGreatDoorXd35
import Derived.Maps.OwnSet
import Derived.DeepKeys4
import Derived.Carry
import Derived.Deep.LoopGhost
namespace Go.Proofs.YthdaejgmfognbaaGreatDoor
set_option maxRecDepth 100000
set_option maxHeartbeats 1000000
open Go.ChangeShapes Go.WideShapes Go.ChangeAt Go.RowKit Go.Deep Go.Sort
theorem IsSys.g2 {w : World} {lo hi : Nat} {x : SysIn} {v : Value} (o : IsSys w lo hi x v) : ∃ x' : SysIn, v = x'.v /\ SysG w x' /\ x'.y = x.y /\ ∀ i, i < x'.hn -> x'.hL i <= x'.hC i := by
 obtain ⟨D1, D2, D3, D4, b1, vs, b3, b4, h1, h2, h3, o⟩ := o
 obtain ⟨q1, q2, q3, q4, -⟩ := o.hi
 have hst : ∀ i, i < x.sn -> ∃ t : Option Addr × Nat × Option Addr × Nat, vs i = stV (x.sS i).p t.1 (x.sS i).rs.length t.2.1 t.2.2.1 (x.sS i).os.length t.2.2.2 (x.sS i).c /\ w.cell? ⟨D2, i * 4, none⟩ = some (.int .i64 (x.sS i).p) /\ w.cell? ⟨D2, i * 4 + 1, none⟩ = some (.slice t.1 (x.sS i).rs.length t.2.1) /\ w.cell? ⟨D2, i * 4 + 2, none⟩ = some (.slice t.2.2.1 (x.sS i).os.length t.2.2.2) /\ w.cell? ⟨D2, i * 4 + 3, none⟩ = some (.int .i64 (x.sS i).c) := by
  intro i hi
  obtain ⟨ra, rc, oa, oc, e, c0, c1, c2, c3⟩ := o.ss.cel i hi
  exact ⟨(ra, rc, oa, oc), e, c0, c1, c2, c3⟩
 have inh : Inhabited (Option Addr × Nat × Option Addr × Nat) := ⟨(none, 0, none, 0)⟩
 obtain ⟨t, ht⟩ := Go.Deep.choose_lt hst
 refine ⟨⟨some ⟨D1, 0, none⟩, x.pn, x.pn, fun i => some ⟨b1 i, 0, none⟩, x.pL, x.pL, x.pH, some ⟨D2, 0, none⟩, x.sn, x.sn, fun i => ⟨(x.sS i).p, (t i).1, (t i).2.1, (x.sS i).rs, (t i).2.2.1, (t i).2.2.2, (x.sS i).os, (x.sS i).c⟩, some ⟨D3, 0, none⟩, x.wn, x.wn, fun i => some ⟨b3 i, 0, none⟩, x.wL, x.wL, x.wH, some ⟨D4, 0, none⟩, x.hn, x.hn, fun i => some ⟨b4 i, 0, none⟩, x.hL, x.hL, x.hH⟩, o.val, ?_, rfl, fun i _ => Nat.le_refl _⟩
 have l1 := o.pp.lt
 have l2 := o.ss.lt
 have l3 := o.ww.lt
 have l4 := o.hh.lt
 refine ⟨.inr ⟨D1, 0, rfl, by omega, fun i hi => ?_⟩, fun i hi => ⟨b1 i, rfl, zL (o.pp.bd i hi).2 o.pp.le, o.pp.row i hi⟩, ⟨.inr ⟨D2, 0, rfl, by omega, fun i hi => ?_⟩, fun i hi => ?_⟩, .inr ⟨D3, 0, rfl, by omega, fun i hi => ?_⟩, fun i hi => .inr ⟨b3 i, 0, rfl, zL (o.ww.bd i hi).2 o.ww.le, o.ww.row i hi⟩, .inr ⟨D4, 0, rfl, by omega, fun i hi => ?_⟩, fun i hi => .inr ⟨b4 i, 0, rfl, zL (o.hh.bd i hi).2 o.hh.le, o.hh.row i hi⟩⟩
 ·have := o.pp.cel i hi
  simpa using this
 ·have := (ht i hi).2
  simpa using this
 ·have h4 := o.ss.own i hi
  rw [(ht i hi).1] at h4
  exact ⟨h4.parts.1.slOf, h4.parts.2.1.slOf⟩
 ·have := o.ww.cel i hi
  simpa using this
 ·have := o.hh.cel i hi
  simpa using this
theorem SysIn.len_of {x x' : SysIn} (hs : x.size <= 1048576) (hy : x'.y = x.y) : x'.Len := by
 have l := SysIn.lens hs
 have e1 : x'.pn = x.pn := congrArg Sy.pn hy
 have e2 : x'.pL = x.pL := congrArg Sy.pL hy
 have e3 : x'.sn = x.sn := congrArg Sy.sn hy
 have e4 : x'.sS = x.sS := congrArg Sy.sS hy
 have e5 : x'.wn = x.wn := congrArg Sy.wn hy
 have e6 : x'.wL = x.wL := congrArg Sy.wL hy
 have e7 : x'.hn = x.hn := congrArg Sy.hn hy
 have e8 : x'.hL = x.hL := congrArg Sy.hL hy
 refine ⟨⟨by omega, fun i hi => ?_⟩, ⟨by omega, fun i hi => ?_⟩, ⟨by omega, fun i hi => ?_⟩, ⟨by omega, fun i hi => ?_⟩⟩
 ·rw [e2]
  exact sum_le l.1.2 i (by omega)
 ·have h1 := SysIn.lensS hs i (by omega)
  have h2 : x'.sS i = x.sS i := by rw [e4]
  have h3 : (x'.sQ i).rs = (x.sQ i).rs := congrArg S4.rs h2
  have h4 : (x'.sQ i).os = (x.sQ i).os := congrArg S4.os h2
  rw [h3, h4]
  exact h1
 ·rw [e6]
  exact sum_le l.2.2.1.2 i (by omega)
 ·rw [e8]
  exact sum_le l.2.2.2.2 i (by omega)
structure Px (W : World) (x : SysIn) (w : World) : Prop where
 be : Below W.heap.size W w
 bx : BoxC w W.heap.size (.slice x.pa x.pn x.pc) (.slice x.sa x.sn x.sc) (.slice x.wa x.wn x.wc) (.slice x.ha x.hn x.hc)
 lt : W.heap.size < w.heap.size
theorem Px.below {W : World} {x : SysIn} {w w' : World} (h : Px W x w) (hb : Below w.heap.size w w') : Px W x w' := ⟨h.be.trans (hb.mono (Nat.le_of_lt h.lt)), h.bx.below hb, zL h.lt hb.size⟩
def sndN (y : Sy) (p i : Nat) : Int := if (y.hH p i).k = 3 then nthV (y.hH (y.hH p i).q.toNat) 2 p (y.hL (y.hH p i).q.toNat) ((plN (y.hH p) 3 (y.hH p i).q i).length : Nat) else -1
theorem l7Sender_any (x : SysIn) (p i : Nat) (w : World) (hG : SysG w x) (hcap : ∀ i, i < x.hn -> x.hL i <= x.hC i) (hO : x.y.Ok) (hp : p < x.pn) (hi : i < x.hL p) :
  Calls Tryz.prog 70 #[x.v, .int .i64 p, .int .i64 i] w fun e w' => e = .returned (.int .i64 (sndN x.y p i)) /\ Below w.heap.size w w' := by
 have hhn : x.hn = x.pn := hO.cn.2.2.1
 have hph : p < x.hn := by omega
 have hq : 0 <= (x.hH p i).q /\ (x.hH p i).q < (x.pn : Int) := hO.evq hp hi
 have hlp : x.hL p <= 200 := hO.hl200 hp
 obtain ⟨q, hqe⟩ : ∃ q : Nat, (x.hH p i).q = q := ⟨(x.hH p i).q.toNat, by omega⟩
 have hqn : q < x.hn := by omega
 have hlq : x.hL q <= 200 := hO.hl200 (by show q < x.pn; omega)
 have hcp := hcap p hph
 have hph' : (p : Int) < (x.hn : Int) := by omega
 have hqn' : (q : Int) < (x.hn : Int) := by omega
 have hi' : (i : Int) < (x.hL p : Int) := by omega
 have HG : Hid (SysG w x) := hG
 have HV : Hid (sndN x.y p i = if (x.hH p i).k = 3 then nthV (x.hH q) 2 p (x.hL q) ((plN (x.hH p) 3 q i).length : Nat) else -1) := by
  show sndN x.y p i = _
  unfold sndN
  show (if (x.hH p i).k = 3 then nthV (x.hH (x.hH p i).q.toNat) 2 p (x.hL (x.hH p i).q.toNat) ((plN (x.hH p) 3 (x.hH p i).q i).length : Nat) else -1) = _
  rw [hqe, Int.toNat_natCast]
 have hcn : (plN (x.hH p) 3 q i).length <= i := plN_le _ _ _ _
 have ks := slice_to (x.hA p) (x.hL p) (x.hC p) i (by omega)
 have HCk : Hid (∀ wx, Below w.heap.size w wx -> Calls Tryz.prog 115 #[.slice (x.hA p) i (x.hC p), .int .i64 3, .int .i64 q] wx fun e w' => e = .returned (.int .i64 ((plN (x.hH p) 3 q i).length : Nat)) /\ Below wx.heap.size wx w') := fun wx hb => specCount_l (x.hA p) i (x.hC p) (x.hH p) 3 q wx (by omega) (((hG.below hb).hi p hph).take (by omega))
 have HNt : Hid (∀ wx, Below w.heap.size w wx -> Calls Tryz.prog 121 #[.slice (x.hA q) (x.hL q) (x.hC q), .int .i64 2, .int .i64 p, .int .i64 ((plN (x.hH p) 3 q i).length : Nat)] wx fun e w' => e = .returned (.int .i64 (nthV (x.hH q) 2 p (x.hL q) ((plN (x.hH p) 3 q i).length : Nat))) /\ Below wx.heap.size wx w') := fun wx hb => specNth_l (x.hA q) (x.hL q) (x.hC q) (x.hH q) 2 p _ wx (by omega) ((hG.below hb).hi q hqn) (by omega) (by omega)
 generalize hCn : (plN (x.hH p) 3 q i).length = cn at *
 generalize hNv : nthV (x.hH q) 2 p (x.hL q) (cn : Nat) = nv at *
 have HQ : Hid ((x.hH p i).q = q) := hqe
 clear hG hcap hO hq hqe hNv hCn hhn
 have BW : Hid (Below w.heap.size w (w.alloc (oQ4 x.pa x.pn x.pc x.sa x.sn x.sc x.wa x.wn x.wc x.ha x.hn x.hc))) := zS _ _
 have NB : Hid (BoxC (w.alloc (oQ4 x.pa x.pn x.pc x.sa x.sn x.sc x.wa x.wn x.wc x.ha x.hn x.hc)) w.heap.size (.slice x.pa x.pn x.pc) (.slice x.sa x.sn x.sc) (.slice x.wa x.wn x.wc) (.slice x.ha x.hn x.hc)) := BoxC.new w _ _ _ _ _
 go_enter Tryz.func70, Tryz.ntmps70
 go_upto_region 1 with fail
 generalize w.alloc (oQ4 x.pa x.pn x.pc x.sa x.sn x.sc x.wa x.wn x.wc x.ha x.hn x.hc) = W2 at *
 obtain ⟨-, -, -, b3⟩ := NB.out
 obtain ⟨bh, oh, eh, cp⟩ := (HG.out.below BW.out).h.at hph
 obtain ⟨bh', oh', eh', cq⟩ := (HG.out.below BW.out).h.at hqn
 rw [eh] at eh' b3
 simp only [Option.some.injEq, Addr.mk.injEq] at eh'
 obtain ⟨rfl, rfl, -⟩ := eh'
 obtain ⟨b, off, ea, zb, e0, e1, e2⟩ := ((HG.out.below BW.out).hi p hph).at hi
 rw [ea] at cp ks
 rw [HQ.out] at e1
 have HCk' := HCk.out
 rw [ea] at HCk'
 clear HCk
 have HCk : Hid (∀ wx, Below w.heap.size w wx -> Calls Tryz.prog 115 #[.slice (some ⟨b, off, none⟩) i (x.hC p), .int .i64 3, .int .i64 q] wx fun e w' => e = .returned (.int .i64 (cn : Nat)) /\ Below wx.heap.size wx w') := HCk'
 clear HCk' eh ea
 generalize (x.hH p i).k = K at *
 generalize (x.hH p i).v = V at *
 have BW3 : Hid (Below w.heap.size w (W2.alloc (oQ0 K q V))) := BW.out.trans ((zS _ _).mono BW.out.size)
 have c0 := zV W2 #[.int .i64 K, .int .i64 q, .int .i64 V] 50 0 rfl
 have c1 := zV W2 #[.int .i64 K, .int .i64 q, .int .i64 V] 50 1 rfl
 have b3' := cell_allocs b3 (oQ0 K q V)
 have cp' := cell_allocs cp (oQ0 K q V)
 have cq' := cell_allocs cq (oQ0 K q V)
 go_upto_region 2 with fail
 clear b3 cp cq e0 e1 e2 zb BW NB
 generalize hN2 : W2.heap.size = N2 at *
 clear hN2
 generalize W2.alloc (oQ0 K q V) = W3 at *
 rcases zK (K == 3) with t | t
 case inr =>
  have HV2 : Hid (sndN x.y p i = -1) := by
   show sndN x.y p i = -1
   rw [HV.out, if_neg (by simpa using t)]
  clear HV
  go_wp2
  go_ret
  exact ⟨ret_int HV2.out.symm, BW3.out⟩
 case inl =>
  have HV2 : Hid (sndN x.y p i = nv) := by
   show sndN x.y p i = nv
   rw [HV.out, if_pos (by simpa using t)]
  clear HV
  have q1 := cell_regrown c1
  have q3 := cell_regrown b3'
  have qp := cell_regrown cp'
  have qq := cell_regrown cq'
  have HQ2 : Hid (∀ d os, Below w.heap.size w (grow (redrawn W3 d) os)) := fun d os => BW3.out.trans ((below_regrown W3 d os).mono BW3.out.size)
  go_upto_region 4 with fail
  clear c1 b3' cp' cq'
  refine wp_region_quiet_below (by kernel_rfl) (by kernel_rfl) ?_
  repeat (quiet_step (first | (go_at_call 115; exact Calls.regrown_of (HCk.out _ (HQ2.out _ _))) | (go_at_call 121; exact Calls.regrown_of (HNt.out _ (HQ2.out _ _)))))
  refine wpQuiet_nil ?_
  intro _ hw'
  obtain ⟨⟨dd, os⟩, hw''⟩ := hw'
  subst hw''
  have B3 := HQ2.out dd os
  generalize grow (redrawn W3 dd) os = w3 at *
  go_wp2
  go_ret
  exact ⟨ret_int HV2.out.symm, B3⟩
theorem cnt_find {eh : Nat -> E3} {kd pr : Int} : ∀ {m j : Nat}, j < cnt eh kd pr m -> ∃ k, k < m /\ hitB eh kd pr k = true /\ cnt eh kd pr k = j
 | 0, j, h => by
  rw [cnt_zero] at h
  omega
 | m + 1, j, h => by
  by_cases hh : hitB eh kd pr m = true
  ·rw [cnt_hit hh] at h
   by_cases e : j < cnt eh kd pr m
   ·obtain ⟨k, h1, h2⟩ := cnt_find e
    exact ⟨k, by omega, h2⟩
   ·exact ⟨m, by omega, hh, by omega⟩
  ·rw [cnt_not (by simpa using hh)] at h
   obtain ⟨k, h1, h2⟩ := cnt_find h
   exact ⟨k, by omega, h2⟩
def sdr (y : Sy) (p i : Nat) : Option (Nat × Nat) := if (y.hH p i).k = 3 then some ((y.hH p i).q.toNat, (sndN y p i).toNat) else none
theorem can_sdr {y : Sy} {d : Nat -> Nat} {p : Nat} (hO : y.Ok) (hd : ∀ a, d a <= y.hL a) (hp : p < y.pn) (hc : y.hs.Can d p) {s : Nat × Nat} (hs : sdr y p (d p) = some s) : s.1 < y.pn /\ s.2 < d s.1 /\ sndN y p (d p) = (s.2 : Int) := by
 obtain ⟨h1, h2⟩ := hc
 have h1' : d p < y.hL p := h1
 unfold sdr at hs
 by_cases e : (y.hH p (d p)).k = 3
 ·rw [if_pos e] at hs
  simp only [Option.some.injEq] at hs
  have hq := hO.evq hp h1'
  have h3 : cnt (y.hH p) 3 (y.hH p (d p)).q (d p) < cnt (y.hH (y.hH p (d p)).q.toNat) 2 p (d (y.hH p (d p)).q.toNat) := h2 e
  obtain ⟨k, k1, k2, k3⟩ := cnt_find h3
  have hk : sndN y p (d p) = (k : Int) := by
   unfold sndN
   rw [if_pos e]
   refine nthV_hit (zL k1 (hd _)) k2 ?_
   rw [plI, List.length_map]
   exact congrArg Nat.cast k3.symm
  rw [<- hs]
  refine ⟨by show (y.hH p (d p)).q.toNat < y.pn; omega, ?_, ?_⟩
  ·show (sndN y p (d p)).toNat < d (y.hH p (d p)).q.toNat
   rw [hk]
   simpa using k1
  ·show sndN y p (d p) = ((sndN y p (d p)).toNat : Int)
   rw [hk]
   simp
 ·rw [if_neg e] at hs
  cases hs
theorem Hs.Put.was {x : Hs} {d : Nat -> Nat} (h : x.Put d) : ∀ p i, i < d p -> p < x.n /\ ∃ d', x.Put d' /\ d' p = i /\ x.Can d' p := by
 induction h with
 | start =>
  intro p i hi
  exact absurd hi (Nat.not_lt_zero _)
 | @next d p0 hput hp0 hc ih =>
  intro p i hi
  by_cases e : p = p0 /\ i = d p0
  ·obtain ⟨rfl, rfl⟩ := e
   exact ⟨hp0, d, hput, rfl, hc⟩
  ·refine ih p i ?_
   by_cases ep : p = p0
   ·subst ep
    rw [up_same] at hi
    have : i ≠ d p := fun h => e ⟨rfl, h⟩
    omega
   ·rw [up_other ep] at hi
    exact hi
theorem sdr_at {y : Sy} (hO : y.Ok) {p i : Nat} (hp : p < y.pn) (hi : i < y.hL p) {s : Nat × Nat} (hs : sdr y p i = some s) :
  (y.hH p i).k = 3 /\ (y.hH p i).q = (s.1 : Int) /\ s.1 < y.pn /\ s.2 < y.hL s.1 /\ sndN y p i = (s.2 : Int) /\ hitB (y.hH s.1) 2 p s.2 = true /\ cnt (y.hH s.1) 2 p s.2 = cnt (y.hH p) 3 s.1 i /\ (s.1 = p -> s.2 < i) := by
 obtain ⟨dA, hA, hall⟩ := hO.ro
 have hi' : i < dA p := by rw [hall p hp]; exact hi
 obtain ⟨-, d, hput, rfl, hc⟩ := hA.was p i hi'
 obtain ⟨h1, h2, h3⟩ := can_sdr hO hput.le hp hc hs
 have hq := hO.evq hp hi
 unfold sdr at hs
 by_cases e : (y.hH p (d p)).k = 3
 ·rw [if_pos e] at hs
  simp only [Option.some.injEq] at hs
  have e1 : (y.hH p (d p)).q.toNat = s.1 := by rw [<- hs]
  have e2 : (y.hH p (d p)).q = (s.1 : Int) := by omega
  have h4 : cnt (y.hH p) 3 (y.hH p (d p)).q (d p) < cnt (y.hH (y.hH p (d p)).q.toNat) 2 p (d (y.hH p (d p)).q.toNat) := hc.2 e
  rw [e1, e2] at h4
  obtain ⟨k, k1, k2, k3⟩ := cnt_find h4
  have hk : sndN y p (d p) = (k : Int) := by
   unfold sndN
   rw [if_pos e, e1, e2]
   refine nthV_hit (zL k1 (hput.le _)) k2 ?_
   rw [plI, List.length_map]
   exact congrArg Nat.cast k3.symm
  have e3 : k = s.2 := by
   rw [hk] at h3
   omega
  subst e3
  exact ⟨e, e2, h1, zL k1 (hput.le _), hk, k2, k3, fun ep => by rw [ep] at k1; exact k1⟩
 ·rw [if_neg e] at hs
  cases hs
theorem sdr_none {y : Sy} {p i : Nat} (h : sdr y p i = none) : (y.hH p i).k ≠ 3 := by
 intro e
 rw [sdr, if_pos e] at h
 cases h
theorem can_sdr_iff {y : Sy} (hO : y.Ok) {d : Nat -> Nat} {p : Nat} (hp : p < y.pn) (hl : d p < y.hL p) : y.hs.Can d p ↔ ∀ s, sdr y p (d p) = some s -> s.2 < d s.1 := by
 constructor
 ·intro hc s hs
  obtain ⟨h1, h2, h3, h4, h5, h6, h7, -⟩ := sdr_at hO hp hl hs
  have h8 : cnt (y.hH p) 3 (y.hH p (d p)).q (d p) < cnt (y.hH (y.hH p (d p)).q.toNat) 2 p (d (y.hH p (d p)).q.toNat) := hc.2 h1
  rw [h2, Int.toNat_natCast, <- h7] at h8
  refine Decidable.byContradiction fun hn => ?_
  have := cnt_mono (y.hH s.1) 2 p (show d s.1 <= s.2 by omega)
  omega
 ·intro h
  refine ⟨hl, fun e => ?_⟩
  cases hs : sdr y p (d p) with
  | none => exact absurd e (sdr_none hs)
  | some s =>
   obtain ⟨h1, h2, h3, h4, h5, h6, h7, -⟩ := sdr_at hO hp hl hs
   have hlt := h s hs
   show cnt (y.hH p) 3 (y.hH p (d p)).q (d p) < cnt (y.hH (y.hH p (d p)).q.toNat) 2 p (d (y.hH p (d p)).q.toNat)
   rw [h2, Int.toNat_natCast, <- h7]
   have h9 := cnt_mono (y.hH s.1) 2 p (show s.2 + 1 <= d s.1 by omega)
   rw [cnt_hit h6] at h9
   omega
open Go.Maps
theorem run_ckI0 (a b c d : Int) (w : World) : (Instr.index 71 (.agg #[.int .i64 a, .int .i64 b, .int .i64 c, .int .i64 d]) (.int .i64 0)).run Tryz.prog w = .ok (.int .i64 a) w := by kernel_rfl
theorem run_ckI1 (a b c d : Int) (w : World) : (Instr.index 71 (.agg #[.int .i64 a, .int .i64 b, .int .i64 c, .int .i64 d]) (.int .i64 1)).run Tryz.prog w = .ok (.int .i64 b) w := by kernel_rfl
theorem run_ckI2 (a b c d : Int) (w : World) : (Instr.index 71 (.agg #[.int .i64 a, .int .i64 b, .int .i64 c, .int .i64 d]) (.int .i64 2)).run Tryz.prog w = .ok (.int .i64 c) w := by kernel_rfl
theorem run_ckI3 (a b c d : Int) (w : World) : (Instr.index 71 (.agg #[.int .i64 a, .int .i64 b, .int .i64 c, .int .i64 d]) (.int .i64 3)).run Tryz.prog w = .ok (.int .i64 d) w := by kernel_rfl
section
attribute [local go_sem] run_ckI0 run_ckI1 run_ckI2 run_ckI3
end
def hisZ (ha : Option Addr) (hn hc : Nat) : List Value := [.slice ha hn hc, .int .i64 0, .int .i64 0, .int .i64 0, .int .i64 0, .int .i64 0, .int .i64 0, .int .i64 0, .int .i64 0, .int .i64 0, .int .i64 0, .int .i64 0, .int .i64 0, .int .i64 0, .int .i64 0, .int .i64 0, .int .i64 0, .int .i64 0, .int .i64 0, .int .i64 0, .int .i64 0]
theorem hisZ_len (ha : Option Addr) (hn hc : Nat) : (hisZ ha hn hc).length = 21 := rfl
theorem hisZ_one (ha : Option Addr) (hn hc : Nat) : ∀ v ∈ hisZ ha hn hc, v.oneCell' = true := by
 intro v hv
 simp only [hisZ, List.mem_cons, List.not_mem_nil, or_false] at hv
 rcases hv with rfl | rfl | rfl | rfl | rfl | rfl | rfl | rfl | rfl | rfl | rfl | rfl | rfl | rfl | rfl | rfl | rfl | rfl | rfl | rfl | rfl <;> rfl
theorem infoHz : (Tryz.prog.info? 74).map (·.size) = some 21 := by kernel_rfl
theorem HisQ.of_range {w : World} {X : Nat} {x : SysIn} (h : w.rangeAt X 0 (hisZ x.ha x.hn x.hc)) (hn : x.hn = x.pn) (hf : ∀ j, w.frozen? ⟨X, j, none⟩ = false) : HisQ w X x.ha x.hc x.y.hs (fun _ => 0) := by
 have hz : ∀ j, j < 20 -> w.cell? ⟨X, 1 + j, none⟩ = some (.int .i64 0) := fun j hj => by
  have h1 : (hisZ x.ha x.hn x.hc)[1 + j]? = some (.int .i64 0) := by
   match j, hj with
   | 0, _ => rfl
   | 1, _ => rfl
   | 2, _ => rfl
   | 3, _ => rfl
   | 4, _ => rfl
   | 5, _ => rfl
   | 6, _ => rfl
   | 7, _ => rfl
   | 8, _ => rfl
   | 9, _ => rfl
   | 10, _ => rfl
   | 11, _ => rfl
   | 12, _ => rfl
   | 13, _ => rfl
   | 14, _ => rfl
   | 15, _ => rfl
   | 16, _ => rfl
   | 17, _ => rfl
   | 18, _ => rfl
   | 19, _ => rfl
   | n + 20, h => exact absurd h (by omega)
  have := h (1 + j) _ h1
  rwa [Nat.zero_add] at this
 refine ⟨?_, fun i hi => hz i (by omega), fun a b ha hb => ?_, hf⟩
 ·have := h 0 _ rfl
  show w.cell? ⟨X, 0, none⟩ = some (.slice x.ha x.pn x.hc)
  rw [<- hn]
  exact this
 ·rw [Hs.opn_start, show 5 + a * 4 + b = 1 + (4 + a * 4 + b) by omega]
  exact hz _ (by omega)
theorem BoxC.blkK {w w' : World} {N : Nat} {p vr vo code : Value} (h : BoxC w N p vr vo code) (hb : w'.heap[N]? = w.heap[N]?) : BoxC w' N p vr vo code := by
 obtain ⟨h0, h1, h2, h3⟩ := h
 exact ⟨(zH hb).trans h0, (zH hb).trans h1, (zH hb).trans h2, (zH hb).trans h3⟩
def BoxS (w : World) (N : Nat) (a b : Value) : Prop := w.cell? ⟨N, 0, none⟩ = some a /\ w.cell? ⟨N, 1, none⟩ = some b
theorem BoxS.lt {w : World} {N : Nat} {a b : Value} (h : BoxS w N a b) : N < w.heap.size := zJ w _ h.1
theorem BoxS.blk {w w' : World} {N : Nat} {a b : Value} (h : BoxS w N a b) (hb : w'.heap[N]? = w.heap[N]?) : BoxS w' N a b := ⟨(zH hb).trans h.1, (zH hb).trans h.2⟩
theorem BoxS.below {w w' : World} {N : Nat} {a b : Value} (h : BoxS w N a b) (hb : Below w.heap.size w w') : BoxS w' N a b := h.blk (hb.block N h.lt)
theorem BoxS.new (w : World) (a b : Value) (t : TypeId) : BoxS (w.alloc (.cells #[a, b] t)) w.heap.size a b := ⟨zV _ _ _ 0 rfl, zV _ _ _ 1 rfl⟩
end Go.Proofs.YthdaejgmfognbaaGreatDoor
