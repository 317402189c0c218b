/- Lists of ints and what came in, while other blocks turn. -/
import Derived.Test.YtbleeedbiipfnaaGreatDoorHc0
import Derived.Test.YtbleeedbiipfnaaGreatDoorHc39
import Derived.Test.YtbleeedbiipfnaaGreatDoorHc27
import Derived.Deep.RegionWith
import Derived.Test.YtbleeedbiipfnaaGreatDoorHc41
import Derived.BigQuiet
namespace Go.Proofs.YtbleeedbiipfnaaGreatDoor
set_option maxRecDepth 100000
set_option maxHeartbeats 1000000
open Go.ChangeShapes Go.WideShapes Go.ChangeAt Go.RowKit Go.Deep Go.Sort
theorem IsSys.g2 {w : World} {lo hi : Nat} {x : SysIn} {v : Value} (o : IsSys w lo hi x v) : ∃ x' : SysIn, v = x'.v ∧ SysG w x' ∧ x'.y = x.y ∧ ∀ i, i < x'.hn → x'.hL i ≤ x'.hC i := by
 obtain ⟨D1, D2, D3, D4, b1, vs, b3, b4, h1, h2, h3, o⟩ := o
 obtain ⟨q1, q2, q3, q4, -⟩ := o.hi
 have hst : ∀ i, i < x.sn → ∃ t : Option Addr × Nat × Option Addr × Nat, vs i = stV (x.sS i).p t.1 (x.sS i).rs.length t.2.1 t.2.2.1 (x.sS i).os.length t.2.2.2 (x.sS i).c ∧ w.cell? ⟨D2, i * 4, none⟩ = some (.int .i64 (x.sS i).p) ∧ w.cell? ⟨D2, i * 4 + 1, none⟩ = some (.slice t.1 (x.sS i).rs.length t.2.1) ∧ w.cell? ⟨D2, i * 4 + 2, none⟩ = some (.slice t.2.2.1 (x.sS i).os.length t.2.2.2) ∧ w.cell? ⟨D2, i * 4 + 3, none⟩ = some (.int .i64 (x.sS i).c) := by
  intro i hi
  obtain ⟨ra, rc, oa, oc, e, c0, c1, c2, c3⟩ := o.ss.cel i hi
  exact ⟨(ra, rc, oa, oc), e, c0, c1, c2, c3⟩
 have inh : Inhabited (Option Addr × Nat × Option Addr × Nat) := ⟨(none, 0, none, 0)⟩
 obtain ⟨t, ht⟩ := Go.Deep.choose_lt hst
 refine ⟨⟨some ⟨D1, 0, none⟩, x.pn, x.pn, fun i => some ⟨b1 i, 0, none⟩, x.pL, x.pL, x.pH, some ⟨D2, 0, none⟩, x.sn, x.sn, fun i => ⟨(x.sS i).p, (t i).1, (t i).2.1, (x.sS i).rs, (t i).2.2.1, (t i).2.2.2, (x.sS i).os, (x.sS i).c⟩, some ⟨D3, 0, none⟩, x.wn, x.wn, fun i => some ⟨b3 i, 0, none⟩, x.wL, x.wL, x.wH, some ⟨D4, 0, none⟩, x.hn, x.hn, fun i => some ⟨b4 i, 0, none⟩, x.hL, x.hL, x.hH⟩, o.val, ?_, rfl, fun i _ => Nat.le_refl _⟩
 have l1 := o.pp.lt
 have l2 := o.ss.lt
 have l3 := o.ww.lt
 have l4 := o.hh.lt
 refine ⟨.inr ⟨D1, 0, rfl, by omega, fun i hi => ?_⟩, fun i hi => ⟨b1 i, rfl, Nat.lt_of_lt_of_le (o.pp.bd i hi).2 o.pp.le, o.pp.row i hi⟩, ⟨.inr ⟨D2, 0, rfl, by omega, fun i hi => ?_⟩, fun i hi => ?_⟩, .inr ⟨D3, 0, rfl, by omega, fun i hi => ?_⟩, fun i hi => .inr ⟨b3 i, 0, rfl, Nat.lt_of_lt_of_le (o.ww.bd i hi).2 o.ww.le, o.ww.row i hi⟩, .inr ⟨D4, 0, rfl, by omega, fun i hi => ?_⟩, fun i hi => .inr ⟨b4 i, 0, rfl, Nat.lt_of_lt_of_le (o.hh.bd i hi).2 o.hh.le, o.hh.row i hi⟩⟩
 ·have := o.pp.cel i hi
  simpa using this
 ·have := (ht i hi).2
  simpa using this
 ·have h4 := o.ss.own i hi
  rw [(ht i hi).1] at h4
  exact ⟨h4.parts.1.slOf, h4.parts.2.1.slOf⟩
 ·have := o.ww.cel i hi
  simpa using this
 ·have := o.hh.cel i hi
  simpa using this
theorem SysIn.len_of {x x' : SysIn} (hs : x.size ≤ 1048576) (hy : x'.y = x.y) : x'.Len := by
 have l := SysIn.lens hs
 have e1 : x'.pn = x.pn := congrArg Sy.pn hy
 have e2 : x'.pL = x.pL := congrArg Sy.pL hy
 have e3 : x'.sn = x.sn := congrArg Sy.sn hy
 have e4 : x'.sS = x.sS := congrArg Sy.sS hy
 have e5 : x'.wn = x.wn := congrArg Sy.wn hy
 have e6 : x'.wL = x.wL := congrArg Sy.wL hy
 have e7 : x'.hn = x.hn := congrArg Sy.hn hy
 have e8 : x'.hL = x.hL := congrArg Sy.hL hy
 refine ⟨⟨by omega, fun i hi => ?_⟩, ⟨by omega, fun i hi => ?_⟩, ⟨by omega, fun i hi => ?_⟩, ⟨by omega, fun i hi => ?_⟩⟩
 ·rw [e2]
  exact sum_le l.1.2 i (by omega)
 ·have h1 := SysIn.lensS hs i (by omega)
  have h2 : x'.sS i = x.sS i := by rw [e4]
  have h3 : (x'.sQ i).rs = (x.sQ i).rs := congrArg S4.rs h2
  have h4 : (x'.sQ i).os = (x.sQ i).os := congrArg S4.os h2
  rw [h3, h4]
  exact h1
 ·rw [e6]
  exact sum_le l.2.2.1.2 i (by omega)
 ·rw [e8]
  exact sum_le l.2.2.2.2 i (by omega)
structure Px (W : World) (x : SysIn) (w : World) : Prop where
 be : Below W.heap.size W w
 bx : BoxC w W.heap.size (.slice x.pa x.pn x.pc) (.slice x.sa x.sn x.sc) (.slice x.wa x.wn x.wc) (.slice x.ha x.hn x.hc)
 lt : W.heap.size < w.heap.size
theorem Px.below {W : World} {x : SysIn} {w w' : World} (h : Px W x w) (hb : Below w.heap.size w w') : Px W x w' := ⟨h.be.trans (hb.mono (Nat.le_of_lt h.lt)), h.bx.below hb, Nat.lt_of_lt_of_le h.lt hb.size⟩
def chN (x : SysIn) (p : Nat) : Nat := if x.nq p = 9 then x.pn else 1
def rdL (c : Nat → Int) : Nat → List Int
 | 0 => []
 | k + 1 => if c k = 0 then rdL c k ++ [(k : Int)] else rdL c k
theorem rdL_hit {c : Nat → Int} {k : Nat} (h : c k = 0) : rdL c (k + 1) = rdL c k ++ [(k : Int)] := by rw [rdL, if_pos h]
theorem rdL_not {c : Nat → Int} {k : Nat} (h : ¬ c k = 0) : rdL c (k + 1) = rdL c k := by rw [rdL, if_neg h]
theorem rdL_le (c : Nat → Int) (k : Nat) : (rdL c k).length ≤ k := by
 induction k with
 | zero => simp [rdL]
 | succ k ih =>
  rw [rdL]
  split
  ·rw [List.length_append]; simp; exact ih
  ·omega
theorem cmV_ev (x : SysIn) (p : Nat) (f : Int) : ∃ k q v : Int, cmV x p f = evV k q v := by
 unfold cmV
 split
 ·split
  ·obtain ⟨k, q, v, h, -⟩ := tkV_ev x p (if x.nq p = 9 then f else x.nq p)
   exact ⟨k, q, v, h⟩
  ·exact ⟨_, _, _, rfl⟩
 ·exact ⟨_, _, _, rfl⟩
theorem choicesIn_any (x : SysIn) (p : Nat) (w : World) (hG : SysG w x) (hL : x.Len) (hp : p < x.pn) (hs : x.sn = x.pn) (hP : progOkB (x.pH p) (x.pL p) 4 = true) :
  Calls Tryz.prog 145 #[x.v, .int .i64 p] w fun e w' => e = .returned (.int .i64 (chN x p : Nat)) ∧ Below w.heap.size w w' := by
 have HG : Hid (SysG w x) := hG
 have HB : Hid (∀ wx, Calls Tryz.prog 52 #[.int .i64 p, .int .i64 x.pn] wx fun e w' => e = .returned (.bool true) ∧ w' = wx) := fun wx => by
  have := isBelow_any p x.pn wx
  rw [show belB (p : Int) x.pn = true by simp only [belB, decide_eq_true_eq]; omega] at this
  exact this
 have hp' : (p : Int) < (x.pn : Int) := by omega
 have hps : (p : Int) < (x.sn : Int) := by omega
 have hsp : p < x.sn := by omega
 have HM : Hid (x.pL p ≤ maxLen ∧ (x.sQ p).os.length ≤ 1048576) := ⟨by have := hL.p.2 p hp; unfold maxLen; omega, (hL.s.2 p (by omega)).2⟩
 have HP : Hid (progOkB (x.pH p) (x.pL p) 4 = true) := hP
 have HN : Hid (nxK (x.pH p) (x.pL p) (x.sQ p).p (x.sQ p).rs (x.sQ p).os (x.sQ p).c = x.nk p ∧ nxP (x.pH p) (x.pL p) (x.sQ p).p (x.sQ p).rs (x.sQ p).os (x.sQ p).c = x.nq p ∧ nxW (x.pH p) (x.pL p) (x.sQ p).p (x.sQ p).rs (x.sQ p).os (x.sQ p).c = x.nv p) := ⟨rfl, rfl, rfl⟩
 have HC : Hid (chN x p = if x.nq p = 9 then x.pn else 1) := rfl
 generalize chN x p = C at *
 generalize x.nk p = K at *
 generalize x.nq p = Q at *
 generalize x.nv p = Y at *
 have BW : Hid (Below w.heap.size w (w.alloc (oQ4 x.pa x.pn x.pc x.sa x.sn x.sc x.wa x.wn x.wc x.ha x.hn x.hc))) := below_alloc _ _
 have NB : Hid (BoxC (w.alloc (oQ4 x.pa x.pn x.pc x.sa x.sn x.sc x.wa x.wn x.wc x.ha x.hn x.hc)) w.heap.size (.slice x.pa x.pn x.pc) (.slice x.sa x.sn x.sc) (.slice x.wa x.wn x.wc) (.slice x.ha x.hn x.hc)) := BoxC.new w _ _ _ _ _
 clear hG hL hs hP
 go_enter Tryz.func145, Tryz.ntmps145
 go_wp2_with fail
 generalize w.alloc (oQ4 x.pa x.pn x.pc x.sa x.sn x.sc x.wa x.wn x.wc x.ha x.hn x.hc) = W2 at *
 obtain ⟨bp, op, ep, cp⟩ := (HG.out.below BW.out).p.at hp
 obtain ⟨b', eb', hbl, hI⟩ := (HG.out.below BW.out).pi p hp
 obtain ⟨bs, os, es, s0, s1, s2, s3⟩ := (HG.out.below BW.out).s.at hsp
 obtain ⟨l1, l2⟩ := (HG.out.below BW.out).s.lst p hsp
 obtain ⟨b0, b1, -, -⟩ := NB.out
 rw [eb'] at cp
 rw [ep] at b0
 rw [es] at b1
 have HI : Hid (∀ d os', b' < (grow (redrawn W2 d) os').heap.size ∧ InsAt (grow (redrawn W2 d) os') b' 0 (x.pL p) (x.pH p)) := fun d os' => ⟨Nat.lt_of_lt_of_le hbl (below_regrown W2 d os').size, hI.below (below_regrown W2 d os') hbl⟩
 have HS : Hid (∀ d os', Sl (grow (redrawn W2 d) os') (x.sQ p).ra (x.sQ p).rs ∧ Sl (grow (redrawn W2 d) os') (x.sQ p).oa (x.sQ p).os) := fun d os' => ⟨l1.below (below_regrown W2 d os'), l2.below (below_regrown W2 d os')⟩
 generalize x.sQ p = S at *
 have HNx : Hid (∀ d os', Calls Tryz.prog 129 #[.slice (some ⟨b', 0, none⟩) (x.pL p) (x.pC p), stV S.p S.ra S.rs.length S.rc S.oa S.os.length S.oc S.c] (grow (redrawn W2 d) os') fun e w' => e = .returned (.agg #[.int .i64 K, .int .i64 Q, .int .i64 Y]) ∧ Below (grow (redrawn W2 d) os').heap.size (grow (redrawn W2 d) os') w') := fun d os' => by
  have := nextIn_any b' 0 (x.pL p) (x.pC p) (x.pH p) S.p S.c S.ra S.oa S.rc S.oc S.rs S.os _ HM.out.1 (HI.out d os').1 (HI.out d os').2 HM.out.2 (HS.out d os').1 (HS.out d os').2 HP.out
  rw [HN.out.1, HN.out.2.1, HN.out.2.2] at this
  exact this
 have hfd : ∀ wx : World, (Instr.field 91 (.agg #[.int .i64 K, .int .i64 Q, .int .i64 Y]) 1).run Tryz.prog wx = .ok (.int .i64 Q) wx := fun _ => by kernel_rfl
 have b0' := cell_regrown b0
 have b1' := cell_regrown b1
 have cp' := cell_regrown cp
 have s0' := cell_regrown s0
 have s1' := cell_regrown s1
 have s2' := cell_regrown s2
 have s3' := cell_regrown s3
 clear hI l1 l2 ep eb' es hbl HI HS HM HP HN
 refine wp_region_quiet_below (by kernel_rfl) (by kernel_rfl) ?_
 repeat (quiet_step (first | (go_at_call 52; exact Calls.regrown_same (HB.out _)) | (go_at_call 129; exact Calls.regrown_of (HNx.out _ _))))
 refine wpQuiet_nil ?_
 intro _ hw'
 obtain ⟨⟨dq, osq⟩, hw''⟩ := hw'
 subst hw''
 have B3 : Hid (Below w.heap.size w (grow (redrawn W2 dq) osq)) := BW.out.trans ((below_regrown W2 dq osq).mono BW.out.size)
 have N3 := (NB.out.below (below_regrown W2 dq osq)).1
 generalize grow (redrawn W2 dq) osq = w3 at *
 clear hfd b0' b1' cp' s0' s1' s2' s3' b0 b1 cp s0 s1 s2 s3 HNx HB
 rcases Bool.eq_false_or_eq_true (Q == 9) with t | t
 ·have HV : Hid (C = x.pn) := by
   show C = x.pn
   rw [HC.out, if_pos (by simpa using t)]
  rw [t]
  clear HC
  go_wp2
  go_ret
  rw [HV.out]
  exact ⟨rfl, B3.out⟩
 ·have HV : Hid (C = 1) := by
   show C = 1
   rw [HC.out, if_neg (by simpa using t)]
  rw [t]
  clear HC
  go_wp2
  go_ret
  rw [HV.out]
  exact ⟨rfl, B3.out⟩
theorem box_low {w w' : World} {N : Nat} {a b c d : Value} (h : Below (N + 1) w w') (o : BoxC w N a b c d) : BoxC w' N a b c d :=
 ⟨(h.cell (p := ⟨N, 0, none⟩) (Nat.lt_succ_self _)).trans o.1, (h.cell (p := ⟨N, 1, none⟩) (Nat.lt_succ_self _)).trans o.2.1, (h.cell (p := ⟨N, 2, none⟩) (Nat.lt_succ_self _)).trans o.2.2.1, (h.cell (p := ⟨N, 3, none⟩) (Nat.lt_succ_self _)).trans o.2.2.2⟩
theorem readyIn_of (x : SysIn) (p : Int) (n : Nat) (c : Nat → Int) (w : World) (hn : n ≤ 4)
  (hC : ∀ wx, Below w.heap.size w wx → Calls Tryz.prog 145 #[x.v, .int .i64 p] wx fun e w' => e = .returned (.int .i64 n) ∧ Below wx.heap.size wx w')
  (hM : ∀ (j : Nat), j < n → ∀ wx, Below w.heap.size w wx → Calls Tryz.prog 72 #[x.v, .int .i64 p, .int .i64 j] wx fun e w' => ∃ k q v : Int, e = .returned (.tuple #[.agg #[.int .i64 k, .int .i64 q, .int .i64 v], .int .i64 (c j)]) ∧ Below wx.heap.size wx w') :
  Calls Tryz.prog 77 #[x.v, .int .i64 p] w fun e w' => ∃ v, e = .returned v ∧ OwnI w' w.heap.size v (rdL c n) ∧ Below w.heap.size w w' := by
 have hl' : (n : Int) ≤ 4 := by omega
 have HC : Hid (∀ wx, Below w.heap.size w wx → Calls Tryz.prog 145 #[x.v, .int .i64 p] wx fun e w' => e = .returned (.int .i64 n) ∧ Below wx.heap.size wx w') := hC
 have HM : Hid (∀ (j : Nat), j < n → ∀ wx, Below w.heap.size w wx → Calls Tryz.prog 72 #[x.v, .int .i64 p, .int .i64 j] wx fun e w' => ∃ k q v : Int, e = .returned (.tuple #[.agg #[.int .i64 k, .int .i64 q, .int .i64 v], .int .i64 (c j)]) ∧ Below wx.heap.size wx w') := hM
 have BW : Hid (Below w.heap.size w ((w.alloc (oQ4 x.pa x.pn x.pc x.sa x.sn x.sc x.wa x.wn x.wc x.ha x.hn x.hc)).alloc (.cells #[] 3))) := (below_alloc _ _).trans ((below_alloc _ _).mono (by simp))
 have NB : Hid (BoxC ((w.alloc (oQ4 x.pa x.pn x.pc x.sa x.sn x.sc x.wa x.wn x.wc x.ha x.hn x.hc)).alloc (.cells #[] 3)) w.heap.size (.slice x.pa x.pn x.pc) (.slice x.sa x.sn x.sc) (.slice x.wa x.wn x.wc) (.slice x.ha x.hn x.hc)) := (BoxC.new w _ _ _ _ _).below (below_alloc _ _)
 have NO : Hid (OwnI ((w.alloc (oQ4 x.pa x.pn x.pc x.sa x.sn x.sc x.wa x.wn x.wc x.ha x.hn x.hc)).alloc (.cells #[] 3)) (w.heap.size + 1) (.slice (some ⟨w.heap.size + 1, 0, none⟩) 0 0) []) := by
  have := own_empty (w.alloc (oQ4 x.pa x.pn x.pc x.sa x.sn x.sc x.wa x.wn x.wc x.ha x.hn x.hc))
  simp only [World.size_alloc] at this
  exact this
 clear hC hM
 go_enter Tryz.func77, Tryz.ntmps77
 go_wp2_with fail
 generalize (w.alloc (oQ4 x.pa x.pn x.pc x.sa x.sn x.sc x.wa x.wn x.wc x.ha x.hn x.hc)).alloc (.cells #[] 3) = W2 at *
 refine (HC.out W2 BW.out).mono ?_
 rintro e w3 ⟨rfl, b3⟩
 have F3 : Hid (Below w.heap.size w w3 ∧ BoxC w3 w.heap.size (.slice x.pa x.pn x.pc) (.slice x.sa x.sn x.sc) (.slice x.wa x.wn x.wc) (.slice x.ha x.hn x.hc) ∧ OwnI w3 (w.heap.size + 1) (.slice (some ⟨w.heap.size + 1, 0, none⟩) 0 0) []) := ⟨BW.out.trans (b3.mono BW.out.size), NB.out.below b3, NO.out.below b3⟩
 clear b3 NB BW NO HC
 go_wp2_with fail
 go_loopw [5, 13] (fun o i wr => ∃ k : Nat, k ≤ n ∧ i = .int .i64 k ∧ Hid (OwnI wr (w.heap.size + 1) o (rdL c k)) ∧ Hid (Below w.heap.size w wr ∧ BoxC wr w.heap.size (.slice x.pa x.pn x.pc) (.slice x.sa x.sn x.sc) (.slice x.wa x.wn x.wc) (.slice x.ha x.hn x.hc))) (fun _ i _ => n - (intOf i).toNat)
 case atStart => exact ⟨0, Nat.zero_le _, rfl, F3.out.2.2, F3.out.1, F3.out.2.1⟩
 case round =>
  clear F3
  obtain ⟨k, hk, rfl, HO, FB⟩ := hrel
  have hs := FB.out.1.size
  by_cases hlt : k < n
  ·have hlt' : (k : Int) < (n : Int) := by omega
   have hvl := rdL_le c k
   obtain ⟨m0, m1, m2, m3⟩ := FB.out.2
   go_wp2_with fail
   refine (HM.out k hlt wr FB.out.1).mono ?_
   rintro e w5 ⟨ek, eq, ev, rfl, b5⟩
   have B5 : Hid (Below w.heap.size w w5 ∧ BoxC w5 w.heap.size (.slice x.pa x.pn x.pc) (.slice x.sa x.sn x.sc) (.slice x.wa x.wn x.wc) (.slice x.ha x.hn x.hc) ∧ OwnI w5 (w.heap.size + 1) u5 (rdL c k)) := ⟨FB.out.1.trans (b5.mono hs), FB.out.2.below b5, HO.out.below b5⟩
   have hs5 : w.heap.size ≤ w5.heap.size := B5.out.1.size
   have hs6 : w.heap.size + 1 ≤ w5.heap.size := World.block_lt_of_cell? w5 ⟨w.heap.size, 0, none⟩ B5.out.2.1.1
   have HA : Hid (∀ o, Below w.heap.size w (w5.alloc o) ∧ BoxC (w5.alloc o) w.heap.size (.slice x.pa x.pn x.pc) (.slice x.sa x.sn x.sc) (.slice x.wa x.wn x.wc) (.slice x.ha x.hn x.hc) ∧ OwnI (w5.alloc o) (w.heap.size + 1) u5 (rdL c k)) := fun o => ⟨B5.out.1.trans ((below_alloc _ _).mono hs5), B5.out.2.1.below (below_alloc _ _), B5.out.2.2.below (below_alloc _ _)⟩
   clear b5 m0 m1 m2 m3 HO FB
   rcases Bool.eq_false_or_eq_true (c k == 0) with t | t
   ·have HH : Hid (rdL c (k + 1) = rdL c k ++ [(k : Int)]) := rdL_hit (by simpa using t)
    have h0 : c k = 0 := by simpa using t
    rw [h0]
    clear h0 t
    go_wp2_with (at_builtin; refine append_oneN _ (N := w5.heap.size + 1) (by simp) rfl _ _ rfl (w.heap.size + 1) u5 (rdL c k) rfl (HA.out _).2.2 (k : Int) rfl (by omega) (by simp; omega) ?_; intro v' w6 o6 b6; have H6 : Hid (OwnI w6 (w.heap.size + 1) v' (rdL c (k + 1)) ∧ Below w.heap.size w w6 ∧ BoxC w6 w.heap.size (.slice x.pa x.pn x.pc) (.slice x.sa x.sn x.sc) (.slice x.wa x.wn x.wc) (.slice x.ha x.hn x.hc)) := ⟨o6.to HH.out, (HA.out _).1.trans (b6.mono (Nat.le_succ _)), box_low b6 (HA.out _).2.1⟩; clear o6 b6)
    go_roundw
    case rel => exact ⟨k + 1, by omega, by go_num, H6.out.1, H6.out.2⟩
    case measure => simp [intOf]; omega
   ·have HH : Hid (rdL c (k + 1) = rdL c k) := rdL_not (by simpa using t)
    go_wp2
    go_roundw
    case rel => exact ⟨k + 1, by omega, by go_num, (HA.out _).2.2.to HH.out, (HA.out _).1, (HA.out _).2.1⟩
    case measure => simp [intOf]; omega
  ·have hkl : k = n := by omega
   have H4 : Hid (OwnI wr (w.heap.size + 1) u5 (rdL c n)) := by
    have := HO.out
    rw [hkl] at this
    exact this
   clear HO hkl
   go_wp2
   go_ret
   exact ⟨_, rfl, H4.out.mono (Nat.le_succ _), FB.out.1⟩
theorem send_peer {x : SysIn} (h : x.y.Ok) {p : Nat} (hp : p < x.pn) (hk : x.nk p = 2) : 0 ≤ x.nq p ∧ x.nq p < x.pn := by
 unfold SysIn.nk nxK at hk
 unfold SysIn.nq nxP
 by_cases hr : rightB (x.pH p) (x.pL p) (x.sQ p).p (x.sQ p).rs (x.sQ p).os (x.sQ p).c = true
 ·rw [if_pos hr] at hk ⊢
  obtain ⟨-, h4, -⟩ := right_parts hr
  obtain ⟨-, ⟨k, ek, hkl⟩, -⟩ := st_parts h4
  have e : (x.sQ p).p.toNat = k := by omega
  rw [e] at hk ⊢
  have h5 := right_ins (h.pr p hp) hkl
  simp only [insOkB, Bool.and_eq_true] at h5
  have h6 := h5.2
  change opOkB (x.pH p k).o (x.pH p k).r (x.pH p k).a (x.pH p k).b (x.pH p k).n (x.pL p) x.pn = true at h6
  have e6 : (x.pH p k).o = 6 := by
   unfold evK at hk
   by_cases e6 : (x.pH p k).o = 6
   ·exact e6
   ·rw [if_neg e6] at hk
    split at hk
    ·cases hk
    ·split at hk <;> cases hk
  rw [evP, if_pos e6]
  simp [opOkB, e6, inB] at h6
  omega
 ·rw [if_neg hr] at hk
  cases hk
theorem prog_four {x : SysIn} (h : x.y.Ok) {p : Nat} (hp : p < x.pn) : progOkB (x.pH p) (x.pL p) 4 = true := (repO_some (h.rp p hp)).1
def rdX (x : SysIn) (p : Nat) : List Int := rdL (fun j => cmC x p j) (chN x p)
noncomputable def hltB (x : SysIn) : Bool := x.y.okB && (List.range x.pn).all fun p => (rdX x p).isEmpty
theorem readyIn_any (x : SysIn) (p : Nat) (w : World) (hG : SysG w x) (hL : x.Len) (hO : x.y.Ok) (hp : p < x.pn) :
  Calls Tryz.prog 77 #[x.v, .int .i64 p] w fun e w' => ∃ v, e = .returned v ∧ OwnI w' w.heap.size v (rdX x p) ∧ Below w.heap.size w w' := by
 obtain ⟨⟨-, h4⟩, hs, hh, hw⟩ := hO.cn
 refine readyIn_of x p (chN x p) (fun j => cmC x p j) w ?_ (fun wx hb => choicesIn_any x p wx (hG.below hb) hL hp hs (prog_four hO hp)) (fun j _ wx hb => ?_)
 ·unfold chN
  split
  ·exact h4
  ·omega
 ·refine (comingIn_any x p j wx (hG.below hb) hL hp h4 hs hh hw (prog_four hO hp) (send_peer hO hp)).mono ?_
  rintro e w' ⟨rfl, b⟩
  obtain ⟨k, q, v, h⟩ := cmV_ev x p j
  exact ⟨k, q, v, by rw [h], b⟩
theorem implHalted_any (x : SysIn) (w : World) (hG : SysG w x) (hL : x.Len) (hV : w.cell? ⟨0, 0, none⟩ = some (.iface 269 (.agg #[.pointer (some ⟨1, 184, none⟩)]))) :
  Calls Tryz.prog 29 #[x.v] w fun e w' => e = .returned (.bool (hltB x)) ∧ Below w.heap.size w w' := by
 have HG : Hid (SysG w x) := hG
 have HL : Hid x.Len := hL
 have HS : Hid (∀ wx, Below w.heap.size w wx → Calls Tryz.prog 13 #[x.v] wx fun e w' => e = .returned (.bool x.y.okB) ∧ Below wx.heap.size wx w') := fun wx hb => implSysOk_any x wx (HG.out.below hb) hL ((hb.cell (p := ⟨0, 0, none⟩) (World.block_lt_of_cell? w _ hV)).trans hV)
 have BW : Hid (Below w.heap.size w (w.alloc (oQ4 x.pa x.pn x.pc x.sa x.sn x.sc x.wa x.wn x.wc x.ha x.hn x.hc))) := below_alloc _ _
 have NB : Hid (BoxC (w.alloc (oQ4 x.pa x.pn x.pc x.sa x.sn x.sc x.wa x.wn x.wc x.ha x.hn x.hc)) w.heap.size (.slice x.pa x.pn x.pc) (.slice x.sa x.sn x.sc) (.slice x.wa x.wn x.wc) (.slice x.ha x.hn x.hc)) := BoxC.new w _ _ _ _ _
 clear hG hL hV
 go_enter Tryz.func29, Tryz.ntmps29
 go_wp2_with fail
 generalize w.alloc (oQ4 x.pa x.pn x.pc x.sa x.sn x.sc x.wa x.wn x.wc x.ha x.hn x.hc) = W2 at *
 refine (HS.out W2 BW.out).mono ?_
 rintro e w3 ⟨rfl, b3⟩
 have F3 : Hid (Below w.heap.size w w3 ∧ BoxC w3 w.heap.size (.slice x.pa x.pn x.pc) (.slice x.sa x.sn x.sc) (.slice x.wa x.wn x.wc) (.slice x.ha x.hn x.hc)) := ⟨BW.out.trans (b3.mono BW.out.size), NB.out.below b3⟩
 clear b3 NB BW HS
 rcases Bool.eq_false_or_eq_true x.y.okB with t | t
 case inr =>
  have HN : Hid (hltB x = false) := by
   show hltB x = false
   rw [hltB, t, Bool.false_and]
  rw [t]
  go_wp2
  go_ret
  rw [HN.out]
  exact ⟨rfl, F3.out.1⟩
 have HO : Hid x.y.Ok := Sy.ok_of t
 have HN : Hid (hltB x = (List.range x.pn).all fun p => (rdX x p).isEmpty) := by
  show hltB x = _
  rw [hltB, t, Bool.true_and]
 rw [t]
 clear t
 have h4 : (x.pn : Int) ≤ 4 := by have := HO.out.cn.1.2; change x.pn ≤ 4 at this; omega
 obtain ⟨m0, m1, m2, m3⟩ := F3.out.2
 go_wp2_with fail
 clear m0 m1 m2 m3
 go_loopw [10] (fun i wr => ∃ k : Nat, k ≤ x.pn ∧ i = .int .i64 k ∧ Hid (∀ j, j < k → (rdX x j).isEmpty = true) ∧ Hid (Below w.heap.size w wr ∧ BoxC wr w.heap.size (.slice x.pa x.pn x.pc) (.slice x.sa x.sn x.sc) (.slice x.wa x.wn x.wc) (.slice x.ha x.hn x.hc))) (fun i _ => x.pn - (intOf i).toNat)
 case atStart => exact ⟨0, Nat.zero_le _, rfl, fun j hj => by omega, F3.out⟩
 case round =>
  clear F3
  obtain ⟨k, hk, rfl, HE, FB⟩ := hrel
  by_cases hlt : k < x.pn
  ·have hlt' : (k : Int) < (x.pn : Int) := by omega
   obtain ⟨m0, m1, m2, m3⟩ := FB.out.2
   go_wp2_with fail
   refine (readyIn_any x k wr (HG.out.below FB.out.1) HL.out HO.out hlt).mono ?_
   rintro e w5 ⟨v5, rfl, o5, b5⟩
   obtain ⟨a5, c5, rfl, -⟩ := o5.form
   have F5 : Hid (Below w.heap.size w w5 ∧ BoxC w5 w.heap.size (.slice x.pa x.pn x.pc) (.slice x.sa x.sn x.sc) (.slice x.wa x.wn x.wc) (.slice x.ha x.hn x.hc)) := ⟨FB.out.1.trans (b5.mono FB.out.1.size), FB.out.2.below b5⟩
   clear b5 o5 m0 m1 m2 m3 FB
   by_cases h0 : (rdX x k).length = 0
   ·have HE2 : Hid (∀ j, j < k + 1 → (rdX x j).isEmpty = true) := fun j hj => by
     by_cases e : j = k
     ·subst e
      rw [List.isEmpty_iff]
      exact List.eq_nil_of_length_eq_zero h0
     ·exact HE.out j (by omega)
    rw [h0]
    go_wp2
    go_roundw
    case rel => exact ⟨k + 1, by omega, by go_num, HE2.out, F5.out⟩
    case measure => simp [intOf]; omega
   ·have HF : Hid (hltB x = false) := by
     show hltB x = false
     rw [HN.out, List.all_eq_false]
     refine ⟨k, List.mem_range.2 hlt, ?_⟩
     rw [List.isEmpty_iff]
     intro e
     rw [e] at h0
     exact h0 rfl
    have h0' : (0 : Int) < ((rdX x k).length : Int) := by omega
    go_wp2
    go_ret
    rw [HF.out]
    exact ⟨rfl, F5.out.1⟩
  ·have HF : Hid (hltB x = true) := by
    show hltB x = true
    rw [HN.out, List.all_eq_true]
    intro j hj
    exact HE.out j (by have := List.mem_range.1 hj; omega)
   go_wp2
   go_ret
   rw [HF.out]
   exact ⟨rfl, FB.out.1⟩
theorem choicesIn_out (x : SysIn) (p : Int) (w : World) (t1 : belB p x.pn = false) :
  Calls Tryz.prog 145 #[x.v, .int .i64 p] w fun e w' => e = .returned (.int .i64 1) ∧ Below w.heap.size w w' := by
 have HB : Hid (∀ wx, Calls Tryz.prog 52 #[.int .i64 p, .int .i64 x.pn] wx fun e w' => e = .returned (.bool false) ∧ w' = wx) := fun wx => by
  have := isBelow_any p x.pn wx
  rw [t1] at this
  exact this
 have BW : Hid (Below w.heap.size w (w.alloc (oQ4 x.pa x.pn x.pc x.sa x.sn x.sc x.wa x.wn x.wc x.ha x.hn x.hc))) := below_alloc _ _
 have NB : Hid (BoxC (w.alloc (oQ4 x.pa x.pn x.pc x.sa x.sn x.sc x.wa x.wn x.wc x.ha x.hn x.hc)) w.heap.size (.slice x.pa x.pn x.pc) (.slice x.sa x.sn x.sc) (.slice x.wa x.wn x.wc) (.slice x.ha x.hn x.hc)) := BoxC.new w _ _ _ _ _
 have HT1 : Hid (belB p x.pn = false) := t1
 clear t1 HB
 go_enter Tryz.func145, Tryz.ntmps145
 go_wp2_with fail
 generalize w.alloc (oQ4 x.pa x.pn x.pc x.sa x.sn x.sc x.wa x.wn x.wc x.ha x.hn x.hc) = W2 at *
 have b0' := cell_regrown NB.out.1
 refine wp_region_quiet_below (by kernel_rfl) (by kernel_rfl) ?_
 iterate 4 (quiet_step (fail))
 quiet_step (first | (go_at_call 52; exact Calls.regrown_same (isBelow_any p x.pn _)))
 rw [HT1.out]
 repeat (first | go_big_quiet_skip | quiet_step (fail))
 refine wpQuiet_nil ?_
 intro _ hw'
 obtain ⟨⟨dq, osq⟩, hw''⟩ := hw'
 subst hw''
 have B3 : Hid (Below w.heap.size w (grow (redrawn W2 dq) osq)) := BW.out.trans ((below_regrown W2 dq osq).mono BW.out.size)
 generalize grow (redrawn W2 dq) osq = w3 at *
 clear b0' NB
 go_wp2
 go_ret
 exact ⟨rfl, B3.out⟩
theorem readyIn_out (x : SysIn) (p : Int) (w : World) (t1 : belB p x.pn = false) :
  Calls Tryz.prog 77 #[x.v, .int .i64 p] w fun e w' => ∃ v, e = .returned v ∧ OwnI w' w.heap.size v [] ∧ Below w.heap.size w w' := by
 refine readyIn_of x p 1 (fun _ => 2) w (by omega) (fun wx _ => choicesIn_out x p wx t1) (fun j _ wx _ => ?_)
 refine (comingIn_out x p j wx t1).mono ?_
 rintro e w' ⟨rfl, b⟩
 exact ⟨0, 0, 0, rfl, b⟩
theorem OwnI.far {w w' : World} {B : Nat} {v : Value} {xs : List Int} {row : Option Nat} (h : OwnI w B v xs) (hg : w.grownBy w' row) (hne : ∀ j, v.ownBlock = some j → row ≠ some j) : OwnI w' B v xs := by
 refine h.kept hg ?_
 cases hv : v.ownBlock with
 | none => exact .inl rfl
 | some k => exact .inr (fun e => hne k hv e.symm)
theorem OwnI.sl {w : World} {B : Nat} {a0 : Option Addr} {cap : Nat} {xs : List Int} (h : OwnI w B (.slice a0 xs.length cap) xs) : Sl w a0 xs := by
 obtain ⟨a1, c1, e, s⟩ := h.form
 simp only [Value.slice.injEq] at e
 obtain ⟨rfl, -, -⟩ := e
 exact s
theorem OwnI.touch {w w' : World} {B : Nat} {v : Value} {xs : List Int} {P : Nat → Prop} (o : OwnI w B v xs) (ht : Touch P w w') (hp : ∀ g, v.ownBlock = some g → ¬ P g) : OwnI w' B v xs := o.blk fun k hk => ht.block k (o.lt k hk).2 (hp k hk)
theorem Px.touch {W : World} {x : SysIn} {w w' : World} {P : Nat → Prop} (h : Px W x w) (ht : Touch P w w') (hp : ∀ b, P b → W.heap.size < b) : Px W x w' := by
 have hc : ∀ i, w'.cell? ⟨W.heap.size, i, none⟩ = w.cell? ⟨W.heap.size, i, none⟩ := fun i => ht.cell h.lt (fun e => by have := hp _ e; omega) i
 obtain ⟨h0, h1, h2, h3⟩ := h.bx
 exact ⟨h.be.trans (ht.below (Nat.le_of_lt h.lt) fun b e => by have := hp b e; omega), ⟨(hc _).trans h0, (hc _).trans h1, (hc _).trans h2, (hc _).trans h3⟩, Nat.lt_of_lt_of_le h.lt ht.size⟩
end Go.Proofs.YtbleeedbiipfnaaGreatDoor
