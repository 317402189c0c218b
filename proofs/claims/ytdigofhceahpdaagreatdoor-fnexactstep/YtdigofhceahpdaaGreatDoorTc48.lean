/- Between the calls of a law whose function answers a system. -/
import Derived.Test.YtdigofhceahpdaaGreatDoorTc0
import Derived.Test.YtdigofhceahpdaaGreatDoorTc43
import Derived.Test.YtdigofhceahpdaaGreatDoorTc34
import Derived.Deep.RegionWith
import Derived.Test.YtdigofhceahpdaaGreatDoorTc47
import Derived.Test.YtdigofhceahpdaaGreatDoorTc44
import Derived.Test.YtdigofhceahpdaaGreatDoorTc46
import Derived.Test.YtdigofhceahpdaaGreatDoorTc35
namespace Go.Proofs.YtdigofhceahpdaaGreatDoor
set_option maxRecDepth 100000
set_option maxHeartbeats 4000000
open Go.ChangeShapes Go.WideShapes Go.ChangeAt Go.RowKit Go.Deep Go.Sort
theorem IsSys.g2 {w : World} {lo hi : Nat} {x : SysIn} {v : Value} (o : IsSys w lo hi x v) : ∃ x' : SysIn, v = x'.v ∧ SysG w x' ∧ x'.y = x.y ∧ ∀ i, i < x'.hn → x'.hL i ≤ x'.hC i := by
 obtain ⟨D1, D2, D3, D4, b1, vs, b3, b4, h1, h2, h3, o⟩ := o
 obtain ⟨q1, q2, q3, q4, -⟩ := o.hi
 have hst : ∀ i, i < x.sn → ∃ t : Option Addr × Nat × Option Addr × Nat, vs i = stV (x.sS i).p t.1 (x.sS i).rs.length t.2.1 t.2.2.1 (x.sS i).os.length t.2.2.2 (x.sS i).c ∧ w.cell? ⟨D2, i * 4, none⟩ = some (.int .i64 (x.sS i).p) ∧ w.cell? ⟨D2, i * 4 + 1, none⟩ = some (.slice t.1 (x.sS i).rs.length t.2.1) ∧ w.cell? ⟨D2, i * 4 + 2, none⟩ = some (.slice t.2.2.1 (x.sS i).os.length t.2.2.2) ∧ w.cell? ⟨D2, i * 4 + 3, none⟩ = some (.int .i64 (x.sS i).c) := by
  intro i hi
  obtain ⟨ra, rc, oa, oc, e, c0, c1, c2, c3⟩ := o.ss.cel i hi
  exact ⟨(ra, rc, oa, oc), e, c0, c1, c2, c3⟩
 have inh : Inhabited (Option Addr × Nat × Option Addr × Nat) := ⟨(none, 0, none, 0)⟩
 obtain ⟨t, ht⟩ := Go.Deep.choose_lt hst
 refine ⟨⟨some ⟨D1, 0, none⟩, x.pn, x.pn, fun i => some ⟨b1 i, 0, none⟩, x.pL, x.pL, x.pH, some ⟨D2, 0, none⟩, x.sn, x.sn, fun i => ⟨(x.sS i).p, (t i).1, (t i).2.1, (x.sS i).rs, (t i).2.2.1, (t i).2.2.2, (x.sS i).os, (x.sS i).c⟩, some ⟨D3, 0, none⟩, x.wn, x.wn, fun i => some ⟨b3 i, 0, none⟩, x.wL, x.wL, x.wH, some ⟨D4, 0, none⟩, x.hn, x.hn, fun i => some ⟨b4 i, 0, none⟩, x.hL, x.hL, x.hH⟩, o.val, ?_, rfl, fun i _ => Nat.le_refl _⟩
 have l1 := o.pp.lt
 have l2 := o.ss.lt
 have l3 := o.ww.lt
 have l4 := o.hh.lt
 refine ⟨.inr ⟨D1, 0, rfl, by omega, fun i hi => ?_⟩, fun i hi => ⟨b1 i, rfl, Nat.lt_of_lt_of_le (o.pp.bd i hi).2 o.pp.le, o.pp.row i hi⟩, ⟨.inr ⟨D2, 0, rfl, by omega, fun i hi => ?_⟩, fun i hi => ?_⟩, .inr ⟨D3, 0, rfl, by omega, fun i hi => ?_⟩, fun i hi => .inr ⟨b3 i, 0, rfl, Nat.lt_of_lt_of_le (o.ww.bd i hi).2 o.ww.le, o.ww.row i hi⟩, .inr ⟨D4, 0, rfl, by omega, fun i hi => ?_⟩, fun i hi => .inr ⟨b4 i, 0, rfl, Nat.lt_of_lt_of_le (o.hh.bd i hi).2 o.hh.le, o.hh.row i hi⟩⟩
 ·have := o.pp.cel i hi
  simpa using this
 ·have := (ht i hi).2
  simpa using this
 ·have h4 := o.ss.own i hi
  rw [(ht i hi).1] at h4
  exact ⟨h4.parts.1.slOf, h4.parts.2.1.slOf⟩
 ·have := o.ww.cel i hi
  simpa using this
 ·have := o.hh.cel i hi
  simpa using this
theorem SysIn.len_of {x x' : SysIn} (hs : x.size ≤ 1048576) (hy : x'.y = x.y) : x'.Len := by
 have l := SysIn.lens hs
 have e1 : x'.pn = x.pn := congrArg Sy.pn hy
 have e2 : x'.pL = x.pL := congrArg Sy.pL hy
 have e3 : x'.sn = x.sn := congrArg Sy.sn hy
 have e4 : x'.sS = x.sS := congrArg Sy.sS hy
 have e5 : x'.wn = x.wn := congrArg Sy.wn hy
 have e6 : x'.wL = x.wL := congrArg Sy.wL hy
 have e7 : x'.hn = x.hn := congrArg Sy.hn hy
 have e8 : x'.hL = x.hL := congrArg Sy.hL hy
 refine ⟨⟨by omega, fun i hi => ?_⟩, ⟨by omega, fun i hi => ?_⟩, ⟨by omega, fun i hi => ?_⟩, ⟨by omega, fun i hi => ?_⟩⟩
 ·rw [e2]
  exact sum_le l.1.2 i (by omega)
 ·have h1 := SysIn.lensS hs i (by omega)
  have h2 : x'.sS i = x.sS i := by rw [e4]
  have h3 : (x'.sQ i).rs = (x.sQ i).rs := congrArg S4.rs h2
  have h4 : (x'.sQ i).os = (x.sQ i).os := congrArg S4.os h2
  rw [h3, h4]
  exact h1
 ·rw [e6]
  exact sum_le l.2.2.1.2 i (by omega)
 ·rw [e8]
  exact sum_le l.2.2.2.2 i (by omega)
structure Px (W : World) (x : SysIn) (w : World) : Prop where
 be : Below W.heap.size W w
 bx : BoxC w W.heap.size (.slice x.pa x.pn x.pc) (.slice x.sa x.sn x.sc) (.slice x.wa x.wn x.wc) (.slice x.ha x.hn x.hc)
 lt : W.heap.size < w.heap.size
theorem Px.below {W : World} {x : SysIn} {w w' : World} (h : Px W x w) (hb : Below w.heap.size w w') : Px W x w' := ⟨h.be.trans (hb.mono (Nat.le_of_lt h.lt)), h.bx.below hb, Nat.lt_of_lt_of_le h.lt hb.size⟩
theorem OwnSys.base {w : World} {B B' : Nat} {y : Sy} {v : Value} (o : OwnSys w B y v) (h : B' ≤ B) : OwnSys w B' y v := by
 obtain ⟨c, vp, vs, vw, vh, up, us, uw, uh, e, o⟩ := o
 exact ⟨c, vp, vs, vw, vh, up, us, uw, uh, e, o.p.mono fun _ q _ => ⟨Nat.le_trans h q.1, q.2⟩, o.s.mono fun _ q _ => ⟨Nat.le_trans h q.1, q.2⟩, o.t.mono fun _ q _ => ⟨Nat.le_trans h q.1, q.2⟩, o.h.mono fun _ q _ => ⟨Nat.le_trans h q.1, q.2⟩⟩
theorem l5Step_out (y : Sy) (p f : Int) (w : World) (B : Nat) (v : Value) (o : OwnSys w B y v) (hB : B ≤ w.heap.size) (hn : y.pn ≤ 1048576) (t1 : inB p 0 ((y.pn : Int) - 1) = false) :
  Calls Tryz.prog 44 #[v, .int .i64 p, .int .i64 f] w fun e w' => e = .returned (.tuple #[v, .int .i64 2]) ∧ Below B w w' ∧ OwnSys w' B y v := by
 obtain ⟨c, vp, vs, vw, vh, up, us, uw, uh, rfl, o⟩ := o
 obtain ⟨pa, pc, rfl⟩ := ownsRow_slice o.p.row
 obtain ⟨sa, sc, rfl⟩ := ownsRow_slice o.s.row
 obtain ⟨wa, wc, rfl⟩ := ownsRow_slice o.t.row
 obtain ⟨ha, hc, rfl⟩ := ownsRow_slice o.h.row
 have hpn : (y.pn : Int) ≤ 1048576 := by omega
 have hM : B ≤ w.heap.size + 1 := by omega
 have BW : Hid (Below w.heap.size w ((w.alloc (oQ4 pa y.pn pc sa y.sn sc wa y.wn wc ha y.hn hc)).alloc (zQ3))) := (below_allocL _ _).trans ((below_allocL _ _).mono (by simp))
 have NB : Hid (BoxC ((w.alloc (oQ4 pa y.pn pc sa y.sn sc wa y.wn wc ha y.hn hc)).alloc (zQ3)) w.heap.size (.slice pa y.pn pc) (.slice sa y.sn sc) (.slice wa y.wn wc) (.slice ha y.hn hc)) := (BoxC.new w _ _ _ _ _).below (below_allocL _ _)
 have RB : Hid (BoxC ((w.alloc (oQ4 pa y.pn pc sa y.sn sc wa y.wn wc ha y.hn hc)).alloc (zQ3)) (w.heap.size + 1) (.slice none 0 0) (.slice none 0 0) (.slice none 0 0) (.slice none 0 0) ∧ ∀ j, ((w.alloc (oQ4 pa y.pn pc sa y.sn sc wa y.wn wc ha y.hn hc)).alloc (zQ3)).frozen? ⟨w.heap.size + 1, j, none⟩ = false) := ⟨⟨new_cell _ _ _ 0 (by simp), new_cell _ _ _ 1 (by simp), new_cell _ _ _ 2 (by simp), new_cell _ _ _ 3 (by simp)⟩, fun j => new_frozen _ _ _ _ (by simp)⟩
 have l1 : w.heap.size + 1 < ((w.alloc (oQ4 pa y.pn pc sa y.sn sc wa y.wn wc ha y.hn hc)).alloc (zQ3)).heap.size := by simp
 have OO : Hid (OwnS w B c y (.slice pa y.pn pc) (.slice sa y.sn sc) (.slice wa y.wn wc) (.slice ha y.hn hc) up us uw uh) := o
 clear o
 go_enter Tryz.func44, Tryz.ntmps44
 go_wp2_with fail
 refine (l1In_any _ _ _ _).mono ?_
 rintro e w1 ⟨rfl, rfl⟩
 rw [t1]
 generalize (w.alloc (oQ4 pa y.pn pc sa y.sn sc wa y.wn wc ha y.hn hc)).alloc (zQ3) = W2 at *
 obtain ⟨b0, b1, b2, b3⟩ := NB.out
 obtain ⟨⟨r0, r1, r2, r3⟩, rf⟩ := RB.out
 have O2 : Hid (OwnS W2 B (rcol c w.heap.size 0) y (.slice pa y.pn pc) (.slice sa y.sn sc) (.slice wa y.wn wc) (.slice ha y.hn hc) up us uw uh) := (OO.out.recol 0).below BW.out
 have BB : Hid (Below B w W2) := BW.out.mono hB
 go_wp2
 exact bodyPost_ret (v := .tuple #[sysV pa y.pn pc sa y.sn sc wa y.wn wc ha y.hn hc, .int .i64 2]) (by simp [results, Tryz.results44, go_sem, r0, r1, r2, r3]) rfl ⟨rfl, (((BB.out.setCell hM _).setCell hM _).setCell hM _).setCell hM _, O2.out.out4 (rcol_new (Nat.le_succ _)) rfl _ _ _ _⟩
theorem OwnSys.setBelow {w : World} {B : Nat} {y : Sy} {v : Value} (o : OwnSys w B y v) {N : Nat} (h : N < B) (j : Nat) (u : Value) : OwnSys (w.setCell ⟨N, j, none⟩ u) B y v := by
 obtain ⟨c, vp, vs, vw, vh, up, us, uw, uh, e, o⟩ := o
 have hk : ∀ i k, Cl B c i k → k < w.heap.size → (w.setCell ⟨N, j, none⟩ u).heap[k]? = w.heap[k]? := fun i k q _ => Below.heap_setCell _ _ _ _ fun e => by
  have e : k = N := e
  have := q.1
  omega
 exact ⟨c, vp, vs, vw, vh, up, us, uw, uh, e, o.p.keep (hk 1), o.s.keep (hk 2), o.t.keep (hk 3), o.h.keep (hk 4)⟩
noncomputable def stC (y : Sy) (p f : Int) : Int := if y.okB = true then (if belB p y.pn = true then cmS y p.toNat f else 2) else 1
noncomputable def stY (y : Sy) (p f : Int) : Sy := if y.okB = true then (if belB p y.pn = true then y.step p.toNat f else y) else { y with pn := 0, sn := 0, wn := 0, hn := 0 }
theorem OwnSys.zero (w : World) (B : Nat) (y : Sy) : OwnSys w B { y with pn := 0, sn := 0, wn := 0, hn := 0 } (sysV none 0 0 none 0 0 none 0 0 none 0 0) :=
 ⟨fun _ => 0, _, _, _, _, fun _ => .slice none 0 0, fun _ => .slice none 0 0, fun _ => .slice none 0 0, fun _ => .slice none 0 0, rfl, LL.nil _ _ _ _ _ _ _ _, LS.nil _ _ _ _, LL.nil _ _ _ _ _ _ _ _, LL.nil _ _ _ _ _ _ _ _⟩
theorem OwnSys.form {w : World} {B : Nat} {y : Sy} {v : Value} (o : OwnSys w B y v) : ∃ pa pc sa sc wa wc ha hc, v = sysV pa y.pn pc sa y.sn sc wa y.wn wc ha y.hn hc := by
 obtain ⟨c, vp, vs, vw, vh, up, us, uw, uh, rfl, o⟩ := o
 obtain ⟨pa, pc, rfl⟩ := ownsRow_slice o.p.row
 obtain ⟨sa, sc, rfl⟩ := ownsRow_slice o.s.row
 obtain ⟨wa, wc, rfl⟩ := ownsRow_slice o.t.row
 obtain ⟨ha, hc, rfl⟩ := ownsRow_slice o.h.row
 exact ⟨pa, pc, sa, sc, wa, wc, ha, hc, rfl⟩
theorem specStep_any (x : SysIn) (p f : Int) (w : World) (hG : SysG w x) (hL : x.Len) (hcap : ∀ i, i < x.hn → x.hL i ≤ x.hC i) :
  Calls Tryz.prog 16 #[x.v, .int .i64 p, .int .i64 f] w fun e w' => ∃ v, e = .returned (.tuple #[v, .int .i64 (stC x.y p f)]) ∧ OwnSys w' w.heap.size (stY x.y p f) v ∧ Below w.heap.size w w' := by
 have HG : Hid (SysG w x) := hG
 have HL : Hid x.Len := hL
 have HS : Hid (∀ wx, Below w.heap.size w wx → Calls Tryz.prog 24 #[x.v] wx fun e w' => e = .returned (.bool x.y.okB) ∧ Below wx.heap.size wx w') := fun wx hb => specSysOk_any x wx (HG.out.below hb) hL hcap
 have HC4 : Hid (∀ wx, Below w.heap.size w wx → Calls Tryz.prog 45 #[x.v] wx fun e w' => ∃ v, e = .returned v ∧ OwnSys w' wx.heap.size x.y v ∧ Below wx.heap.size wx w') := fun wx hb => l4Copy_any x wx (HG.out.below hb) hL
 have BW : Hid (Below w.heap.size w ((w.alloc (oQ4 x.pa x.pn x.pc x.sa x.sn x.sc x.wa x.wn x.wc x.ha x.hn x.hc)).alloc (zQ3))) := (below_allocL _ _).trans ((below_allocL _ _).mono (by simp))
 have NB : Hid (BoxC ((w.alloc (oQ4 x.pa x.pn x.pc x.sa x.sn x.sc x.wa x.wn x.wc x.ha x.hn x.hc)).alloc (zQ3)) w.heap.size (.slice x.pa x.pn x.pc) (.slice x.sa x.sn x.sc) (.slice x.wa x.wn x.wc) (.slice x.ha x.hn x.hc)) := (BoxC.new w _ _ _ _ _).below (below_allocL _ _)
 have RB : Hid (BoxC ((w.alloc (oQ4 x.pa x.pn x.pc x.sa x.sn x.sc x.wa x.wn x.wc x.ha x.hn x.hc)).alloc (zQ3)) (w.heap.size + 1) (.slice none 0 0) (.slice none 0 0) (.slice none 0 0) (.slice none 0 0) ∧ ∀ j, ((w.alloc (oQ4 x.pa x.pn x.pc x.sa x.sn x.sc x.wa x.wn x.wc x.ha x.hn x.hc)).alloc (zQ3)).frozen? ⟨w.heap.size + 1, j, none⟩ = false) := ⟨⟨new_cell _ _ _ 0 (by simp), new_cell _ _ _ 1 (by simp), new_cell _ _ _ 2 (by simp), new_cell _ _ _ 3 (by simp)⟩, fun j => new_frozen _ _ _ _ (by simp)⟩
 have hM : w.heap.size ≤ w.heap.size + 1 := Nat.le_succ _
 clear hG hL hcap
 go_enter Tryz.func16, Tryz.ntmps16
 go_wp2_with fail
 generalize (w.alloc (oQ4 x.pa x.pn x.pc x.sa x.sn x.sc x.wa x.wn x.wc x.ha x.hn x.hc)).alloc (zQ3) = W2 at *
 refine (HS.out W2 BW.out).mono ?_
 rintro e w1 ⟨rfl, q1⟩
 have B1 : Hid (Below w.heap.size w w1 ∧ BoxC w1 w.heap.size (.slice x.pa x.pn x.pc) (.slice x.sa x.sn x.sc) (.slice x.wa x.wn x.wc) (.slice x.ha x.hn x.hc) ∧ BoxC w1 (w.heap.size + 1) (.slice none 0 0) (.slice none 0 0) (.slice none 0 0) (.slice none 0 0) ∧ ∀ j, w1.frozen? ⟨w.heap.size + 1, j, none⟩ = false) := ⟨BW.out.trans (q1.mono BW.out.size), NB.out.below q1, RB.out.1.below q1, fun j => ((bcell q1).2 _ j (World.block_lt_of_cell? _ _ RB.out.1.1)).trans (RB.out.2 j)⟩
 clear q1 BW NB RB HS
 have l1 : w.heap.size + 1 < w1.heap.size := World.block_lt_of_cell? _ _ B1.out.2.2.1.1
 obtain ⟨b0, b1, b2, b3⟩ := B1.out.2.1
 rcases Bool.eq_false_or_eq_true x.y.okB with t | t
 case inr =>
  have HV : Hid (stC x.y p f = 1 ∧ stY x.y p f = { x.y with pn := 0, sn := 0, wn := 0, hn := 0 }) := ⟨if_neg (by rw [t]; simp), if_neg (by rw [t]; simp)⟩
  obtain ⟨⟨r0, r1, r2, r3⟩, rf⟩ := B1.out.2.2
  rw [t]
  clear t
  go_wp2
  exact bodyPost_ret (v := .tuple #[sysV none 0 0 none 0 0 none 0 0 none 0 0, .int .i64 1]) (by simp [results, Tryz.results16, go_sem, r0, r1, r2, r3]) rfl ⟨_, by rw [HV.out.1], by rw [HV.out.2]; exact OwnSys.zero _ _ _, (((B1.out.1.setCell hM _).setCell hM _).setCell hM _).setCell hM _⟩
 have HO : Hid x.y.Ok := Sy.ok_of t
 have HC : Hid (∀ wx v, w1.heap.size ≤ wx.heap.size → OwnSys wx w1.heap.size x.y v → Calls Tryz.prog 44 #[v, .int .i64 p, .int .i64 f] wx fun e w' => e = .returned (.tuple #[v, .int .i64 (stC x.y p f)]) ∧ Below w1.heap.size wx w' ∧ OwnSys w' w1.heap.size (stY x.y p f) v) := by
  show ∀ wx v, _
  intro wx v hwx o
  have hc4 : x.y.pn ≤ 4 := HO.out.cn.1.2
  by_cases hb : belB p x.y.pn = true
  ·have hb' : 0 ≤ p ∧ p < (x.y.pn : Int) := by simpa [belB] using hb
   obtain ⟨k, rfl⟩ : ∃ k : Nat, p = k := ⟨p.toNat, by omega⟩
   rw [stC, if_pos t, if_pos hb, stY, if_pos t, if_pos hb]
   exact l5Step_any x.y k f wx _ v o (by omega) HO.out
  ·rw [stC, if_pos t, if_neg hb, stY, if_pos t, if_neg hb]
   exact l5Step_out x.y p f wx _ v o hwx (by omega) (by
    simp only [inB, decide_eq_false_iff_not]
    simp only [belB, decide_eq_true_eq] at hb
    omega)
 have HZ : Hid (stC x.y p f ≠ 0 → stY x.y p f = x.y) := fun h => by
  rw [stC, if_pos t] at h
  rw [stY, if_pos t]
  by_cases hb : belB p x.y.pn = true
  ·rw [if_pos hb] at h ⊢
   exact Sy.step_no h
  ·rw [if_neg hb]
 rw [t]
 clear t
 go_wp2_with fail
 refine (HC4.out w1 B1.out.1).mono ?_
 rintro e w3 ⟨v3, rfl, o3, q3⟩
 obtain ⟨pa, pc, sa, sc, wa, wc, ha, hc, rfl⟩ := o3.form
 have HC' := HC.out w3 _ q3.size o3
 clear HC
 generalize hC : stC x.y p f = C at *
 generalize hY : stY x.y p f = Y at *
 go_wp2_with fail
 refine HC'.mono ?_
 rintro e w5 ⟨rfl, q5, o5⟩
 have Q5 : Below w1.heap.size w1 w5 := q3.trans q5
 have B5 : Hid (Below w.heap.size w w5 ∧ BoxC w5 w.heap.size (.slice x.pa x.pn x.pc) (.slice x.sa x.sn x.sc) (.slice x.wa x.wn x.wc) (.slice x.ha x.hn x.hc) ∧ BoxC w5 (w.heap.size + 1) (.slice none 0 0) (.slice none 0 0) (.slice none 0 0) (.slice none 0 0) ∧ (∀ j, w5.frozen? ⟨w.heap.size + 1, j, none⟩ = false) ∧ w1.heap.size ≤ w5.heap.size ∧ OwnSys w5 w1.heap.size Y (sysV pa x.y.pn pc sa x.y.sn sc wa x.y.wn wc ha x.y.hn hc)) := ⟨B1.out.1.trans (Q5.mono B1.out.1.size), B1.out.2.1.below Q5, B1.out.2.2.1.below Q5, fun j => ((bcell Q5).2 _ j l1).trans (B1.out.2.2.2 j), Q5.size, o5⟩
 clear o3 q3 q5 o5 Q5 HC' B1 b0 b1 b2 b3
 obtain ⟨b0, b1, b2, b3⟩ := B5.out.2.1
 obtain ⟨r0, r1, r2, r3⟩ := B5.out.2.2.1
 have rf := B5.out.2.2.2.1
 have l5 : w.heap.size + 1 < w5.heap.size := World.block_lt_of_cell? _ _ r0
 have l50 : w.heap.size < w5.heap.size := by omega
 by_cases hc0 : C = 0
 ·subst hc0
  go_wp2
  exact bodyPost_ret (v := .tuple #[sysV pa x.y.pn pc sa x.y.sn sc wa x.y.wn wc ha x.y.hn hc, .int .i64 0]) (by simp [results, Tryz.results16, go_sem, r0, r1, r2, r3, l5]) rfl ⟨_, by rw [hC], by
   rw [hY]
   exact (((((B5.out.2.2.2.2.2.setBelow l1 0 _).setBelow l1 1 _).setBelow l1 2 _).setBelow l1 3 _).below (below_allocL _ _)).base (by omega), ((((B5.out.1.setCell hM _).setCell hM _).setCell hM _).setCell hM _).trans ((below_allocL _ _).mono (by simp; omega))⟩
 ·have tc : (C == 0) = false := by simpa using hc0
  go_wp2_with fail
  refine (HC4.out _ (B5.out.1.trans ((below_allocL _ _).mono (Nat.le_of_lt l50)))).mono ?_
  rintro e w7 ⟨v7, rfl, o7, q7⟩
  obtain ⟨pa7, pc7, sa7, sc7, wa7, wc7, ha7, hc7, rfl⟩ := o7.form
  have Q7 : Below w5.heap.size w5 w7 := (below_allocL _ _).trans (q7.mono (by simp))
  have hc := (bcell Q7).1
  replace r0 := (hc _ _ l5).trans r0
  replace r1 := (hc _ _ l5).trans r1
  replace r2 := (hc _ _ l5).trans r2
  replace r3 := (hc _ _ l5).trans r3
  replace rf : ∀ j, w7.frozen? ⟨w.heap.size + 1, j, none⟩ = false := fun j => ((bcell Q7).2 _ j l5).trans (rf j)
  have l7 : w.heap.size + 1 < w7.heap.size := Nat.lt_of_lt_of_le l5 Q7.size
  have B7 : Hid (Below w.heap.size w w7 ∧ OwnSys w7 w5.heap.size x.y (sysV pa7 x.y.pn pc7 sa7 x.y.sn sc7 wa7 x.y.wn wc7 ha7 x.y.hn hc7)) := ⟨B5.out.1.trans (Q7.mono (Nat.le_of_lt l50)), o7.base (by simp)⟩
  clear o7 q7 Q7 hc B5 b0 b1 b2 b3
  go_wp2
  exact bodyPost_ret (v := .tuple #[sysV pa7 x.y.pn pc7 sa7 x.y.sn sc7 wa7 x.y.wn wc7 ha7 x.y.hn hc7, .int .i64 C]) (by simp [results, Tryz.results16, go_sem, r0, r1, r2, r3]) rfl ⟨_, by rw [hC], by
   rw [hY, HZ.out hc0]
   exact ((((B7.out.2.setBelow l5 0 _).setBelow l5 1 _).setBelow l5 2 _).setBelow l5 3 _).base (by omega), (((B7.out.1.setCell hM _).setCell hM _).setCell hM _).setCell hM _⟩
def Own0 (w : World) (B T : Nat) (y : Sy) (vp vs vw vh : Value) : Prop := ∃ c up us uw uh, OwnS w B c y vp vs vw vh up us uw uh ∧ ∀ b, T ≤ b → c b = 0
theorem Own0.of {w : World} {B : Nat} {y : Sy} {v : Value} (o : OwnSys w B y v) : ∃ pa pc sa sc wa wc ha hc, v = sysV pa y.pn pc sa y.sn sc wa y.wn wc ha y.hn hc ∧ Own0 w B w.heap.size y (.slice pa y.pn pc) (.slice sa y.sn sc) (.slice wa y.wn wc) (.slice ha y.hn hc) := by
 obtain ⟨c, vp, vs, vw, vh, up, us, uw, uh, rfl, o⟩ := o
 obtain ⟨pa, pc, rfl⟩ := ownsRow_slice o.p.row
 obtain ⟨sa, sc, rfl⟩ := ownsRow_slice o.s.row
 obtain ⟨wa, wc, rfl⟩ := ownsRow_slice o.t.row
 obtain ⟨ha, hc, rfl⟩ := ownsRow_slice o.h.row
 exact ⟨pa, pc, sa, sc, wa, wc, ha, hc, rfl, _, up, us, uw, uh, o.recol 0, fun b hb => rcol_new hb⟩
theorem Own0.below {w w' : World} {B T : Nat} {y : Sy} {vp vs vw vh : Value} (o : Own0 w B T y vp vs vw vh) (hb : Below w.heap.size w w') : Own0 w' B T y vp vs vw vh := by
 obtain ⟨c, up, us, uw, uh, o, h⟩ := o
 exact ⟨c, up, us, uw, uh, o.below hb, h⟩
theorem Own0.sys {w : World} {B T : Nat} {y : Sy} {vp vs vw vh : Value} (o : Own0 w B T y vp vs vw vh) : OwnSys w B y (.agg #[vp, vs, vw, vh]) := by
 obtain ⟨c, up, us, uw, uh, o, -⟩ := o
 exact ⟨c, vp, vs, vw, vh, up, us, uw, uh, rfl, o⟩
theorem Own0.touch {w w' : World} {B T : Nat} {y : Sy} {vp vs vw vh : Value} {P : Nat → Prop} (o : Own0 w B T y vp vs vw vh) (ht : Touch P w w') (hp : ∀ b, P b → T ≤ b ∨ b < B) : Own0 w' B T y vp vs vw vh := by
 obtain ⟨c, up, us, uw, uh, o, h⟩ := o
 have hk : ∀ i, i ≠ 0 → ∀ k, Cl B c i k → k < w.heap.size → w'.heap[k]? = w.heap[k]? := fun i hi k hk hl => ht.block k hl fun e => by
  rcases hp k e with h1 | h1
  ·exact hi (hk.2.symm.trans (h k h1))
  ·have := hk.1
   omega
 exact ⟨c, up, us, uw, uh, ⟨o.p.keep (hk 1 (by decide)), o.s.keep (hk 2 (by decide)), o.t.keep (hk 3 (by decide)), o.h.keep (hk 4 (by decide))⟩, h⟩
theorem markSys_0 (y : Sy) (B T : Nat) (vp vs vw vh : Value) (w : World) (hS : y.Sums) (hB : B ≤ w.heap.size) (o : Own0 w B T y vp vs vw vh) :
  Calls Tryz.prog 13 #[.agg #[vp, vs, vw, vh], .int .i64 1] w fun e w' => e = .returned (.int .i64 (mkZ5 y 1)) ∧ Own0 w' B T (mkY y 1) vp vs vw vh ∧ Touch (fun b => B ≤ b ∧ b < T) w w' := by
 obtain ⟨c, up, us, uw, uh, o, hT⟩ := o
 have HT : Hid (∀ b, T ≤ b → rcol c w.heap.size 0 b = 0) := fun b hb => by
  unfold rcol
  split
  ·exact hT b hb
  ·rfl
 have HC : Hid (∀ i, i ≠ 0 → ∀ b, Cl B (rcol c w.heap.size 0) i b → B ≤ b ∧ b < T) := fun i hi b hb => ⟨hb.1, by
  rcases Nat.lt_or_ge b T with h | h
  ·exact h
  ·exact absurd (hb.2.symm.trans (HT.out b h)) hi⟩
 obtain ⟨a1, c1, rfl⟩ := ownsRow_slice o.p.row
 obtain ⟨a2, c2, rfl⟩ := ownsRow_slice o.s.row
 obtain ⟨a3, c3, rfl⟩ := ownsRow_slice o.t.row
 obtain ⟨a4, c4, rfl⟩ := ownsRow_slice o.h.row
 have HS : Hid y.Sums := hS
 have HB : Hid (B ≤ w.heap.size) := hB
 have ba := below_allocL w (oQ4 a1 y.pn c1 a2 y.sn c2 a3 y.wn c3 a4 y.hn c4)
 have o0 : OwnS w B (rcol c w.heap.size 0) y (.slice a1 y.pn c1) (.slice a2 y.sn c2) (.slice a3 y.wn c3) (.slice a4 y.hn c4) up us uw uh := ⟨o.p.mono fun _ h hl => h.old hl, o.s.mono fun _ h hl => h.old hl, o.t.mono fun _ h hl => h.old hl, o.h.mono fun _ h hl => h.old hl⟩
 have OA : Hid (OwnS (w.alloc (oQ4 a1 y.pn c1 a2 y.sn c2 a3 y.wn c3 a4 y.hn c4)) B (rcol c w.heap.size 0) y (.slice a1 y.pn c1) (.slice a2 y.sn c2) (.slice a3 y.wn c3) (.slice a4 y.hn c4) up us uw uh) := ⟨o0.p.below ba, o0.s.below ba, o0.t.below ba, o0.h.below ba⟩
 have NA : Hid (BoxC (w.alloc (oQ4 a1 y.pn c1 a2 y.sn c2 a3 y.wn c3 a4 y.hn c4)) w.heap.size (.slice a1 y.pn c1) (.slice a2 y.sn c2) (.slice a3 y.wn c3) (.slice a4 y.hn c4)) := BoxC.new w _ _ _ _ _
 have BA : Hid (Touch (fun b => B ≤ b ∧ b < T) w (w.alloc (oQ4 a1 y.pn c1 a2 y.sn c2 a3 y.wn c3 a4 y.hn c4))) := Touch.of_below ba
 have HM : Hid (∀ i k, Cl B (rcol c w.heap.size 0) i k → i ≠ 0 → k < w.heap.size) := fun i k h hi => by
  rcases Nat.lt_or_ge k w.heap.size with h1 | h1
  ·exact h1
  ·exact absurd (h.2.symm.trans (rcol_new h1)) hi
 have hz := mkZ_bd hS
 have HZ : Hid ((0 ≤ mkZ2 y 1 ∧ mkZ2 y 1 ≤ 6000000) ∧ (0 ≤ mkZ3 y 1 ∧ mkZ3 y 1 ≤ 12000000) ∧ (0 ≤ mkZ4 y 1 ∧ mkZ4 y 1 ≤ 18000000) ∧ (0 ≤ mkZ5 y 1 ∧ mkZ5 y 1 ≤ 24000000)) := hz
 clear o o0 hS hB ba hz hT
 go_enter Tryz.func13, Tryz.ntmps13
 go_wp2_with fail
 generalize w.alloc (oQ4 a1 y.pn c1 a2 y.sn c2 a3 y.wn c3 a4 y.hn c4) = wA at *
 refine (markInsSS_own _ _ y.pn up y.pL y.pH 1 wA HS.out.p.1 HS.out.p.2 (by omega) (by omega) OA.out.p).mono ?_
 rintro e w1 ⟨rfl, q1, t1⟩
 have K1 : Hid (∀ i, i ≠ 1 → ∀ k, Cl B (rcol c w.heap.size 0) i k → k < wA.heap.size → w1.heap[k]? = wA.heap[k]?) := fun i hi k hk hl => t1.block k hl fun h => hi (hk.2.symm.trans h.2)
 have F1 : Hid (LI w1 (Cl B (rcol c w.heap.size 0) 1) (.slice a1 y.pn c1) y.pn up y.pL (mkY y 1).pH ∧ LS w1 (Cl B (rcol c w.heap.size 0) 2) (.slice a2 y.sn c2) y.sn us y.sS ∧ LT w1 (Cl B (rcol c w.heap.size 0) 3) (.slice a3 y.wn c3) y.wn uw y.wL y.wH ∧ LE w1 (Cl B (rcol c w.heap.size 0) 4) (.slice a4 y.hn c4) y.hn uh y.hL y.hH) := ⟨q1, OA.out.s.keep (K1.out 2 (by decide)), OA.out.t.keep (K1.out 3 (by decide)), OA.out.h.keep (K1.out 4 (by decide))⟩
 have hm1 : w1.heap[w.heap.size]? = wA.heap[w.heap.size]? := t1.block _ (World.block_lt_of_cell? _ _ NA.out.1) fun h => Nat.lt_irrefl _ (HM.out 1 _ h (by decide))
 have G1 : Hid (Touch (fun b => B ≤ b ∧ b < T) w w1 ∧ BoxC w1 w.heap.size (.slice a1 y.pn c1) (.slice a2 y.sn c2) (.slice a3 y.wn c3) (.slice a4 y.hn c4)) := ⟨BA.out.trans (t1.mono (HC.out 1 (by decide))), ⟨(World.cell?_of_block hm1).trans NA.out.1, (World.cell?_of_block hm1).trans NA.out.2.1, (World.cell?_of_block hm1).trans NA.out.2.2.1, (World.cell?_of_block hm1).trans NA.out.2.2.2⟩⟩
 clear hm1
 rw [show (1 : Int) + 5 * (sumL y.pL y.pn : Nat) = mkZ2 y 1 from rfl]
 clear t1 q1 OA NA BA K1
 obtain ⟨-, p0, p1, p2, p3⟩ := G1.out
 go_wp2_with fail
 clear p0 p1 p2 p3
 refine (markStateS_own _ _ y.sn us y.sS (mkZ2 y 1) w1 HS.out.s.1 HS.out.s.2 HZ.out.1.1 (by have := HZ.out; omega) F1.out.2.1).mono ?_
 rintro e w2 ⟨rfl, ⟨ts, q2⟩, t2⟩
 have K2 : Hid (∀ i, i ≠ 2 → ∀ k, Cl B (rcol c w.heap.size 0) i k → k < w1.heap.size → w2.heap[k]? = w1.heap[k]?) := fun i hi k hk hl => t2.block k hl fun h => hi (hk.2.symm.trans h.2)
 have F2 : Hid (LI w2 (Cl B (rcol c w.heap.size 0) 1) (.slice a1 y.pn c1) y.pn up y.pL (mkY y 1).pH ∧ LS w2 (Cl B (rcol c w.heap.size 0) 2) (.slice a2 y.sn c2) y.sn ts (mkY y 1).sS ∧ LT w2 (Cl B (rcol c w.heap.size 0) 3) (.slice a3 y.wn c3) y.wn uw y.wL y.wH ∧ LE w2 (Cl B (rcol c w.heap.size 0) 4) (.slice a4 y.hn c4) y.hn uh y.hL y.hH) := ⟨F1.out.1.keep (K2.out 1 (by decide)), q2, F1.out.2.2.1.keep (K2.out 3 (by decide)), F1.out.2.2.2.keep (K2.out 4 (by decide))⟩
 have hm2 : w2.heap[w.heap.size]? = w1.heap[w.heap.size]? := t2.block _ (World.block_lt_of_cell? _ _ G1.out.2.1) fun h => Nat.lt_irrefl _ (HM.out 2 _ h (by decide))
 have G2 : Hid (Touch (fun b => B ≤ b ∧ b < T) w w2 ∧ BoxC w2 w.heap.size (.slice a1 y.pn c1) (.slice a2 y.sn c2) (.slice a3 y.wn c3) (.slice a4 y.hn c4)) := ⟨G1.out.1.trans (t2.mono (HC.out 2 (by decide))), ⟨(World.cell?_of_block hm2).trans G1.out.2.1, (World.cell?_of_block hm2).trans G1.out.2.2.1, (World.cell?_of_block hm2).trans G1.out.2.2.2.1, (World.cell?_of_block hm2).trans G1.out.2.2.2.2⟩⟩
 clear hm2
 rw [show mkZ2 y 1 + (2 * y.sn + sumL (lenS y.sS) y.sn : Nat) = mkZ3 y 1 from rfl]
 clear t2 q2 F1 G1 K2
 obtain ⟨-, p0, p1, p2, p3⟩ := G2.out
 go_wp2_with fail
 clear p0 p1 p2 p3
 refine (markItemSS_own _ _ y.wn uw y.wL y.wH (mkZ3 y 1) w2 HS.out.w.1 HS.out.w.2 HZ.out.2.1.1 (by have := HZ.out; omega) F2.out.2.2.1).mono ?_
 rintro e w3 ⟨rfl, q3, t3⟩
 have K3 : Hid (∀ i, i ≠ 3 → ∀ k, Cl B (rcol c w.heap.size 0) i k → k < w2.heap.size → w3.heap[k]? = w2.heap[k]?) := fun i hi k hk hl => t3.block k hl fun h => hi (hk.2.symm.trans h.2)
 have F3 : Hid (LI w3 (Cl B (rcol c w.heap.size 0) 1) (.slice a1 y.pn c1) y.pn up y.pL (mkY y 1).pH ∧ LS w3 (Cl B (rcol c w.heap.size 0) 2) (.slice a2 y.sn c2) y.sn ts (mkY y 1).sS ∧ LT w3 (Cl B (rcol c w.heap.size 0) 3) (.slice a3 y.wn c3) y.wn uw y.wL (mkY y 1).wH ∧ LE w3 (Cl B (rcol c w.heap.size 0) 4) (.slice a4 y.hn c4) y.hn uh y.hL y.hH) := ⟨F2.out.1.keep (K3.out 1 (by decide)), F2.out.2.1.keep (K3.out 2 (by decide)), q3, F2.out.2.2.2.keep (K3.out 4 (by decide))⟩
 have hm3 : w3.heap[w.heap.size]? = w2.heap[w.heap.size]? := t3.block _ (World.block_lt_of_cell? _ _ G2.out.2.1) fun h => Nat.lt_irrefl _ (HM.out 3 _ h (by decide))
 have G3 : Hid (Touch (fun b => B ≤ b ∧ b < T) w w3 ∧ BoxC w3 w.heap.size (.slice a1 y.pn c1) (.slice a2 y.sn c2) (.slice a3 y.wn c3) (.slice a4 y.hn c4)) := ⟨G2.out.1.trans (t3.mono (HC.out 3 (by decide))), ⟨(World.cell?_of_block hm3).trans G2.out.2.1, (World.cell?_of_block hm3).trans G2.out.2.2.1, (World.cell?_of_block hm3).trans G2.out.2.2.2.1, (World.cell?_of_block hm3).trans G2.out.2.2.2.2⟩⟩
 clear hm3
 rw [show mkZ3 y 1 + 2 * (sumL y.wL y.wn : Nat) = mkZ4 y 1 from rfl]
 clear t3 q3 F2 G2 K3
 obtain ⟨-, p0, p1, p2, p3⟩ := G3.out
 go_wp2_with fail
 clear p0 p1 p2 p3
 refine (markEventSS_own _ _ y.hn uh y.hL y.hH (mkZ4 y 1) w3 HS.out.h.1 HS.out.h.2 HZ.out.2.2.1.1 (by have := HZ.out; omega) F3.out.2.2.2).mono ?_
 rintro e w4 ⟨rfl, q4, t4⟩
 have K4 : Hid (∀ i, i ≠ 4 → ∀ k, Cl B (rcol c w.heap.size 0) i k → k < w3.heap.size → w4.heap[k]? = w3.heap[k]?) := fun i hi k hk hl => t4.block k hl fun h => hi (hk.2.symm.trans h.2)
 have F4 : Hid (Own0 w4 B T (mkY y 1) (.slice a1 y.pn c1) (.slice a2 y.sn c2) (.slice a3 y.wn c3) (.slice a4 y.hn c4)) := ⟨_, up, ts, uw, uh, ⟨F3.out.1.keep (K4.out 1 (by decide)), F3.out.2.1.keep (K4.out 2 (by decide)), F3.out.2.2.1.keep (K4.out 3 (by decide)), q4⟩, HT.out⟩
 have hm4 : w4.heap[w.heap.size]? = w3.heap[w.heap.size]? := t4.block _ (World.block_lt_of_cell? _ _ G3.out.2.1) fun h => Nat.lt_irrefl _ (HM.out 4 _ h (by decide))
 have G4 : Hid (Touch (fun b => B ≤ b ∧ b < T) w w4 ∧ BoxC w4 w.heap.size (.slice a1 y.pn c1) (.slice a2 y.sn c2) (.slice a3 y.wn c3) (.slice a4 y.hn c4)) := ⟨G3.out.1.trans (t4.mono (HC.out 4 (by decide))), ⟨(World.cell?_of_block hm4).trans G3.out.2.1, (World.cell?_of_block hm4).trans G3.out.2.2.1, (World.cell?_of_block hm4).trans G3.out.2.2.2.1, (World.cell?_of_block hm4).trans G3.out.2.2.2.2⟩⟩
 clear hm4
 rw [show mkZ4 y 1 + 3 * (sumL y.hL y.hn : Nat) = mkZ5 y 1 from rfl]
 clear t4 q4 F3 G3 K4
 go_wp2
 go_ret
 exact ⟨rfl, F4.out, G4.out.1⟩
structure Sy.Sm (y : Sy) : Prop where
 n : y.pn ≤ 16 ∧ y.sn ≤ 16 ∧ y.wn ≤ 16 ∧ y.hn ≤ 16
 p : ∀ i, i < y.pn → y.pL i ≤ 1000
 s : ∀ i, i < y.sn → (y.sS i).rs.length ≤ 1000 ∧ (y.sS i).os.length ≤ 1000
 w : ∀ i, i < y.wn → y.wL i ≤ 1000
 h : ∀ i, i < y.hn → y.hL i ≤ 1000
theorem sumL_bd {L : Nat → Nat} {M : Nat} : ∀ {n : Nat}, (∀ i, i < n → L i ≤ M) → sumL L n ≤ n * M
 | 0, _ => by simp [sumL]
 | n + 1, h => by
  have h1 := sumL_bd fun i hi => h i (Nat.lt_succ_of_lt hi)
  have h2 := h n (Nat.lt_succ_self n)
  show sumL L n + L n ≤ (n + 1) * M
  rw [Nat.add_mul, Nat.one_mul]
  omega
theorem Sy.Sm.sums {y : Sy} (h : y.Sm) : y.Sums := by
 obtain ⟨h1, h2, h3, h4⟩ := h.n
 have a1 := sumL_bd h.p
 have a2 := sumL_bd (L := lenS y.sS) (M := 2000) (n := y.sn) fun i hi => by
  have := h.s i hi
  simp only [lenS]
  omega
 have a3 := sumL_bd h.w
 have a4 := sumL_bd h.h
 exact ⟨⟨by omega, by omega⟩, ⟨by omega, by omega⟩, ⟨by omega, by omega⟩, ⟨by omega, by omega⟩⟩
theorem Sy.Sm.len {y : Sy} (h : y.Sm) : y.Len := by
 obtain ⟨h1, h2, h3, h4⟩ := h.n
 exact ⟨⟨by omega, fun i hi => by have := h.p i hi; omega⟩, ⟨by omega, fun i hi => by have := h.s i hi; omega⟩, ⟨by omega, fun i hi => by have := h.w i hi; omega⟩, ⟨by omega, fun i hi => by have := h.h i hi; omega⟩⟩
theorem okS_len {n : Nat} {S : S4} (h : OkS n S) : S.rs.length ≤ 60 ∧ S.os.length ≤ 60 := by
 obtain ⟨⟨r0, r1, r2, r3, e, -⟩, -, h60, -⟩ := st_parts h
 exact ⟨by rw [e]; simp, h60⟩
theorem Sy.Ok.bds {y : Sy} (h : y.Ok) : (∀ i, i < y.pn → y.pL i ≤ 30) ∧ (∀ i, i < y.sn → OkS (y.pL i) (y.sS i)) ∧ (∀ i, i < y.wn → y.wL i ≤ 12) ∧ (∀ i, i < y.hn → y.hL i ≤ 200) := by
 obtain ⟨⟨h1, h4⟩, hs, hh, hw⟩ := h.cn
 refine ⟨fun i hi => ?_, fun i hi => h.st (by omega), fun i hi => ?_, fun i hi => h.le200 (by omega)⟩
 ·have h1 := h.four hi
  simp only [progOkB, Bool.and_eq_true, inB, decide_eq_true_eq] at h1
  have := h1.2.1
  omega
 ·rw [hw] at hi
  have ha : i / y.pn < y.pn := Nat.div_lt_of_lt_mul hi
  have hb : i % y.pn < y.pn := Nat.mod_lt _ (by omega)
  have e : i / y.pn * y.pn + i % y.pn = i := by rw [Nat.mul_comm]; exact Nat.div_add_mod i y.pn
  have := h.way ha hb
  rw [e] at this
  exact this
theorem Sy.Ok.sm {y : Sy} (h : y.Ok) : y.Sm := by
 obtain ⟨⟨h1, h4⟩, hs, hh, hw⟩ := h.cn
 obtain ⟨b1, b2, b3, b4⟩ := h.bds
 have h16 : y.pn * y.pn ≤ 16 := Nat.le_trans (Nat.mul_le_mul h4 h4) (by omega)
 exact ⟨⟨by omega, by omega, by omega, by omega⟩, fun i hi => by have := b1 i hi; omega, fun i hi => by have := okS_len (b2 i hi); omega, fun i hi => by have := b3 i hi; omega, fun i hi => by have := b4 i hi; omega⟩
theorem doS_len60 {g : Nat → I5} {n : Nat} {S : S4} (h : OkS n S) (k q v : Int) : (doS g n S.p S.rs S.os S.c k q v).rs.length ≤ 60 ∧ (doS g n S.p S.rs S.os S.c k q v).os.length ≤ 60 := by
 rcases Bool.eq_false_or_eq_true (doB g n S.p S.rs S.os S.c k q v) with hd | hd
 ·exact okS_len (doS_ok hd)
 ·have e : doS g n S.p S.rs S.os S.c k q v = ⟨S.p, S.rs, S.os, S.c⟩ := by
   unfold doS
   rw [if_neg (by rw [hd]; decide)]
  rw [e]
  exact okS_len h
theorem Sy.Ok.smStep {y : Sy} (h : y.Ok) (p : Nat) (hp : p < y.pn) (f : Int) : (y.step p f).Sm := by
 by_cases h0 : cmS y p f = 0
 ·rw [Sy.step, if_pos h0]
  obtain ⟨⟨h1, h4⟩, hs, hh, hw⟩ := h.cn
  obtain ⟨b1, b2, b3, b4⟩ := h.bds
  have hn := h.sm.n
  have hw2 : ∀ i, i < y.wn → (y.way p (y.nk p) (y.eq p f) (y.ev p f)).wL i ≤ 1000 := fun i hi => by
   have hi' := b3 i hi
   simp only [Sy.way]
   split
   ·dsimp only
    split
    ·rename_i e
     rw [← e]
     omega
    ·omega
   ·split
    ·dsimp only
     split
     ·rename_i e
      rw [← e]
      omega
     ·omega
    ·omega
  refine ⟨hn, fun i hi => by have := b1 i hi; show y.pL i ≤ 1000; omega, fun i hi => ?_, hw2, fun i hi => ?_⟩
  ·show (if i = p then doS (y.pH p) (y.pL p) (y.sS p).p (y.sS p).rs (y.sS p).os (y.sS p).c (y.nk p) (y.eq p f) (y.ev p f) else y.sS i).rs.length ≤ 1000 ∧ (if i = p then doS (y.pH p) (y.pL p) (y.sS p).p (y.sS p).rs (y.sS p).os (y.sS p).c (y.nk p) (y.eq p f) (y.ev p f) else y.sS i).os.length ≤ 1000
   split
   ·have := doS_len60 (g := y.pH p) (b2 p (by omega)) (y.nk p) (y.eq p f) (y.ev p f)
    omega
   ·have := okS_len (b2 i hi)
    omega
  ·show (if i = p then y.hL p + 1 else y.hL i) ≤ 1000
   have hi' := b4 i hi
   split
   ·have := b4 p (by omega)
    omega
   ·omega
 ·rw [Sy.step_no h0]
  exact h.sm
theorem stY_sm (y : Sy) (p f : Int) : (stY y p f).Sm := by
 unfold stY
 split
 ·rename_i h
  split
  ·rename_i hb
   simp only [belB, decide_eq_true_eq] at hb
   exact (Sy.ok_of h).smStep _ (by omega) f
  ·exact (Sy.ok_of h).sm
 ·exact ⟨⟨by simp, by simp, by simp, by simp⟩, fun i hi => by simp at hi, fun i hi => by simp at hi, fun i hi => by simp at hi, fun i hi => by simp at hi⟩
theorem IsSys.g3 {w : World} {lo hi : Nat} {x : SysIn} {v : Value} (o : IsSys w lo hi x v) : ∃ x' : SysIn, v = x'.v ∧ SysG w x' ∧ x'.y = x.y ∧ (∀ i, i < x'.hn → x'.hL i ≤ x'.hC i) ∧ x'.Nn := by
 obtain ⟨D1, D2, D3, D4, b1, vs, b3, b4, h1, h2, h3, o⟩ := o
 obtain ⟨q1, q2, q3, q4, -⟩ := o.hi
 have hst : ∀ i, i < x.sn → ∃ t : Option Addr × Nat × Option Addr × Nat, vs i = stV (x.sS i).p t.1 (x.sS i).rs.length t.2.1 t.2.2.1 (x.sS i).os.length t.2.2.2 (x.sS i).c ∧ w.cell? ⟨D2, i * 4, none⟩ = some (.int .i64 (x.sS i).p) ∧ w.cell? ⟨D2, i * 4 + 1, none⟩ = some (.slice t.1 (x.sS i).rs.length t.2.1) ∧ w.cell? ⟨D2, i * 4 + 2, none⟩ = some (.slice t.2.2.1 (x.sS i).os.length t.2.2.2) ∧ w.cell? ⟨D2, i * 4 + 3, none⟩ = some (.int .i64 (x.sS i).c) := by
  intro i hi
  obtain ⟨ra, rc, oa, oc, e, c0, c1, c2, c3⟩ := o.ss.cel i hi
  exact ⟨(ra, rc, oa, oc), e, c0, c1, c2, c3⟩
 have inh : Inhabited (Option Addr × Nat × Option Addr × Nat) := ⟨(none, 0, none, 0)⟩
 obtain ⟨t, ht⟩ := Go.Deep.choose_lt hst
 refine ⟨⟨some ⟨D1, 0, none⟩, x.pn, x.pn, fun i => some ⟨b1 i, 0, none⟩, x.pL, x.pL, x.pH, some ⟨D2, 0, none⟩, x.sn, x.sn, fun i => ⟨(x.sS i).p, (t i).1, (t i).2.1, (x.sS i).rs, (t i).2.2.1, (t i).2.2.2, (x.sS i).os, (x.sS i).c⟩, some ⟨D3, 0, none⟩, x.wn, x.wn, fun i => some ⟨b3 i, 0, none⟩, x.wL, x.wL, x.wH, some ⟨D4, 0, none⟩, x.hn, x.hn, fun i => some ⟨b4 i, 0, none⟩, x.hL, x.hL, x.hH⟩, o.val, ?_, rfl, fun i _ => Nat.le_refl _, fun i _ => ⟨b3 i, 0, rfl⟩, fun i _ => ⟨b4 i, 0, rfl⟩⟩
 have l1 := o.pp.lt
 have l2 := o.ss.lt
 have l3 := o.ww.lt
 have l4 := o.hh.lt
 refine ⟨.inr ⟨D1, 0, rfl, by omega, fun i hi => ?_⟩, fun i hi => ⟨b1 i, rfl, Nat.lt_of_lt_of_le (o.pp.bd i hi).2 o.pp.le, o.pp.row i hi⟩, ⟨.inr ⟨D2, 0, rfl, by omega, fun i hi => ?_⟩, fun i hi => ?_⟩, .inr ⟨D3, 0, rfl, by omega, fun i hi => ?_⟩, fun i hi => .inr ⟨b3 i, 0, rfl, Nat.lt_of_lt_of_le (o.ww.bd i hi).2 o.ww.le, o.ww.row i hi⟩, .inr ⟨D4, 0, rfl, by omega, fun i hi => ?_⟩, fun i hi => .inr ⟨b4 i, 0, rfl, Nat.lt_of_lt_of_le (o.hh.bd i hi).2 o.hh.le, o.hh.row i hi⟩⟩
 ·have := o.pp.cel i hi
  simpa using this
 ·have := (ht i hi).2
  simpa using this
 ·have h4 := o.ss.own i hi
  rw [(ht i hi).1] at h4
  exact ⟨h4.parts.1.slOf, h4.parts.2.1.slOf⟩
 ·have := o.ww.cel i hi
  simpa using this
 ·have := o.hh.cel i hi
  simpa using this
theorem BoxC.blkF {w w' : World} {N : Nat} {p vr vo code : Value} (h : BoxC w N p vr vo code) (hb : w'.heap[N]? = w.heap[N]?) : BoxC w' N p vr vo code := by
 obtain ⟨h0, h1, h2, h3⟩ := h
 exact ⟨(World.cell?_of_block hb).trans h0, (World.cell?_of_block hb).trans h1, (World.cell?_of_block hb).trans h2, (World.cell?_of_block hb).trans h3⟩
theorem BoxC.ltF {w : World} {N : Nat} {p vr vo code : Value} (h : BoxC w N p vr vo code) : N < w.heap.size := World.block_lt_of_cell? w _ h.1
theorem BoxC.touch {w w' : World} {N : Nat} {p vr vo code : Value} {P : Nat → Prop} (h : BoxC w N p vr vo code) (t : Touch P w w') (hp : ¬ P N) : BoxC w' N p vr vo code := h.blkF (t.block N h.ltF hp)
theorem Px.touchF {W : World} {x : SysIn} {w w' : World} {P : Nat → Prop} (h : Px W x w) (ht : Touch P w w') (hp : ∀ b, P b → W.heap.size < b) : Px W x w' :=
 ⟨h.be.trans (ht.below (Nat.le_of_lt h.lt) fun b e => by have := hp b e; omega), h.bx.touch ht fun e => by have := hp _ e; omega, Nat.lt_of_lt_of_le h.lt ht.size⟩
structure StF (W : World) (x : SysIn) (Y : Sy) (x3 : SysIn) (N1 T8 lo T10 B4 T11 : Nat) (a1 a2 a3 a4 g1 g2 g3 g4 : Value) (w : World) : Prop where
 px : Px W x w
 o2 : Own0 w N1 T8 Y a1 a2 a3 a4
 b8 : BoxC w T8 a1 a2 a3 a4
 s3 : IsSys w lo T10 x x3.v
 b10 : BoxC w T10 (.slice x3.pa x3.pn x3.pc) (.slice x3.sa x3.sn x3.sc) (.slice x3.wa x3.wn x3.wc) (.slice x3.ha x3.hn x3.hc)
 o4 : Own0 w B4 T11 Y g1 g2 g3 g4
 b11 : BoxC w T11 g1 g2 g3 g4
structure StG (W : World) (x : SysIn) (Y Z : Sy) (N1 T8 B4 T11 : Nat) (a1 a2 a3 a4 g1 g2 g3 g4 : Value) (w : World) : Prop where
 px : Px W x w
 o2 : Own0 w N1 T8 Y a1 a2 a3 a4
 b8 : BoxC w T8 a1 a2 a3 a4
 o4 : Own0 w B4 T11 Z g1 g2 g3 g4
 b11 : BoxC w T11 g1 g2 g3 g4
section
variable {W : World} {x : SysIn} {Y Z : Sy} {x3 : SysIn} {N1 T8 lo T10 B4 T11 : Nat} {a1 a2 a3 a4 g1 g2 g3 g4 : Value} {w w' : World}
theorem StF.below (h : StF W x Y x3 N1 T8 lo T10 B4 T11 a1 a2 a3 a4 g1 g2 g3 g4 w) (hb : Below w.heap.size w w') : StF W x Y x3 N1 T8 lo T10 B4 T11 a1 a2 a3 a4 g1 g2 g3 g4 w' :=
 ⟨h.px.below hb, h.o2.below hb, h.b8.below hb, h.s3.below hb (Nat.le_of_lt h.b10.ltF), h.b10.below hb, h.o4.below hb, h.b11.below hb⟩
theorem StG.below (h : StG W x Y Z N1 T8 B4 T11 a1 a2 a3 a4 g1 g2 g3 g4 w) (hb : Below w.heap.size w w') : StG W x Y Z N1 T8 B4 T11 a1 a2 a3 a4 g1 g2 g3 g4 w' :=
 ⟨h.px.below hb, h.o2.below hb, h.b8.below hb, h.o4.below hb, h.b11.below hb⟩
theorem StF.mark (h : StF W x Y x3 N1 T8 lo T10 B4 T11 a1 a2 a3 a4 g1 g2 g3 g4 w) (t : Touch (fun b => lo ≤ b ∧ b < T10) w w') (h1 : W.heap.size < lo) (h2 : T8 < lo) (h3 : T10 ≤ B4) (h4 : B4 ≤ T11) : StG W x Y Y N1 T8 B4 T11 a1 a2 a3 a4 g1 g2 g3 g4 w' :=
 ⟨h.px.touchF t fun b hb => by omega, h.o2.touch t fun b hb => by omega, h.b8.touch t fun hb => by omega, h.o4.touch t fun b hb => by omega, h.b11.touch t fun hb => by omega⟩
theorem StG.mark (h : StG W x Y Z N1 T8 B4 T11 a1 a2 a3 a4 g1 g2 g3 g4 w) {Z' : Sy} (t : Touch (fun b => B4 ≤ b ∧ b < T11) w w') (o : Own0 w' B4 T11 Z' g1 g2 g3 g4) (h1 : W.heap.size < B4) (h2 : T8 < B4) : StG W x Y Z' N1 T8 B4 T11 a1 a2 a3 a4 g1 g2 g3 g4 w' :=
 ⟨h.px.touchF t fun b hb => by omega, h.o2.touch t fun b hb => by omega, h.b8.touch t fun hb => by omega, o, h.b11.touch t fun hb => by omega⟩
end
end Go.Proofs.YtdigofhceahpdaaGreatDoor
