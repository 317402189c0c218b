/- The walk of the model's Pack. -/
import Derived.Test.YtnfdnnmddadmkaaGreatDoorNc0
import Derived.Test.YtnfdnnmddadmkaaGreatDoorNc46
import Derived.Test.YtnfdnnmddadmkaaGreatDoorNc39
import Derived.Deep.RegionWith
import Derived.Lib.QuietBelow
import Derived.Test.YtnfdnnmddadmkaaGreatDoorNc43
import Derived.Test.YtnfdnnmddadmkaaGreatDoorNc37
namespace Go.Proofs.YtnfdnnmddadmkaaGreatDoor
set_option maxRecDepth 100000
set_option maxHeartbeats 4000000
open Go.ChangeShapes Go.WideShapes Go.ChangeAt Go.RowKit Go.Deep Go.Sort
theorem IsSys.g2 {w : World} {lo hi : Nat} {x : SysIn} {v : Value} (o : IsSys w lo hi x v) : ∃ x' : SysIn, v = x'.v ∧ SysG w x' ∧ x'.y = x.y ∧ ∀ i, i < x'.hn → x'.hL i ≤ x'.hC i := by
 obtain ⟨D1, D2, D3, D4, b1, vs, b3, b4, h1, h2, h3, o⟩ := o
 obtain ⟨q1, q2, q3, q4, -⟩ := o.hi
 have hst : ∀ i, i < x.sn → ∃ t : Option Addr × Nat × Option Addr × Nat, vs i = stV (x.sS i).p t.1 (x.sS i).rs.length t.2.1 t.2.2.1 (x.sS i).os.length t.2.2.2 (x.sS i).c ∧ w.cell? ⟨D2, i * 4, none⟩ = some (.int .i64 (x.sS i).p) ∧ w.cell? ⟨D2, i * 4 + 1, none⟩ = some (.slice t.1 (x.sS i).rs.length t.2.1) ∧ w.cell? ⟨D2, i * 4 + 2, none⟩ = some (.slice t.2.2.1 (x.sS i).os.length t.2.2.2) ∧ w.cell? ⟨D2, i * 4 + 3, none⟩ = some (.int .i64 (x.sS i).c) := by
  intro i hi
  obtain ⟨ra, rc, oa, oc, e, c0, c1, c2, c3⟩ := o.ss.cel i hi
  exact ⟨(ra, rc, oa, oc), e, c0, c1, c2, c3⟩
 have inh : Inhabited (Option Addr × Nat × Option Addr × Nat) := ⟨(none, 0, none, 0)⟩
 obtain ⟨t, ht⟩ := Go.Deep.choose_lt hst
 refine ⟨⟨some ⟨D1, 0, none⟩, x.pn, x.pn, fun i => some ⟨b1 i, 0, none⟩, x.pL, x.pL, x.pH, some ⟨D2, 0, none⟩, x.sn, x.sn, fun i => ⟨(x.sS i).p, (t i).1, (t i).2.1, (x.sS i).rs, (t i).2.2.1, (t i).2.2.2, (x.sS i).os, (x.sS i).c⟩, some ⟨D3, 0, none⟩, x.wn, x.wn, fun i => some ⟨b3 i, 0, none⟩, x.wL, x.wL, x.wH, some ⟨D4, 0, none⟩, x.hn, x.hn, fun i => some ⟨b4 i, 0, none⟩, x.hL, x.hL, x.hH⟩, o.val, ?_, rfl, fun i _ => Nat.le_refl _⟩
 have l1 := o.pp.lt
 have l2 := o.ss.lt
 have l3 := o.ww.lt
 have l4 := o.hh.lt
 refine ⟨.inr ⟨D1, 0, rfl, by omega, fun i hi => ?_⟩, fun i hi => ⟨b1 i, rfl, Nat.lt_of_lt_of_le (o.pp.bd i hi).2 o.pp.le, o.pp.row i hi⟩, ⟨.inr ⟨D2, 0, rfl, by omega, fun i hi => ?_⟩, fun i hi => ?_⟩, .inr ⟨D3, 0, rfl, by omega, fun i hi => ?_⟩, fun i hi => .inr ⟨b3 i, 0, rfl, Nat.lt_of_lt_of_le (o.ww.bd i hi).2 o.ww.le, o.ww.row i hi⟩, .inr ⟨D4, 0, rfl, by omega, fun i hi => ?_⟩, fun i hi => .inr ⟨b4 i, 0, rfl, Nat.lt_of_lt_of_le (o.hh.bd i hi).2 o.hh.le, o.hh.row i hi⟩⟩
 ·have := o.pp.cel i hi
  simpa using this
 ·have := (ht i hi).2
  simpa using this
 ·have h4 := o.ss.own i hi
  rw [(ht i hi).1] at h4
  exact ⟨h4.parts.1.slOf, h4.parts.2.1.slOf⟩
 ·have := o.ww.cel i hi
  simpa using this
 ·have := o.hh.cel i hi
  simpa using this
theorem SysIn.len_of {x x' : SysIn} (hs : x.size ≤ 1048576) (hy : x'.y = x.y) : x'.Len := by
 have l := SysIn.lens hs
 have e1 : x'.pn = x.pn := congrArg Sy.pn hy
 have e2 : x'.pL = x.pL := congrArg Sy.pL hy
 have e3 : x'.sn = x.sn := congrArg Sy.sn hy
 have e4 : x'.sS = x.sS := congrArg Sy.sS hy
 have e5 : x'.wn = x.wn := congrArg Sy.wn hy
 have e6 : x'.wL = x.wL := congrArg Sy.wL hy
 have e7 : x'.hn = x.hn := congrArg Sy.hn hy
 have e8 : x'.hL = x.hL := congrArg Sy.hL hy
 refine ⟨⟨by omega, fun i hi => ?_⟩, ⟨by omega, fun i hi => ?_⟩, ⟨by omega, fun i hi => ?_⟩, ⟨by omega, fun i hi => ?_⟩⟩
 ·rw [e2]
  exact sum_le l.1.2 i (by omega)
 ·have h1 := SysIn.lensS hs i (by omega)
  have h2 : x'.sS i = x.sS i := by rw [e4]
  have h3 : (x'.sQ i).rs = (x.sQ i).rs := congrArg S4.rs h2
  have h4 : (x'.sQ i).os = (x.sQ i).os := congrArg S4.os h2
  rw [h3, h4]
  exact h1
 ·rw [e6]
  exact sum_le l.2.2.1.2 i (by omega)
 ·rw [e8]
  exact sum_le l.2.2.2.2 i (by omega)
structure Px (W : World) (x : SysIn) (w : World) : Prop where
 be : Below W.heap.size W w
 bx : BoxC w W.heap.size (.slice x.pa x.pn x.pc) (.slice x.sa x.sn x.sc) (.slice x.wa x.wn x.wc) (.slice x.ha x.hn x.hc)
 lt : W.heap.size < w.heap.size
theorem Px.below {W : World} {x : SysIn} {w w' : World} (h : Px W x w) (hb : Below w.heap.size w w') : Px W x w' := ⟨h.be.trans (hb.mono (Nat.le_of_lt h.lt)), h.bx.below hb, Nat.lt_of_lt_of_le h.lt hb.size⟩
theorem OwnI.far {w w' : World} {B : Nat} {v : Value} {xs : List Int} {row : Option Nat} (h : OwnI w B v xs) (hg : w.grownBy w' row) (hne : ∀ j, v.ownBlock = some j → row ≠ some j) : OwnI w' B v xs := by
 refine h.kept hg ?_
 cases hv : v.ownBlock with
 | none => exact .inl rfl
 | some k => exact .inr (fun e => hne k hv e.symm)
theorem OwnI.sl {w : World} {B : Nat} {a0 : Option Addr} {cap : Nat} {xs : List Int} (h : OwnI w B (.slice a0 xs.length cap) xs) : Sl w a0 xs := by
 obtain ⟨a1, c1, e, s⟩ := h.form
 simp only [Value.slice.injEq] at e
 obtain ⟨rfl, -, -⟩ := e
 exact s
theorem OwnI.touch {w w' : World} {B : Nat} {v : Value} {xs : List Int} {P : Nat → Prop} (o : OwnI w B v xs) (ht : Touch P w w') (hp : ∀ g, v.ownBlock = some g → ¬ P g) : OwnI w' B v xs := o.blk fun k hk => ht.block k (o.lt k hk).2 (hp k hk)
theorem Px.touch {W : World} {x : SysIn} {w w' : World} {P : Nat → Prop} (h : Px W x w) (ht : Touch P w w') (hp : ∀ b, P b → W.heap.size < b) : Px W x w' := by
 have hc : ∀ i, w'.cell? ⟨W.heap.size, i, none⟩ = w.cell? ⟨W.heap.size, i, none⟩ := fun i => ht.cell h.lt (fun e => by have := hp _ e; omega) i
 obtain ⟨h0, h1, h2, h3⟩ := h.bx
 exact ⟨h.be.trans (ht.below (Nat.le_of_lt h.lt) fun b e => by have := hp b e; omega), ⟨(hc _).trans h0, (hc _).trans h1, (hc _).trans h2, (hc _).trans h3⟩, Nat.lt_of_lt_of_le h.lt ht.size⟩
def Sy.Marks (y : Sy) : Prop := ∃ i, i < y.wn ∧ ∃ k, k < y.wL i ∧ (y.wH i k).m = true
theorem assert_mark (w : World) : (Instr.typeAssert (.iface 236 (.agg #[])) 20 236 true).run Tryz.prog w = .ok (.tuple #[.agg #[], .bool true]) w := by kernel_rfl
theorem assert_num (v : Int) (w : World) : (Instr.typeAssert (.iface 3 (.int .i64 v)) 20 236 true).run Tryz.prog w = .ok (.tuple #[.agg #[], .bool false]) w := by kernel_rfl
theorem isMark_any (m : Bool) (v : Int) (w : World) :
  Calls Tryz.prog 145 #[itV m v] w fun e w' => e = .returned (.bool m) ∧ Below w.heap.size w w' := by
 have h1 := assert_mark
 have h2 := assert_num v
 cases m
 ·go_enter Tryz.func145, Tryz.ntmps145
  go_wp2
  go_ret
  exact ⟨rfl, by go_grown⟩
 ·go_enter Tryz.func145, Tryz.ntmps145
  go_wp2
  go_ret
  exact ⟨rfl, by go_grown⟩
def hasM (h : Nat → I2) (n : Nat) : Prop := ∃ k, k < n ∧ (h k).m = true
theorem indexMark_any (a : Option Addr) (n cap : Nat) (h : Nat → I2) (w : World) (hn : n ≤ 1048576) (hI : ItL w a n h) :
  Calls Tryz.prog 193 #[.slice a n cap, .func (.func 145) #[] #[]] w fun e w' => (∃ k : Int, e = .returned (.int .i64 k) ∧ (0 ≤ k ↔ hasM h n)) ∧ Below w.heap.size w w' := by
 have hn' : (n : Int) ≤ 1048576 := by omega
 have HI : Hid (ItL w a n h) := hI
 clear hI
 go_enter Tryz.func193, Tryz.ntmps193
 go_wp2_with fail
 go_loopw [8] (fun i wr => ∃ j : Nat, j ≤ n ∧ i = .int .i64 j ∧ Hid (∀ k, k < j → (h k).m = false) ∧ Hid (Below w.heap.size w wr)) (fun i _ => n - (intOf i).toNat)
 case atStart => exact ⟨0, Nat.zero_le _, rfl, fun k hk => by omega, Below.refl _ _⟩
 case round =>
  obtain ⟨j, hj, rfl, HF, HB⟩ := hrel
  by_cases hlt : j < n
  ·have hlt' : (j : Int) < (n : Int) := by omega
   obtain ⟨b, off, rfl, hb, c0, c1⟩ := (HI.out.below HB.out).at hlt
   go_wp2_with fail
   refine (isMark_any (h j).m (h j).v _).mono ?_
   rintro e w1 ⟨rfl, b1⟩
   have HB1 : Hid (Below w.heap.size w w1) := HB.out.trans (b1.mono HB.out.size)
   generalize hm : (h j).m = t at *
   have HM : Hid ((h j).m = t) := hm
   clear b1 HB hm c0 c1
   cases t
   ·go_wp2
    go_roundw
    case rel =>
     refine ⟨j + 1, by omega, by go_num, fun k hk => ?_, HB1.out⟩
     by_cases e : k = j
     ·subst e; exact HM.out
     ·exact HF.out k (by omega)
    case measure => simp [intOf]; omega
   ·go_wp2
    go_ret
    exact ⟨⟨_, rfl, ⟨fun _ => ⟨j, hlt, HM.out⟩, fun _ => by omega⟩⟩, HB1.out⟩
  ·have hjn : j = n := by omega
   have HN : Hid (¬ hasM h n) := fun ⟨k, hk, hm⟩ => by
    have := HF.out k (by omega)
    rw [this] at hm
    cases hm
   clear HF
   go_wp2
   go_ret
   exact ⟨⟨_, rfl, ⟨fun h => by omega, fun h => absurd h HN.out⟩⟩, HB.out⟩
theorem hasMark_any (a : Option Addr) (n cap : Nat) (h : Nat → I2) (w : World) (hn : n ≤ 1048576) (hI : ItL w a n h) :
  Calls Tryz.prog 144 #[.slice a n cap, .func (.func 145) #[] #[]] w fun e w' => e = .returned (.bool (pB (hasM h n))) ∧ Below w.heap.size w w' := by
 have HC := indexMark_any a n cap h w hn hI
 clear hI hn
 go_enter Tryz.func144, Tryz.ntmps144
 go_wp2_with fail
 refine HC.mono ?_
 clear HC
 rintro e w1 ⟨⟨k, rfl, hk⟩, b1⟩
 by_cases hm : hasM h n
 ·have k0 : k ≥ 0 := hk.2 hm
  have HM : Hid (hasM h n) := hm
  clear hk hm
  go_wp2
  go_ret
  exact ⟨ret_bool (pB_true HM.out).symm, b1⟩
 ·have k0 : ¬ k ≥ 0 := fun h => hm (hk.1 h)
  have HM : Hid (¬ hasM h n) := hm
  clear hk hm
  go_wp2
  go_ret
  exact ⟨ret_bool ((decide_eq_false (by omega)).trans (pB_false HM.out).symm), b1⟩
theorem hasMarks_any (x : SysIn) (w : World) (hG : SysG w x) (hL : x.Len) :
  Calls Tryz.prog 83 #[x.v] w fun e w' => e = .returned (.bool (pB x.y.Marks)) ∧ Below w.heap.size w w' := by
 have HG : Hid (SysG w x) := hG
 have HL : Hid x.Len := hL
 have hn' : (x.wn : Int) ≤ 1048576 := by have := hL.w.1; omega
 clear hG hL
 go_enter Tryz.func83, Tryz.ntmps83
 have B0 : Hid (Below w.heap.size w (w.alloc (oQ4 x.pa x.pn x.pc x.sa x.sn x.sc x.wa x.wn x.wc x.ha x.hn x.hc))) := below_allocS _ _
 go_wp2_with fail
 generalize w.alloc (oQ4 x.pa x.pn x.pc x.sa x.sn x.sc x.wa x.wn x.wc x.ha x.hn x.hc) = wA at *
 go_loopw [8] (fun i wr => ∃ j : Nat, j ≤ x.wn ∧ i = .int .i64 j ∧ Hid (∀ k, k < j → ¬ hasM (x.wH k) (x.wL k)) ∧ Hid (Below w.heap.size w wr)) (fun i _ => x.wn - (intOf i).toNat)
 case atStart => exact ⟨0, Nat.zero_le _, rfl, fun k hk => by omega, B0.out⟩
 case round =>
  clear B0
  obtain ⟨j, hj, rfl, HF, HB⟩ := hrel
  by_cases hlt : j < x.wn
  ·have hlt' : (j : Int) < (x.wn : Int) := by omega
   obtain ⟨b, off, ea, c0⟩ := (HG.out.w.below HB.out).at hlt
   rw [ea]
   clear ea
   go_wp2_with fail
   refine (hasMark_any (x.wA j) (x.wL j) (x.wC j) (x.wH j) wr (HL.out.w.2 j hlt) ((HG.out.wi j hlt).below HB.out)).mono ?_
   rintro e w1 ⟨rfl, b1⟩
   have HB1 : Hid (Below w.heap.size w w1) := HB.out.trans (b1.mono HB.out.size)
   clear b1 HB c0
   by_cases hm : hasM (x.wH j) (x.wL j)
   ·have HM : Hid x.y.Marks := ⟨j, hlt, hm⟩
    rw [pB_true hm]
    clear hm
    go_wp2
    go_ret
    exact ⟨ret_bool (pB_true HM.out).symm, HB1.out⟩
   ·rw [pB_false hm]
    have HM : Hid (¬ hasM (x.wH j) (x.wL j)) := hm
    clear hm
    go_wp2
    go_roundw
    case rel =>
     refine ⟨j + 1, by omega, by go_num, fun k hk => ?_, HB1.out⟩
     by_cases e : k = j
     ·subst e; exact HM.out
     ·exact HF.out k (by omega)
    case measure => simp [intOf]; omega
  ·have HM : Hid (¬ x.y.Marks) := fun ⟨i, hi, k, hk, hm⟩ => HF.out i (by have : i < x.wn := hi; omega) ⟨k, hk, hm⟩
   clear HF
   go_wp2
   go_ret
   exact ⟨ret_bool (pB_false HM.out).symm, HB.out⟩
theorem l11Marks_any (x : SysIn) (w : World) (hG : SysG w x) (hL : x.Len) :
  Calls Tryz.prog 80 #[x.v] w fun e w' => e = .returned (.bool (pB x.y.Marks)) ∧ Below w.heap.size w w' := by
 have HG : Hid (SysG w x) := hG
 have HL : Hid x.Len := hL
 have hn' : (x.wn : Int) ≤ 1048576 := by have := hL.w.1; omega
 clear hG hL
 go_enter Tryz.func80, Tryz.ntmps80
 have B0 : Hid (Below w.heap.size w (w.alloc (oQ4 x.pa x.pn x.pc x.sa x.sn x.sc x.wa x.wn x.wc x.ha x.hn x.hc)) ∧ BoxC (w.alloc (oQ4 x.pa x.pn x.pc x.sa x.sn x.sc x.wa x.wn x.wc x.ha x.hn x.hc)) w.heap.size (.slice x.pa x.pn x.pc) (.slice x.sa x.sn x.sc) (.slice x.wa x.wn x.wc) (.slice x.ha x.hn x.hc)) := ⟨below_allocS _ _, BoxC.new _ _ _ _ _ _⟩
 go_wp2_with fail
 generalize w.alloc (oQ4 x.pa x.pn x.pc x.sa x.sn x.sc x.wa x.wn x.wc x.ha x.hn x.hc) = wA at *
 go_loopw [3] (fun i wr => ∃ j : Nat, j ≤ x.wn ∧ i = .int .i64 j ∧ Hid (∀ k, k < j → ¬ hasM (x.wH k) (x.wL k)) ∧ wr = wA) (fun i _ => x.wn - (intOf i).toNat)
 case atStart => exact ⟨0, Nat.zero_le _, rfl, fun k hk => by omega, rfl⟩
 case round =>
  obtain ⟨j, hj, rfl, HF, rfl⟩ := hrel
  obtain ⟨-, -, p2, -⟩ := B0.out.2
  by_cases hlt : j < x.wn
  ·have hlt' : (j : Int) < (x.wn : Int) := by omega
   obtain ⟨b, off, ea, c0⟩ := (HG.out.w.below B0.out.1).at hlt
   rw [ea] at p2
   clear ea
   have hll : (x.wL j : Int) ≤ 1048576 := by have := HL.out.w.2 j hlt; omega
   have HIt : Hid (ItL wr (x.wA j) (x.wL j) (x.wH j)) := (HG.out.wi j hlt).below B0.out.1
   go_wp2_with fail
   go_loopw [4] (fun i wq => ∃ k : Nat, k ≤ x.wL j ∧ i = .int .i64 k ∧ Hid (∀ m, m < k → (x.wH j m).m = false) ∧ wq = wr) (fun i _ => x.wL j - (intOf i).toNat)
   case atStart => exact ⟨0, Nat.zero_le _, rfl, fun k hk => by omega, rfl⟩
   case round =>
    obtain ⟨k, hk, rfl, HK, rfl⟩ := hrel
    by_cases hkt : k < x.wL j
    ·have hkt' : (k : Int) < (x.wL j : Int) := by omega
     obtain ⟨b2, off2, eb, -, d0, d1⟩ := HIt.out.at hkt
     rw [eb] at c0
     clear eb
     generalize hm : (x.wH j k).m = t at *
     have HM : Hid ((x.wH j k).m = t) := hm
     clear hm
     cases t
     ·go_wp2
      go_roundw
      case rel =>
       refine ⟨k + 1, by omega, by go_num, fun m hm => ?_, by trivial⟩
       by_cases e : m = k
       ·subst e; exact HM.out
       ·exact HK.out m (by omega)
      case measure => simp [intOf]; omega
     ·have HY : Hid x.y.Marks := ⟨j, hlt, k, hkt, HM.out⟩
      clear HF HK
      go_wp2
      go_ret
      exact ⟨ret_bool (pB_true HY.out).symm, B0.out.1⟩
    ·have HNo : Hid (¬ hasM (x.wH j) (x.wL j)) := fun ⟨m, hm, h⟩ => by
      have := HK.out m (by omega)
      rw [this] at h
      cases h
     clear HK
     go_wp2
     go_roundw
     case rel =>
      refine ⟨j + 1, by omega, by go_num, fun m hm => ?_, by trivial⟩
      by_cases e : m = j
      ·subst e; exact HNo.out
      ·exact HF.out m (by omega)
     case measure => simp [intOf]; omega
  ·have HM : Hid (¬ x.y.Marks) := fun ⟨i, hi, k, hk, hm⟩ => HF.out i (by have : i < x.wn := hi; omega) ⟨k, hk, hm⟩
   clear HF
   go_wp2
   go_ret
   exact ⟨ret_bool (pB_false HM.out).symm, B0.out.1⟩
noncomputable def pkT (y : Sy) : Bool := y.okB && !(pB y.Marks)
noncomputable def pkS (y : Sy) : List Int := if pkT y = true then byL (pkN y y.pn) else []
structure PkR (wK wr : World) (o : Value) (L : List Int) : Prop where
 ow : OwnB wr wK.heap.size o (byL L)
 be : Below wK.heap.size wK wr
theorem PkR.to {wK wr : World} {o : Value} {L M : List Int} (h : PkR wK wr o L) (e : M = L) : PkR wK wr o M := e ▸ h
theorem pk_append {ops : Array Oper} {rest : List Oper} {op : Oper} {act : Act} {Q : Exit → Act → World → Prop} {wK wr w1 : World} {o : Value} {L M : List Int} (h : PkR wK wr o L) (b1 : Below wr.heap.size wr w1) (hgd : op.guard = none) (s x : Operand)
  (ho : op.op = .call { callee := .builtin .append, args := #[s, x], argTypes := #[22, 22] }) (cp n : Nat) (ap : Option Addr) (hs : act.eval s = o) (hx : act.eval x = .slice ap n cp) (hnn : n = (byL M).length) (hy : SlB w1 ap (byL M)) (hn : L.length + M.length ≤ 100000)
  (hK : ∀ v' w4, PkR wK w4 v' (L ++ M) → wpList Tryz.prog ops Q rest (act.put op.dst v') w4) : wpList Tryz.prog ops Q (op :: rest) act w1 := by
 subst hnn
 have l1 := byL_len L
 have l2 := byL_len M
 refine wpList_append_bytes w1 hgd s x ho wK.heap.size cp o ap (byL L) (byL M) hs hx (h.ow.below b1) hy (by omega) (Nat.le_trans h.be.size b1.size) ?_
 intro v' w4 o4 g4 _
 refine hK v' w4 ⟨by rw [byL_append]; exact o4, ?_⟩
 exact (h.be.trans (b1.mono h.be.size)).trans (Below.grown (Below.refl _ _) g4 (Nat.le_trans h.be.size b1.size) (fun j hj => (h.ow.lt j hj).1))
theorem pk_bds {y : Sy} (h : y.Ok) : (∀ k, k ≤ y.pn → (pkN y k).length ≤ 4000) ∧ (∀ k, k < y.pn → y.pL k ≤ 30 ∧ y.hL k ≤ 200) ∧ y.pn ≤ 4 ∧ y.hn = y.pn := by
 have hb := h.bds
 have hc := h.cn
 have h2 : ∀ k, k < y.pn → y.pL k ≤ 30 ∧ y.hL k ≤ 200 := fun k hk => ⟨hb.1 k hk, h.hl200 hk⟩
 refine ⟨fun k hk => ?_, h2, hc.1.2, hc.2.2.1⟩
 have := pkN_len y y.pn h2 k hk
 omega
theorem specPack_any (x : SysIn) (w : World) (hG : SysG w x) (hL : x.Len) (hcap : ∀ i, i < x.hn → x.hL i ≤ x.hC i) :
  Calls Tryz.prog 30 #[x.v] w fun e w' => ∃ u, e = .returned (.tuple #[u, .bool (pkT x.y)]) ∧ OwnB w' w.heap.size u (pkS x.y) ∧ Below w.heap.size w w' := by
 have HG : Hid (SysG w x) := hG
 have HL : Hid x.Len := hL
 have HS : Hid (∀ wx, Below w.heap.size w wx → Calls Tryz.prog 48 #[x.v] wx fun e w' => e = .returned (.bool x.y.okB) ∧ Below wx.heap.size wx w') := fun wx hb => specSysOk_any x wx (hG.below hb) hL hcap
 have HM : Hid (∀ wx, Below w.heap.size w wx → Calls Tryz.prog 80 #[x.v] wx fun e w' => e = .returned (.bool (pB x.y.Marks)) ∧ Below wx.heap.size wx w') := fun wx hb => l11Marks_any x wx (hG.below hb) hL
 have BW : Hid (Below w.heap.size w (w.alloc (oQ4 x.pa x.pn x.pc x.sa x.sn x.sc x.wa x.wn x.wc x.ha x.hn x.hc))) := below_alloc _ _
 have NB : Hid (BoxC (w.alloc (oQ4 x.pa x.pn x.pc x.sa x.sn x.sc x.wa x.wn x.wc x.ha x.hn x.hc)) w.heap.size (.slice x.pa x.pn x.pc) (.slice x.sa x.sn x.sc) (.slice x.wa x.wn x.wc) (.slice x.ha x.hn x.hc)) := BoxC.new w _ _ _ _ _
 clear hG hL hcap
 go_enter Tryz.func30, Tryz.ntmps30
 go_wp2_with fail
 generalize w.alloc (oQ4 x.pa x.pn x.pc x.sa x.sn x.sc x.wa x.wn x.wc x.ha x.hn x.hc) = W2 at *
 refine (HS.out W2 BW.out).mono ?_
 rintro e w1 ⟨rfl, q1⟩
 have B1 : Hid (Below w.heap.size w w1 ∧ BoxC w1 w.heap.size (.slice x.pa x.pn x.pc) (.slice x.sa x.sn x.sc) (.slice x.wa x.wn x.wc) (.slice x.ha x.hn x.hc)) := ⟨BW.out.trans (q1.mono BW.out.size), NB.out.below q1⟩
 clear q1 BW NB HS
 rcases Bool.eq_false_or_eq_true x.y.okB with t | t
 case inr =>
  have HT : Hid (pkT x.y = false) := by show pkT x.y = false; rw [pkT, t]; rfl
  have HV : Hid (pkS x.y = []) := by
   show pkS x.y = []
   rw [pkS, if_neg (by rw [HT.out]; decide)]
  have OE : Hid (OwnB (w1.alloc (.cells #[] 5)) w.heap.size (.slice (some ⟨w1.heap.size, 0, none⟩) 0 0) [] ∧ Below w.heap.size w (w1.alloc (.cells #[] 5))) := ⟨(ownB_empty w1).mono B1.out.1.size, B1.out.1.trans ((below_alloc _ _).mono B1.out.1.size)⟩
  rw [t]
  clear t
  go_wp2
  exact bodyPost_ret (v := .tuple #[.slice (some ⟨w1.heap.size, 0, none⟩) 0 0, .bool false]) (by simp [results, Tryz.results30, go_sem]) rfl ⟨_, by rw [HT.out], by rw [HV.out]; exact OE.out.1, OE.out.2⟩
 have HK : Hid x.y.Ok := Sy.ok_of t
 have HT0 : Hid (pkT x.y = !(pB x.y.Marks)) := by show pkT x.y = _; rw [pkT, t]; rfl
 rw [t]
 clear t
 obtain ⟨b0, b1, b2, b3⟩ := B1.out.2
 go_wp2_with fail
 clear b0 b1 b2 b3
 refine (HM.out w1 B1.out.1).mono ?_
 rintro e wK ⟨rfl, q2⟩
 have B2 : Hid (Below w.heap.size w wK ∧ BoxC wK w.heap.size (.slice x.pa x.pn x.pc) (.slice x.sa x.sn x.sc) (.slice x.wa x.wn x.wc) (.slice x.ha x.hn x.hc)) := ⟨B1.out.1.trans (q2.mono B1.out.1.size), B1.out.2.below q2⟩
 clear q2 B1 HM
 rcases Bool.eq_false_or_eq_true (pB x.y.Marks) with t | t
 case inl =>
  have HT : Hid (pkT x.y = false) := by show pkT x.y = false; rw [HT0.out, t]; rfl
  have HV : Hid (pkS x.y = []) := by
   show pkS x.y = []
   rw [pkS, if_neg (by rw [HT.out]; decide)]
  have OE : Hid (OwnB (wK.alloc (.cells #[] 5)) w.heap.size (.slice (some ⟨wK.heap.size, 0, none⟩) 0 0) [] ∧ Below w.heap.size w (wK.alloc (.cells #[] 5))) := ⟨(ownB_empty wK).mono B2.out.1.size, B2.out.1.trans ((below_alloc _ _).mono B2.out.1.size)⟩
  rw [t]
  clear t
  go_wp2
  exact bodyPost_ret (v := .tuple #[.slice (some ⟨wK.heap.size, 0, none⟩) 0 0, .bool false]) (by simp [results, Tryz.results30, go_sem]) rfl ⟨_, by rw [HT.out], by rw [HV.out]; exact OE.out.1, OE.out.2⟩
 have HT : Hid (pkT x.y = true) := by show pkT x.y = true; rw [HT0.out, t]; rfl
 have HV : Hid (pkS x.y = byL (pkN x.y x.pn)) := by show pkS x.y = _; rw [pkS, if_pos HT.out]; rfl
 rw [t]
 clear t HT0
 have HB : Hid ((∀ k, k ≤ x.pn → (pkN x.y k).length ≤ 4000) ∧ (∀ k, k < x.pn → x.pL k ≤ 30 ∧ x.hL k ≤ 200) ∧ x.pn ≤ 4 ∧ x.hn = x.pn) := pk_bds HK.out
 have hpn : (x.pn : Int) ≤ 4 := by have := HB.out.2.2.1; omega
 have HG2 : Hid (SysG wK x) := HG.out.below B2.out.1
 clear HG HL HK
 obtain ⟨b0, b1, b2, b3⟩ := B2.out.2
 go_wp2_with fail
 clear b0 b1 b2 b3
 refine (specPutNum_any (x.pn : Int) wK).mono ?_
 rintro e w3 ⟨u3, rfl, o3, q3⟩
 have R3 : Hid (PkR wK w3 u3 (pkN x.y 0)) := ⟨by rw [pkN, byL_one]; exact o3, q3⟩
 clear o3 q3
 go_wp2_with fail
 go_loopw [4, 5] (fun o i wr => ∃ k : Nat, k ≤ x.pn ∧ i = .int .i64 (k : Int) ∧ Hid (PkR wK wr o (pkN x.y k))) (fun _ i _ => x.pn - (intOf i).toNat)
 case atStart => exact ⟨0, Nat.zero_le _, rfl, R3.out⟩
 case round =>
  clear R3
  obtain ⟨k, hk, rfl, HR⟩ := hrel
  by_cases hlt : k < x.pn
  ·have hlt' : (k : Int) < (x.pn : Int) := by omega
   obtain ⟨bp, op, ep, cp⟩ := (HG2.out.below HR.out.be).p.at hlt
   have HEp : Hid (x.pa = some ⟨bp, op, none⟩) := ep
   obtain ⟨b0, b1, b2, b3⟩ := B2.out.2.below HR.out.be
   rw [ep] at b0
   clear ep
   have hpl : (x.pL k : Int) ≤ 30 := by have := (HB.out.2.1 k hlt).1; omega
   have hhl : (x.hL k : Int) ≤ 200 := by have := (HB.out.2.1 k hlt).2; omega
   go_wp2_with fail
   clear b0 b1 b2 b3 cp
   refine (specPutNum_any (x.pL k : Int) wr).mono ?_
   rintro e w5 ⟨u5, rfl, o5, q5⟩
   obtain ⟨ap, cq, rfl, sp⟩ := o5.form
   have SP : Hid (SlB w5 ap (byL [(x.pL k : Int)]) ∧ Below wr.heap.size wr w5 ∧ (puL (x.pL k : Int)).length = (byL [(x.pL k : Int)]).length) := ⟨by rw [byL_one]; exact sp, q5, by rw [byL_one]⟩
   clear o5 sp q5
   go_wp2_with (at_builtin; refine pk_append HR.out SP.out.2.1 rfl _ _ rfl cq _ ap rfl rfl SP.out.2.2 SP.out.1 (by have := HB.out.1 k hk; simp only [List.length_cons, List.length_nil]; omega) ?_; intro v6 w6 r6; have R6 : Hid (PkR wK w6 v6 (pkN x.y k ++ ((x.pL k : Int) :: pkI (x.pH k) 0))) := r6; clear r6)
   clear SP HR
   go_loopw [4, 6] (fun o i wr => ∃ j : Nat, j ≤ x.pL k ∧ i = .int .i64 (j : Int) ∧ Hid (PkR wK wr o (pkN x.y k ++ ((x.pL k : Int) :: pkI (x.pH k) j)))) (fun _ i _ => x.pL k - (intOf i).toNat)
   case atStart => exact ⟨0, Nat.zero_le _, rfl, R6.out⟩
   case round =>
    clear R6
    obtain ⟨j, hj, rfl, HR⟩ := hrel
    obtain ⟨b0, b1, b2, b3⟩ := B2.out.2.below HR.out.be
    rw [HEp.out] at b0
    have cp : wr.cell? ⟨bp, op + k, none⟩ = some (.slice (x.pA k) (x.pL k) (x.pC k)) := by
     obtain ⟨b', o', e', c'⟩ := (HG2.out.below HR.out.be).p.at hlt
     rw [HEp.out] at e'
     cases e'
     exact c'
    by_cases hjl : j < x.pL k
    ·have hjl' : (j : Int) < (x.pL k : Int) := by omega
     obtain ⟨bi, ei, lti, ai⟩ := (HG2.out.below HR.out.be).pi k hlt
     obtain ⟨c0, c1, c2, c3, c4⟩ := ai j hjl
     rw [ei] at cp
     clear ei ai
     rw [Nat.zero_add] at c0 c1 c2 c3 c4
     have H0 : Hid (Sl ((wr.alloc (oQ2 (x.pH k j).o (x.pH k j).r (x.pH k j).a (x.pH k j).b (x.pH k j).n)).alloc (.cells #[.int .i64 (x.pH k j).o, .int .i64 (x.pH k j).r, .int .i64 (x.pH k j).a, .int .i64 (x.pH k j).b, .int .i64 (x.pH k j).n] 3)) (some ⟨wr.heap.size + 1, 0, none⟩) [(x.pH k j).o, (x.pH k j).r, (x.pH k j).a, (x.pH k j).b, (x.pH k j).n] ∧ Below wr.heap.size wr ((wr.alloc (oQ2 (x.pH k j).o (x.pH k j).r (x.pH k j).a (x.pH k j).b (x.pH k j).n)).alloc (.cells #[.int .i64 (x.pH k j).o, .int .i64 (x.pH k j).r, .int .i64 (x.pH k j).a, .int .i64 (x.pH k j).b, .int .i64 (x.pH k j).n] 3))) := ⟨by
      have h := (own_lit (wr.alloc (oQ2 (x.pH k j).o (x.pH k j).r (x.pH k j).a (x.pH k j).b (x.pH k j).n)) [(x.pH k j).o, (x.pH k j).r, (x.pH k j).a, (x.pH k j).b, (x.pH k j).n] (by simp)).form
      obtain ⟨a1, cc, e, s⟩ := h
      simp only [Value.slice.injEq] at e
      obtain ⟨rfl, -, -⟩ := e
      simpa using s, ((Below.refl _ _).alloc (Nat.le_refl _) _).alloc (by simp) _⟩
     go_wp2_with fail
     clear b0 b1 b2 b3 cp c0 c1 c2 c3 c4
     generalize (wr.alloc (oQ2 (x.pH k j).o (x.pH k j).r (x.pH k j).a (x.pH k j).b (x.pH k j).n)).alloc (.cells #[.int .i64 (x.pH k j).o, .int .i64 (x.pH k j).r, .int .i64 (x.pH k j).a, .int .i64 (x.pH k j).b, .int .i64 (x.pH k j).n] 3) = wJ at *
     refine (l14Nums_any (some ⟨wr.heap.size + 1, 0, none⟩) 5 [(x.pH k j).o, (x.pH k j).r, (x.pH k j).a, (x.pH k j).b, (x.pH k j).n] wJ (by simp) H0.out.1).mono ?_
     rintro e w7 ⟨u7, rfl, o7, q7⟩
     obtain ⟨ap, cq, rfl, sp⟩ := o7.form
     have SP : Hid (SlB w7 ap (byL [(x.pH k j).o, (x.pH k j).r, (x.pH k j).a, (x.pH k j).b, (x.pH k j).n]) ∧ Below wr.heap.size wr w7) := ⟨sp, H0.out.2.trans (q7.mono H0.out.2.size)⟩
     clear o7 sp q7 H0
     go_wp2_with (at_builtin; refine pk_append HR.out SP.out.2 rfl _ _ rfl cq _ ap rfl rfl rfl SP.out.1 (by have := HB.out.1 k hk; have := (HB.out.2.1 k hlt).1; simp only [List.length_append, List.length_cons, List.length_nil, pkI_len]; omega) ?_; intro v8 w8 r8; have R8 : Hid (PkR wK w8 v8 (pkN x.y k ++ ((x.pL k : Int) :: pkI (x.pH k) (j + 1)))) := r8.to (by rw [pkI, List.append_assoc]; rfl); clear r8)
     clear SP HR
     go_roundw
     case rel => exact ⟨j + 1, by omega, by go_num, R8.out⟩
     case measure => simp [intOf]; omega
    ·have hje : j = x.pL k := by omega
     have HR1 : Hid (PkR wK wr u4 (pkN x.y k ++ ((x.pL k : Int) :: pkI (x.pH k) (x.pL k)))) := by have h := HR.out; rw [hje] at h; exact h
     have hjl' : ¬ ((j : Int) < (x.pL k : Int)) := by omega
     obtain ⟨bh, oh, eh, ch⟩ := (HG2.out.below HR.out.be).h.at (k := k) (by have := HB.out.2.2.2; omega)
     have HEh : Hid (x.ha = some ⟨bh, oh, none⟩) := eh
     rw [eh] at b3
     have hnn : (x.hn : Int) = (x.pn : Int) := by have := HB.out.2.2.2; omega
     have hlh : (k : Int) < (x.hn : Int) := by omega
     clear eh hje HR hnn
     go_wp2_with fail
     clear b0 b1 b2 b3 cp ch
     refine (specPutNum_any (x.hL k : Int) wr).mono ?_
     rintro e w5 ⟨u5, rfl, o5, q5⟩
     obtain ⟨ap, cq, rfl, sp⟩ := o5.form
     have SP : Hid (SlB w5 ap (byL [(x.hL k : Int)]) ∧ Below wr.heap.size wr w5 ∧ (puL (x.hL k : Int)).length = (byL [(x.hL k : Int)]).length) := ⟨by rw [byL_one]; exact sp, q5, by rw [byL_one]⟩
     clear o5 sp q5
     go_wp2_with (at_builtin; refine pk_append HR1.out SP.out.2.1 rfl _ _ rfl cq _ ap rfl rfl SP.out.2.2 SP.out.1 (by have := HB.out.1 k hk; have := (HB.out.2.1 k hlt).1; simp only [List.length_append, List.length_cons, List.length_nil, pkI_len]; omega) ?_; intro v6 w6 r6; have R6 : Hid (PkR wK w6 v6 (pkN x.y k ++ (((x.pL k : Int) :: pkI (x.pH k) (x.pL k)) ++ ((x.hL k : Int) :: pkE (x.hH k) 0)))) := r6.to (by rw [List.append_assoc]; rfl); clear r6)
     clear SP HR1
     go_loopw [4, 8] (fun o i wr => ∃ j : Nat, j ≤ x.hL k ∧ i = .int .i64 (j : Int) ∧ Hid (PkR wK wr o (pkN x.y k ++ (((x.pL k : Int) :: pkI (x.pH k) (x.pL k)) ++ ((x.hL k : Int) :: pkE (x.hH k) j))))) (fun _ i _ => x.hL k - (intOf i).toNat)
     case atStart => exact ⟨0, Nat.zero_le _, rfl, R6.out⟩
     case round =>
      clear R6
      obtain ⟨i, hi, rfl, HR⟩ := hrel
      obtain ⟨b0, b1, b2, b3⟩ := B2.out.2.below HR.out.be
      rw [HEh.out] at b3
      have ch : wr.cell? ⟨bh, oh + k, none⟩ = some (.slice (x.hA k) (x.hL k) (x.hC k)) := by
       obtain ⟨b', o', e', c'⟩ := (HG2.out.below HR.out.be).h.at (k := k) (by have := HB.out.2.2.2; omega)
       rw [HEh.out] at e'
       cases e'
       exact c'
      by_cases hil : i < x.hL k
      ·have hil' : (i : Int) < (x.hL k : Int) := by omega
       obtain ⟨bi, oi, ei, lti, c0, c1, c2⟩ := ((HG2.out.below HR.out.be).hi k (by have := HB.out.2.2.2; omega)).at hil
       rw [ei] at ch
       clear ei
       have H0 : Hid (Sl ((wr.alloc (oQ0 (x.hH k i).k (x.hH k i).q (x.hH k i).v)).alloc (.cells #[.int .i64 (x.hH k i).k, .int .i64 (x.hH k i).q, .int .i64 (x.hH k i).v] 3)) (some ⟨wr.heap.size + 1, 0, none⟩) [(x.hH k i).k, (x.hH k i).q, (x.hH k i).v] ∧ Below wr.heap.size wr ((wr.alloc (oQ0 (x.hH k i).k (x.hH k i).q (x.hH k i).v)).alloc (.cells #[.int .i64 (x.hH k i).k, .int .i64 (x.hH k i).q, .int .i64 (x.hH k i).v] 3))) := ⟨by
        have h := (own_lit (wr.alloc (oQ0 (x.hH k i).k (x.hH k i).q (x.hH k i).v)) [(x.hH k i).k, (x.hH k i).q, (x.hH k i).v] (by simp)).form
        obtain ⟨a1, cc, e, s⟩ := h
        simp only [Value.slice.injEq] at e
        obtain ⟨rfl, -, -⟩ := e
        simpa using s, ((Below.refl _ _).alloc (Nat.le_refl _) _).alloc (by simp) _⟩
       go_wp2_with fail
       clear b0 b1 b2 b3 ch c0 c1 c2
       generalize (wr.alloc (oQ0 (x.hH k i).k (x.hH k i).q (x.hH k i).v)).alloc (.cells #[.int .i64 (x.hH k i).k, .int .i64 (x.hH k i).q, .int .i64 (x.hH k i).v] 3) = wJ at *
       refine (l14Nums_any (some ⟨wr.heap.size + 1, 0, none⟩) 3 [(x.hH k i).k, (x.hH k i).q, (x.hH k i).v] wJ (by simp) H0.out.1).mono ?_
       rintro e w7 ⟨u7, rfl, o7, q7⟩
       obtain ⟨ap, cq, rfl, sp⟩ := o7.form
       have SP : Hid (SlB w7 ap (byL [(x.hH k i).k, (x.hH k i).q, (x.hH k i).v]) ∧ Below wr.heap.size wr w7) := ⟨sp, H0.out.2.trans (q7.mono H0.out.2.size)⟩
       clear o7 sp q7 H0
       go_wp2_with (at_builtin; refine pk_append HR.out SP.out.2 rfl _ _ rfl cq _ ap rfl rfl rfl SP.out.1 (by have := HB.out.1 k hk; have := (HB.out.2.1 k hlt).1; have := (HB.out.2.1 k hlt).2; simp only [List.length_append, List.length_cons, List.length_nil, pkI_len, pkE_len]; omega) ?_; intro v8 w8 r8; have R8 : Hid (PkR wK w8 v8 (pkN x.y k ++ (((x.pL k : Int) :: pkI (x.pH k) (x.pL k)) ++ ((x.hL k : Int) :: pkE (x.hH k) (i + 1))))) := r8.to (by rw [pkE]; simp only [List.append_assoc, List.cons_append]); clear r8)
       clear SP HR
       go_roundw
       case rel => exact ⟨i + 1, by omega, by go_num, R8.out⟩
       case measure => simp [intOf]; omega
      ·have hie : i = x.hL k := by omega
       have HR1 : Hid (PkR wK wr u4 (pkN x.y (k + 1))) := by
        have h := HR.out
        rw [hie] at h
        exact h
       have hil' : ¬ ((i : Int) < (x.hL k : Int)) := by omega
       clear hie HR
       go_wp2
       go_roundw
       case rel => exact ⟨k + 1, by omega, by go_num, HR1.out⟩
       case measure => simp [intOf]; omega
  ·have hke : k = x.pn := by omega
   have F : Hid (OwnB wr w.heap.size u4 (pkS x.y) ∧ Below w.heap.size w wr) := by
    have h := HR.out
    rw [hke] at h
    exact ⟨by rw [HV.out]; exact h.ow.mono B2.out.1.size, B2.out.1.trans (h.be.mono B2.out.1.size)⟩
   have hlt' : ¬ ((k : Int) < (x.pn : Int)) := by omega
   obtain ⟨b0, b1, b2, b3⟩ := B2.out.2.below HR.out.be
   clear hke HR
   go_wp2
   exact bodyPost_ret (v := .tuple #[u4, .bool true]) (by simp [results, Tryz.results30, go_sem]) rfl ⟨_, by rw [HT.out], F.out⟩
end Go.Proofs.YtnfdnnmddadmkaaGreatDoor
