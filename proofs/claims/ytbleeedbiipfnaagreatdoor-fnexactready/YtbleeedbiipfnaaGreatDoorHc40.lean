/- The one listed variable: what the condition gives a walk, and a world that meets it. -/
import Derived.Test.YtbleeedbiipfnaaGreatDoorHc0
import Derived.Test.YtbleeedbiipfnaaGreatDoorHc37
import Derived.Deep.RegionWith
import Derived.Test.YtbleeedbiipfnaaGreatDoorRows
import Derived.Test.YtbleeedbiipfnaaGreatDoorTie
import Derived.ChangeSame
import Derived.ChangeVars
import Derived.JoinedOf
import Derived.RowKit
import Derived.RowKitTokens
import Derived.LaidLaws
import Derived.LaidHandle
import Derived.Stop.Joined
namespace Go.Proofs.YtbleeedbiipfnaaGreatDoor
set_option maxRecDepth 100000
set_option maxHeartbeats 1000000
open Go.ChangeShapes Go.WideShapes Go.ChangeAt Go.RowKit Go.Deep Go.Sort
def tkC (x : SysIn) (p : Nat) (f : Int) : Int := if belB f x.pn = true then (if x.wL (f.toNat * x.pn + p) = 0 then 3 else if (x.wH (f.toNat * x.pn + p) 0).m = true then 5 else 0) else 2
def tkV (x : SysIn) (p : Nat) (f : Int) : Value := if tkC x p f = 0 then evV 3 f (x.wH (f.toNat * x.pn + p) 0).v else evV 0 0 0
theorem takeOf_any (x : SysIn) (p : Nat) (f : Int) (w : World) (hG : SysG w x) (hL : x.Len) (hp : p < x.pn) (h4 : x.pn ≤ 4) (hw : x.wn = x.pn * x.pn) :
  Calls Tryz.prog 130 #[x.v, .int .i64 p, .int .i64 f] w fun e w' => e = .returned (.tuple #[tkV x p f, .int .i64 (tkC x p f)]) ∧ Below w.heap.size w w' := by
 have HG : Hid (SysG w x) := hG
 rcases Bool.eq_false_or_eq_true (belB f x.pn) with t1 | t1
 case inr =>
  have HN : Hid (tkC x p f = 2 ∧ tkV x p f = evV 0 0 0) := by
   have : tkC x p f = 2 := by simp [tkC, t1]
   exact ⟨this, by simp [tkV, this]⟩
  rw [HN.out.1, HN.out.2]
  go_enter Tryz.func130, Tryz.ntmps130
  go_wp2_with fail
  refine (isBelow_any _ _ _).mono ?_
  rintro e w1 ⟨rfl, rfl⟩
  rw [t1]
  go_wp2
  exact bodyPost_ret (v := .tuple #[evV 0 0 0, .int .i64 2]) (by simp [results, Tryz.results130, go_sem]) rfl ⟨rfl, by go_grown⟩
 obtain ⟨q, rfl, hq⟩ : ∃ q : Nat, f = (q : Int) ∧ q < x.pn := by
  simp only [belB, decide_eq_true_eq] at t1
  exact ⟨f.toNat, by omega, by omega⟩
 have hJ : q * x.pn + p < x.wn := by
  rw [hw]
  have : (q + 1) * x.pn ≤ x.pn * x.pn := Nat.mul_le_mul_right _ (by omega)
  rw [Nat.add_mul] at this
  omega
 have HI : Hid (ItL w (x.wA (q * x.pn + p)) (x.wL (q * x.pn + p)) (x.wH (q * x.pn + p)) ∧ x.wL (q * x.pn + p) ≤ 1048576) := ⟨hG.wi _ hJ, hL.w.2 _ hJ⟩
 have HWq : Hid (∀ wx, Below w.heap.size w wx → Calls Tryz.prog 136 #[x.v, .int .i64 q, .int .i64 p] wx fun e w' => e = .returned (.agg #[.slice (x.wA (q * x.pn + p)) (x.wL (q * x.pn + p)) (x.wC (q * x.pn + p)), .int .i64 12]) ∧ Below wx.heap.size wx w') := fun wx hb => wayQueue_any x q p wx (HG.out.below hb) (by omega) (by omega) h4 hJ
 have HT : Hid (tkC x p q = (if x.wL (q * x.pn + p) = 0 then 3 else if (x.wH (q * x.pn + p) 0).m = true then 5 else 0) ∧ tkV x p q = if tkC x p q = 0 then evV 3 q (x.wH (q * x.pn + p) 0).v else evV 0 0 0) := by
  refine ⟨?_, rfl⟩
  show tkC x p q = _
  unfold tkC
  rw [if_pos t1]
  rfl
 generalize tkV x p q = V at *
 generalize tkC x p q = C at *
 generalize q * x.pn + p = J at *
 have BW : Hid (Below w.heap.size w ((w.alloc (oQ4 x.pa x.pn x.pc x.sa x.sn x.sc x.wa x.wn x.wc x.ha x.hn x.hc)).alloc (zQ5))) := (below_alloc _ _).trans ((below_alloc _ _).mono (by simp))
 have RX : Hid (Ev3 ((w.alloc (oQ4 x.pa x.pn x.pc x.sa x.sn x.sc x.wa x.wn x.wc x.ha x.hn x.hc)).alloc (zQ5)) (w.heap.size + 1)) := ⟨⟨_, new_cell _ _ _ 0 (by simp)⟩, ⟨_, new_cell _ _ _ 1 (by simp)⟩, ⟨_, new_cell _ _ _ 2 (by simp)⟩, fun j => new_frozen _ _ _ _ (by simp)⟩
 clear hG hL hw hJ
 go_enter Tryz.func130, Tryz.ntmps130
 go_wp2_with fail
 refine (isBelow_any _ _ _).mono ?_
 rintro e w1 ⟨rfl, rfl⟩
 rw [t1]
 go_wp2_with fail
 generalize (w.alloc (oQ4 x.pa x.pn x.pc x.sa x.sn x.sc x.wa x.wn x.wc x.ha x.hn x.hc)).alloc (zQ5) = W2 at *
 refine (HWq.out W2 BW.out).mono ?_
 rintro e w3 ⟨rfl, b3⟩
 have B3 : Hid (Below w.heap.size w w3 ∧ Ev3 w3 (w.heap.size + 1)) := ⟨BW.out.trans (b3.mono BW.out.size), RX.out.below b3⟩
 clear b3
 go_wp2_with fail
 refine (first_any (x.wA J) (x.wL J) _ 12 (x.wH J) w3 HI.out.2 (HI.out.1.below B3.out.1)).mono ?_
 rintro e w4 ⟨rfl, b4⟩
 have B4 : Hid (Below w.heap.size w w4 ∧ Ev3 w4 (w.heap.size + 1)) := ⟨B3.out.1.trans (b4.mono B3.out.1.size), B3.out.2.below b4⟩
 clear b4 B3
 obtain ⟨⟨v0, r0⟩, ⟨v1, r1⟩, ⟨v2, r2⟩, rf⟩ := B4.out.2
 have hS : ∀ (a b c : Value), Below w.heap.size w (((w4.setCell ⟨w.heap.size + 1, 0, none⟩ a).setCell ⟨w.heap.size + 1, 1, none⟩ b).setCell ⟨w.heap.size + 1, 2, none⟩ c) := fun a b c => ((B4.out.1.setCell (Nat.le_succ _) _).setCell (Nat.le_succ _) _).setCell (Nat.le_succ _) _
 have HS : Hid (∀ (o : Obj) (a b c : Value), Below w.heap.size w ((((w4.setCell ⟨w.heap.size + 1, 0, none⟩ a).setCell ⟨w.heap.size + 1, 1, none⟩ b).setCell ⟨w.heap.size + 1, 2, none⟩ c).alloc o)) := fun o a b c => (hS a b c).trans ((below_alloc _ _).mono (hS a b c).size)
 have z4 : w.heap.size + 1 < w4.heap.size := World.block_lt_of_cell? w4 _ r0
 clear hS
 by_cases h0 : x.wL J = 0
 ·have HV : Hid (C = 3 ∧ V = evV 0 0 0) := by
   have h1 : C = 3 := by rw [HT.out.1, if_pos h0]
   exact ⟨h1, by rw [HT.out.2, if_neg (by rw [h1]; decide)]⟩
  rw [if_pos h0, show decide (x.wL J ≠ 0) = false from decide_eq_false (by omega)]
  clear h0
  go_wp2
  exact bodyPost_ret (v := .tuple #[evV 0 0 0, .int .i64 3]) (by simp [results, Tryz.results130, go_sem, r0, r1, r2, z4]) rfl ⟨by rw [HV.out.1, HV.out.2], HS.out _ _ _ _⟩
 rw [if_neg h0, show decide (x.wL J ≠ 0) = true from decide_eq_true h0]
 rcases Bool.eq_false_or_eq_true (x.wH J 0).m with hm | hm
 ·have HV : Hid (C = 5 ∧ V = evV 0 0 0) := by
   have h1 : C = 5 := by rw [HT.out.1, if_neg h0, if_pos hm]
   exact ⟨h1, by rw [HT.out.2, if_neg (by rw [h1]; decide)]⟩
  rw [hm]
  clear h0
  go_wp2
  exact bodyPost_ret (v := .tuple #[evV 0 0 0, .int .i64 5]) (by simp [results, Tryz.results130, go_sem, r0, r1, r2, z4]) rfl ⟨by rw [HV.out.1, HV.out.2], HS.out _ _ _ _⟩
 ·have HV : Hid (C = 0 ∧ V = evV 3 q (x.wH J 0).v) := by
   have h1 : C = 0 := by rw [HT.out.1, if_neg h0, if_neg (by rw [hm]; decide)]
   exact ⟨h1, by rw [HT.out.2, if_pos h1]⟩
  rw [hm]
  clear h0
  go_wp2
  exact bodyPost_ret (v := .tuple #[evV 3 q (x.wH J 0).v, .int .i64 0]) (by simp [results, Tryz.results130, go_sem, r0, r1, r2, z4]) rfl ⟨by rw [HV.out.1, HV.out.2], HS.out _ _ _ _⟩
def fuB (x : SysIn) (p : Nat) (k q : Int) : Bool := decide (200 ≤ x.hL p) || (k == 2 && decide (12 ≤ x.wL (p * x.pn + q.toNat)))
theorem isFullFor_any (x : SysIn) (p : Nat) (k q v : Int) (w : World) (hG : SysG w x) (hp : p < x.pn) (h4 : x.pn ≤ 4) (hh : x.hn = x.pn) (hw : x.wn = x.pn * x.pn) (hq : k = 2 → 0 ≤ q ∧ q < x.pn) :
  Calls Tryz.prog 132 #[x.v, .int .i64 p, evV k q v] w fun e w' => e = .returned (.bool (fuB x p k q)) ∧ Below w.heap.size w w' := by
 have HG : Hid (SysG w x) := hG
 have HEq : Hid (∀ wx, Below w.heap.size w wx → Calls Tryz.prog 134 #[x.v, .int .i64 p] wx fun e w' => e = .returned (.agg #[.slice (x.hA p) (x.hL p) (x.hC p), .int .i64 200]) ∧ Below wx.heap.size wx w') := fun wx hb => eventQueue_any x p wx (HG.out.below hb) (by omega)
 have NB : Hid (BoxC ((w.alloc (oQ4 x.pa x.pn x.pc x.sa x.sn x.sc x.wa x.wn x.wc x.ha x.hn x.hc)).alloc (oQ1 k q v)) w.heap.size (.slice x.pa x.pn x.pc) (.slice x.sa x.sn x.sc) (.slice x.wa x.wn x.wc) (.slice x.ha x.hn x.hc)) := (BoxC.new w _ _ _ _ _).below (below_alloc _ _)
 have NE : Hid (((w.alloc (oQ4 x.pa x.pn x.pc x.sa x.sn x.sc x.wa x.wn x.wc x.ha x.hn x.hc)).alloc (oQ1 k q v)).cell? ⟨w.heap.size + 1, 0, none⟩ = some (.int .i64 k) ∧ ((w.alloc (oQ4 x.pa x.pn x.pc x.sa x.sn x.sc x.wa x.wn x.wc x.ha x.hn x.hc)).alloc (oQ1 k q v)).cell? ⟨w.heap.size + 1, 1, none⟩ = some (.int .i64 q)) := ⟨new_cell _ _ _ 0 (by simp), new_cell _ _ _ 1 (by simp)⟩
 have BW : Hid (Below w.heap.size w ((w.alloc (oQ4 x.pa x.pn x.pc x.sa x.sn x.sc x.wa x.wn x.wc x.ha x.hn x.hc)).alloc (oQ1 k q v))) := (below_alloc _ _).trans ((below_alloc _ _).mono (by simp))
 have HW2 : Hid (x.wn = x.pn * x.pn) := hw
 clear hG hh hw
 go_enter Tryz.func132, Tryz.ntmps132
 go_wp2_with fail
 generalize (w.alloc (oQ4 x.pa x.pn x.pc x.sa x.sn x.sc x.wa x.wn x.wc x.ha x.hn x.hc)).alloc (oQ1 k q v) = W2 at *
 refine (HEq.out W2 BW.out).mono ?_
 rintro e w3 ⟨rfl, b3⟩
 have F3 : Hid (Below w.heap.size w w3 ∧ Below W2.heap.size W2 w3) := ⟨BW.out.trans (b3.mono BW.out.size), b3⟩
 clear b3
 go_wp2_with fail
 refine (isFullEvent_any _ _ _ _ w3).mono ?_
 rintro e w4 ⟨rfl, b4⟩
 have F4 : Hid (Below w.heap.size w w4 ∧ Below W2.heap.size W2 w4) := ⟨F3.out.1.trans (b4.mono F3.out.1.size), F3.out.2.trans (b4.mono F3.out.2.size)⟩
 clear b4 F3
 by_cases h200 : (200 : Int) ≤ (x.hL p : Int)
 ·have HN : Hid (fuB x p k q = true) := by
   show fuB x p k q = true
   simp [fuB, show 200 ≤ x.hL p by omega]
  rw [decide_eq_true h200]
  clear h200
  go_wp2
  go_ret
  rw [HN.out]
  exact ⟨rfl, F4.out.1⟩
 rw [decide_eq_false h200]
 have HN0 : Hid (fuB x p k q = (k == 2 && decide (12 ≤ x.wL (p * x.pn + q.toNat)))) := by
  show fuB x p k q = _
  simp [fuB, show ¬ 200 ≤ x.hL p by omega]
 have e0 := (F4.out.2.cell (p := ⟨w.heap.size + 1, 0, none⟩) (World.block_lt_of_cell? W2 _ NE.out.1)).trans NE.out.1
 have e1 := (F4.out.2.cell (p := ⟨w.heap.size + 1, 1, none⟩) (World.block_lt_of_cell? W2 _ NE.out.2)).trans NE.out.2
 clear h200
 rcases Bool.eq_false_or_eq_true (k == 2) with t2 | t2
 ·have hk2 : k = 2 := by simpa using t2
  obtain ⟨j, rfl, hj⟩ : ∃ j : Nat, q = (j : Int) ∧ j < x.pn := by
   have := hq hk2
   exact ⟨q.toNat, by omega, by omega⟩
  have hJ : p * x.pn + j < x.wn := by
   rw [HW2.out]
   have : (p + 1) * x.pn ≤ x.pn * x.pn := Nat.mul_le_mul_right _ (by omega)
   rw [Nat.add_mul] at this
   omega
  have HWq : Hid (∀ wx, Below w.heap.size w wx → Calls Tryz.prog 136 #[x.v, .int .i64 p, .int .i64 j] wx fun e w' => e = .returned (.agg #[.slice (x.wA (p * x.pn + j)) (x.wL (p * x.pn + j)) (x.wC (p * x.pn + j)), .int .i64 12]) ∧ Below wx.heap.size wx w') := fun wx hb => wayQueue_any x p j wx (HG.out.below hb) (by omega) (by omega) h4 hJ
  have HN : Hid (fuB x p k j = decide ((12 : Int) ≤ (x.wL (p * x.pn + j) : Int))) := by
   show fuB x p k j = _
   rw [HN0.out, t2, Bool.true_and]
   have : (j : Int).toNat = j := by omega
   rw [this]
   by_cases h : 12 ≤ x.wL (p * x.pn + j)
   ·rw [decide_eq_true h, decide_eq_true (by omega)]
   ·rw [decide_eq_false h, decide_eq_false (by omega)]
  rw [hk2] at e0
  generalize p * x.pn + j = J at *
  obtain ⟨k0, k1, k2, k3⟩ := NB.out.below F4.out.2
  clear hk2 t2 HN0 hq
  go_wp2_with fail
  refine (HWq.out w4 F4.out.1).mono ?_
  rintro e w5 ⟨rfl, b5⟩
  have F5 : Hid (Below w.heap.size w w5) := F4.out.1.trans (b5.mono F4.out.1.size)
  clear b5 k0 k1 k2 k3 e0 e1
  go_wp2_with fail
  refine (isFullItem_any _ _ _ _ w5).mono ?_
  rintro e w6 ⟨rfl, b6⟩
  have F6 : Hid (Below w.heap.size w w6) := F5.out.trans (b6.mono F5.out.size)
  clear b6
  go_wp2
  go_ret
  rw [HN.out]
  exact ⟨rfl, F6.out⟩
 ·have HN : Hid (fuB x p k q = false) := by
   show fuB x p k q = false
   rw [HN0.out, t2, Bool.false_and]
  clear HN0 hq
  go_wp2
  go_ret
  rw [HN.out]
  exact ⟨rfl, F4.out.1⟩
theorem Tryz.et : Tryz.prog.globalNamed "errors.errorType" = some 0 := by kernel_rfl
theorem Tryz.rt : (Tryz.prog.cutTypes.find? (·.1 == "internal/reflectlite.rtype")).map (·.2) = some 269 := by kernel_rfl
theorem Tryz.oneRow : ((List.range 315).filter fun t => Tryz.prog.rowNamed t [101, 114, 114, 111, 114]) = [184] := by kernel_rfl
theorem Tryz.tsize : Tryz.prog.types.size = 315 := by kernel_rfl
theorem handle_of_laid {W : World} (h : laidMetH Tryz.prog [("errors.errorType", Rows.laid_errors_errorType)] W) : W.cell? ⟨0, 0, none⟩ = some (.iface 269 (.agg #[.pointer (some ⟨1, 184, none⟩)])) := by
 have h' : laidMet Tryz.prog [] W ∧ handlesMet Tryz.prog [("errors.errorType", Rows.laid_errors_errorType)] W := h
 obtain ⟨name, u, ty, e1, e2, e3, e4, e5⟩ := h'.2 _ (List.mem_singleton.2 rfl)
 have en : name = [101, 114, 114, 111, 114] := (Option.some.inj e1).symm
 subst en
 obtain rfl := Option.some.inj (Tryz.rt.symm.trans e2)
 have hm : ty ∈ (List.range 315).filter fun t => Tryz.prog.rowNamed t [101, 114, 114, 111, 114] := List.mem_filter.2 ⟨List.mem_range.2 (by rw [← Tryz.tsize]; exact e3), e4⟩
 rw [Tryz.oneRow] at hm
 obtain rfl := List.mem_singleton.1 hm
 have hh : typeHandle Tryz.prog 184 = .pointer (some ⟨1, 184, none⟩) := by kernel_rfl
 rw [hh] at e5
 simpa using World.var?_cell Tryz.et e5 0
noncomputable def laidWorld (os : Os) : World :=
 let w0 := World.holding Tryz.prog os ⟨#[], #[], []⟩
 { w0 with heap := w0.heap.modify 0 fun
   | .cells _ t frozen => .cells #[.iface 269 (.agg #[.pointer (some ⟨1, 184, none⟩)])] t frozen
   | o => o }
theorem laidWorld_met (os : Os) (args : Array Value) : laidMetH Tryz.prog [("errors.errorType", Rows.laid_errors_errorType)] ((laidWorld os).forCall (fun _ _ => 0) ⟨#[], args, []⟩).memory :=
 laidMetH_of_parts (laidMet_nil _ _) (by kernel_rfl)
end Go.Proofs.YtbleeedbiipfnaaGreatDoor
