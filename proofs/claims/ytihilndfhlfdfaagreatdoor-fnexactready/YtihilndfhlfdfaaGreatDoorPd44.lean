/- The walk of the program's takeOf. -/
import Derived.Test.YtihilndfhlfdfaaGreatDoorPd39
import Derived.Deep.RegionWith
namespace Go.Proofs.YtihilndfhlfdfaaGreatDoor
open Go.ChangeShapes Go.WideShapes Go.ChangeAt Go.RowKit Go.Deep Go.Sort
def tkC (x : SysIn) (p : Nat) (f : Int) : Int := if belB f x.pn = true then (if x.wL (f.toNat * x.pn + p) = 0 then 3 else if (x.wH (f.toNat * x.pn + p) 0).m = true then 5 else 0) else 2
def tkV (x : SysIn) (p : Nat) (f : Int) : Value := if tkC x p f = 0 then evV 3 f (x.wH (f.toNat * x.pn + p) 0).v else evV 0 0 0
set_option maxRecDepth 100000 in
set_option maxHeartbeats 1000000 in
theorem takeOf_any (x : SysIn) (p : Nat) (f : Int) (w : World) (hG : SysG w x) (hL : x.Len) (hp : p < x.pn) (h4 : x.pn ≤ 4) (hw : x.wn = x.pn * x.pn) :
   Calls Tryz.prog 94 #[x.v, .int .i64 p, .int .i64 f] w fun e w' => e = .returned (.tuple #[tkV x p f, .int .i64 (tkC x p f)]) ∧ Below w.heap.size w w' := by
 have HG : Hid (SysG w x) := hG
 rcases Bool.eq_false_or_eq_true (belB f x.pn) with t1 | t1
 case inr =>
   have HN : Hid (tkC x p f = 2 ∧ tkV x p f = evV 0 0 0) := by
     have : tkC x p f = 2 := by simp [tkC, t1]
     exact ⟨this, by simp [tkV, this]⟩
   rw [HN.out.1, HN.out.2]
   go_enter Tryz.func94, Tryz.ntmps94
   go_wp2_with fail
   refine (isBelow_any _ _ _).mono ?_
   rintro e w1 ⟨rfl, rfl⟩
   rw [t1]
   go_wp2
   exact bodyPost_ret (v := .tuple #[evV 0 0 0, .int .i64 2]) (by simp [results, Tryz.results94, go_sem]) rfl ⟨rfl, by go_grown⟩
 obtain ⟨q, rfl, hq⟩ : ∃ q : Nat, f = (q : Int) ∧ q < x.pn := by
   simp only [belB, decide_eq_true_eq] at t1
   exact ⟨f.toNat, by omega, by omega⟩
 have hJ : q * x.pn + p < x.wn := by
   rw [hw]
   have : (q + 1) * x.pn ≤ x.pn * x.pn := Nat.mul_le_mul_right _ (by omega)
   rw [Nat.add_mul] at this
   omega
 have HI : Hid (ItL w (x.wA (q * x.pn + p)) (x.wL (q * x.pn + p)) (x.wH (q * x.pn + p)) ∧ x.wL (q * x.pn + p) ≤ 1048576) := ⟨hG.wi _ hJ, hL.w.2 _ hJ⟩
 have HWq : Hid (∀ wx, Below w.heap.size w wx → Calls Tryz.prog 100 #[x.v, .int .i64 q, .int .i64 p] wx fun e w' => e = .returned (.agg #[.slice (x.wA (q * x.pn + p)) (x.wL (q * x.pn + p)) (x.wC (q * x.pn + p)), .int .i64 12]) ∧ Below wx.heap.size wx w') := fun wx hb => wayQueue_any x q p wx (HG.out.below hb) (by omega) (by omega) h4 hJ
 have HT : Hid (tkC x p q = (if x.wL (q * x.pn + p) = 0 then 3 else if (x.wH (q * x.pn + p) 0).m = true then 5 else 0) ∧ tkV x p q = if tkC x p q = 0 then evV 3 q (x.wH (q * x.pn + p) 0).v else evV 0 0 0) := by
   refine ⟨?_, rfl⟩
   show tkC x p q = _
   unfold tkC
   rw [if_pos t1]
   rfl
 generalize tkV x p q = V at *
 generalize tkC x p q = C at *
 generalize q * x.pn + p = J at *
 have BW : Hid (Below w.heap.size w ((w.alloc (.cells #[.slice x.pa x.pn x.pc, .slice x.sa x.sn x.sc, .slice x.wa x.wn x.wc, .slice x.ha x.hn x.hc] 35)).alloc (.cells #[.int .i64 0, .int .i64 0, .int .i64 0] 69))) := (below_alloc _ _).trans ((below_alloc _ _).mono (by simp))
 have RX : Hid (Ev3 ((w.alloc (.cells #[.slice x.pa x.pn x.pc, .slice x.sa x.sn x.sc, .slice x.wa x.wn x.wc, .slice x.ha x.hn x.hc] 35)).alloc (.cells #[.int .i64 0, .int .i64 0, .int .i64 0] 69)) (w.heap.size + 1)) := ⟨⟨_, new_cell _ _ _ 0 (by simp)⟩, ⟨_, new_cell _ _ _ 1 (by simp)⟩, ⟨_, new_cell _ _ _ 2 (by simp)⟩, fun j => new_frozen _ _ _ _ (by simp)⟩
 clear hG hL hw hJ
 go_enter Tryz.func94, Tryz.ntmps94
 go_wp2_with fail
 refine (isBelow_any _ _ _).mono ?_
 rintro e w1 ⟨rfl, rfl⟩
 rw [t1]
 go_wp2_with fail
 generalize (w.alloc (.cells #[.slice x.pa x.pn x.pc, .slice x.sa x.sn x.sc, .slice x.wa x.wn x.wc, .slice x.ha x.hn x.hc] 35)).alloc (.cells #[.int .i64 0, .int .i64 0, .int .i64 0] 69) = W2 at *
 refine (HWq.out W2 BW.out).mono ?_
 rintro e w3 ⟨rfl, b3⟩
 have B3 : Hid (Below w.heap.size w w3 ∧ Ev3 w3 (w.heap.size + 1)) := ⟨BW.out.trans (b3.mono BW.out.size), RX.out.below b3⟩
 clear b3
 go_wp2_with fail
 refine (first_any (x.wA J) (x.wL J) _ 12 (x.wH J) w3 HI.out.2 (HI.out.1.below B3.out.1)).mono ?_
 rintro e w4 ⟨rfl, b4⟩
 have B4 : Hid (Below w.heap.size w w4 ∧ Ev3 w4 (w.heap.size + 1)) := ⟨B3.out.1.trans (b4.mono B3.out.1.size), B3.out.2.below b4⟩
 clear b4 B3
 obtain ⟨⟨v0, r0⟩, ⟨v1, r1⟩, ⟨v2, r2⟩, rf⟩ := B4.out.2
 have hS : ∀ (a b c : Value), Below w.heap.size w (((w4.setCell ⟨w.heap.size + 1, 0, none⟩ a).setCell ⟨w.heap.size + 1, 1, none⟩ b).setCell ⟨w.heap.size + 1, 2, none⟩ c) := fun a b c => ((B4.out.1.setCell (Nat.le_succ _) _).setCell (Nat.le_succ _) _).setCell (Nat.le_succ _) _
 have HS : Hid (∀ (o : Obj) (a b c : Value), Below w.heap.size w ((((w4.setCell ⟨w.heap.size + 1, 0, none⟩ a).setCell ⟨w.heap.size + 1, 1, none⟩ b).setCell ⟨w.heap.size + 1, 2, none⟩ c).alloc o)) := fun o a b c => (hS a b c).trans ((below_alloc _ _).mono (hS a b c).size)
 have z4 : w.heap.size + 1 < w4.heap.size := World.block_lt_of_cell? w4 _ r0
 clear hS
 by_cases h0 : x.wL J = 0
 · have HV : Hid (C = 3 ∧ V = evV 0 0 0) := by
     have h1 : C = 3 := by rw [HT.out.1, if_pos h0]
     exact ⟨h1, by rw [HT.out.2, if_neg (by rw [h1]; decide)]⟩
   rw [if_pos h0, show decide (x.wL J ≠ 0) = false from decide_eq_false (by omega)]
   clear h0
   go_wp2
   exact bodyPost_ret (v := .tuple #[evV 0 0 0, .int .i64 3]) (by simp [results, Tryz.results94, go_sem, r0, r1, r2, z4]) rfl ⟨by rw [HV.out.1, HV.out.2], HS.out _ _ _ _⟩
 rw [if_neg h0, show decide (x.wL J ≠ 0) = true from decide_eq_true h0]
 rcases Bool.eq_false_or_eq_true (x.wH J 0).m with hm | hm
 · have HV : Hid (C = 5 ∧ V = evV 0 0 0) := by
     have h1 : C = 5 := by rw [HT.out.1, if_neg h0, if_pos hm]
     exact ⟨h1, by rw [HT.out.2, if_neg (by rw [h1]; decide)]⟩
   rw [hm]
   clear h0
   go_wp2
   exact bodyPost_ret (v := .tuple #[evV 0 0 0, .int .i64 5]) (by simp [results, Tryz.results94, go_sem, r0, r1, r2, z4]) rfl ⟨by rw [HV.out.1, HV.out.2], HS.out _ _ _ _⟩
 · have HV : Hid (C = 0 ∧ V = evV 3 q (x.wH J 0).v) := by
     have h1 : C = 0 := by rw [HT.out.1, if_neg h0, if_neg (by rw [hm]; decide)]
     exact ⟨h1, by rw [HT.out.2, if_pos h1]⟩
   rw [hm]
   clear h0
   go_wp2
   exact bodyPost_ret (v := .tuple #[evV 3 q (x.wH J 0).v, .int .i64 0]) (by simp [results, Tryz.results94, go_sem, r0, r1, r2, z4]) rfl ⟨by rw [HV.out.1, HV.out.2], HS.out _ _ _ _⟩
end Go.Proofs.YtihilndfhlfdfaaGreatDoor
