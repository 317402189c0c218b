/- The law of ShotDone, walked. -/
import Derived.Test.YtdfhpimdgfemjaaGreatDoorLa45
import Derived.Deep.RegionWith
namespace Go.Proofs.YtdfhpimdgfemjaaGreatDoor
open Go.ChangeShapes Go.WideShapes Go.ChangeAt Go.RowKit Go.Deep

set_option maxRecDepth 100000 in
set_option maxHeartbeats 4000000 in
theorem shotDoneLaw_small (x : LvIn) (W : World) (hs : x.size ≤ 1048576) (hA : x.Ok W) (hV : W.cell? ⟨0, 0, none⟩ = some (.iface 313 (.agg #[.pointer (some ⟨1, 255, none⟩)]))) :
    Calls Tryz.prog 8 #[x.v] W fun e w' => e = .returned (.bool true) ∧ Below W.heap.size W w' := by
  have HS : Hid (x.size ≤ 1048576) := hs
  have HA : Hid (x.Ok W) := hA
  have HV : Hid (W.cell? ⟨0, 0, none⟩ = some (.iface 313 (.agg #[.pointer (some ⟨1, 255, none⟩)]))) := hV
  have HV0 : Hid (0 < W.heap.size) := World.block_lt_of_cell? W _ hV
  have hsz : ¬ (1048576 - (x.size : Int) < 0) := by omega
  have X0 : Hid (LvX W (W.alloc (.cells #[.slice x.s.pa x.s.pn x.s.pc, .slice x.s.sa x.s.sn x.s.sc, .slice x.s.wa x.s.wn x.s.wc, .slice x.s.ha x.s.hn x.s.hc, .bool x.h.on, .slice x.h.ca x.h.cn x.h.cc, .slice x.h.oa x.h.ol x.h.oc, .slice x.h.ka x.h.kn x.h.kc] 51)) x) := LvX.new _ _ _
  clear hs hA hV
  generalize hT : pB (ShD x.s.y x.h.z) = T
  have HT : Hid (pB (ShD x.s.y x.h.z) = T) := hT
  have hTT : (T != T) = false := by simp
  clear hT
  go_enter Tryz.func8, Tryz.ntmps8
  go_wp2_with fail
  generalize W.alloc (.cells #[.slice x.s.pa x.s.pn x.s.pc, .slice x.s.sa x.s.sn x.s.sc, .slice x.s.wa x.s.wn x.s.wc, .slice x.s.ha x.s.hn x.s.hc, .bool x.h.on, .slice x.h.ca x.h.cn x.h.cc, .slice x.h.oa x.h.ol x.h.oc, .slice x.h.ka x.h.kn x.h.kc] 51) = wA at *
  refine (szLive_small x wA (HA.out.row.below X0.out.1) HS.out).mono ?_
  rintro e w0 ⟨rfl, b0⟩
  have X1 : Hid (LvX W w0 x) := X0.out.below b0
  clear b0 X0
  obtain ⟨-, p0, p1, p2, p3, p4, p5, p6, p7⟩ := X1.out
  go_wp2_with fail
  clear p0 p1 p2 p3 p4 p5 p6 p7
  refine (toLive_any x W w0 HS.out HA.out X1.out.1).mono ?_
  rintro e w1 ⟨v1, rfl, o1, b1⟩
  obtain ⟨x1, rfl, g1, y1, z1, cp1⟩ := o1.g
  have O1 : Hid (LvG w1 x1 ∧ x1.s.y = x.s.y ∧ x1.h.z = x.h.z ∧ ∀ i, i < x1.s.hn → x1.s.hL i ≤ x1.s.hC i) := ⟨g1, y1, z1, cp1⟩
  have X2 : Hid (LvX W w1 x) := X1.out.below b1
  clear b1 X1 o1 g1 y1 z1 cp1
  go_wp2_with fail
  refine (specShotDone_any x1 w1 O1.out.1 (LvIn.len_of HS.out O1.out.2.1 O1.out.2.2.1) O1.out.2.2.2).mono ?_
  rintro e w2 ⟨rfl, b2⟩
  have X3 : Hid (LvX W w2 x) := X2.out.below b2
  rw [O1.out.2.1, O1.out.2.2.1, HT.out]
  clear b2 X2 O1
  obtain ⟨-, p0, p1, p2, p3, p4, p5, p6, p7⟩ := X3.out
  go_wp2_with fail
  clear p0 p1 p2 p3 p4 p5 p6 p7
  refine (toLive_any x W w2 HS.out HA.out X3.out.1).mono ?_
  rintro e w3 ⟨v3, rfl, o3, b3⟩
  obtain ⟨x3, rfl, g3, y3, z3, cp3⟩ := o3.g
  have ba : Below w3.heap.size w3 (w3.alloc (.cells #[.slice x3.s.pa x3.s.pn x3.s.pc, .slice x3.s.sa x3.s.sn x3.s.sc, .slice x3.s.wa x3.s.wn x3.s.wc, .slice x3.s.ha x3.s.hn x3.s.hc, .bool x3.h.on, .slice x3.h.ca x3.h.cn x3.h.cc, .slice x3.h.oa x3.h.ol x3.h.oc, .slice x3.h.ka x3.h.kn x3.h.kc] 41)) := below_allocS _ _
  have X4 : Hid (LvX W w3 x) := X3.out.below b3
  have Xa : Hid (LvX W (w3.alloc (.cells #[.slice x3.s.pa x3.s.pn x3.s.pc, .slice x3.s.sa x3.s.sn x3.s.sc, .slice x3.s.wa x3.s.wn x3.s.wc, .slice x3.s.ha x3.s.hn x3.s.hc, .bool x3.h.on, .slice x3.h.ca x3.h.cn x3.h.cc, .slice x3.h.oa x3.h.ol x3.h.oc, .slice x3.h.ka x3.h.kn x3.h.kc] 41)) x) := X4.out.below ba
  have Sa : Hid (IsLive (w3.alloc (.cells #[.slice x3.s.pa x3.s.pn x3.s.pc, .slice x3.s.sa x3.s.sn x3.s.sc, .slice x3.s.wa x3.s.wn x3.s.wc, .slice x3.s.ha x3.s.hn x3.s.hc, .bool x3.h.on, .slice x3.h.ca x3.h.cn x3.h.cc, .slice x3.h.oa x3.h.ol x3.h.oc, .slice x3.h.ka x3.h.kn x3.h.kc] 41)) w2.heap.size w3.heap.size x x3.v) := o3.below ba (Nat.le_refl _)
  have Ga : Hid (LvG (w3.alloc (.cells #[.slice x3.s.pa x3.s.pn x3.s.pc, .slice x3.s.sa x3.s.sn x3.s.sc, .slice x3.s.wa x3.s.wn x3.s.wc, .slice x3.s.ha x3.s.hn x3.s.hc, .bool x3.h.on, .slice x3.h.ca x3.h.cn x3.h.cc, .slice x3.h.oa x3.h.ol x3.h.oc, .slice x3.h.ka x3.h.kn x3.h.kc] 41)) x3 ∧ x3.s.y = x.s.y ∧ x3.h.z = x.h.z) := ⟨g3.below ba, y3, z3⟩
  have Qa : Hid (LvX w3 (w3.alloc (.cells #[.slice x3.s.pa x3.s.pn x3.s.pc, .slice x3.s.sa x3.s.sn x3.s.sc, .slice x3.s.wa x3.s.wn x3.s.wc, .slice x3.s.ha x3.s.hn x3.s.hc, .bool x3.h.on, .slice x3.h.ca x3.h.cn x3.h.cc, .slice x3.h.oa x3.h.ol x3.h.oc, .slice x3.h.ka x3.h.kn x3.h.kc] 41)) x3) := LvX.new _ _ _
  clear b3 X3 o3 X4 ba g3 y3 z3 cp3
  go_wp2_with fail
  generalize w3.alloc (.cells #[.slice x3.s.pa x3.s.pn x3.s.pc, .slice x3.s.sa x3.s.sn x3.s.sc, .slice x3.s.wa x3.s.wn x3.s.wc, .slice x3.s.ha x3.s.hn x3.s.hc, .bool x3.h.on, .slice x3.h.ca x3.h.cn x3.h.cc, .slice x3.h.oa x3.h.ol x3.h.oc, .slice x3.h.ka x3.h.kn x3.h.kc] 41) = wB at *
  refine (implShotDone_any x3 wB Ga.out.1 (LvIn.len_of HS.out Ga.out.2.1 Ga.out.2.2) ((Xa.out.1.cell (p := ⟨0, 0, none⟩) HV0.out).trans HV.out)).mono ?_
  rintro e w5 ⟨rfl, b5⟩
  rw [Ga.out.2.1, Ga.out.2.2, HT.out]
  have S5 : Hid (IsLive w5 w2.heap.size w3.heap.size x x3.v) := Sa.out.below b5 (Nat.le_of_lt Qa.out.2.lt)
  have X6 : Hid (LvX W w5 x) := Xa.out.below b5
  have Q5 : Hid (LvX w3 w5 x3) := Qa.out.below b5
  clear b5 Xa Sa Qa Ga HT
  obtain ⟨-, p0, p1, p2, p3, p4, p5, p6, p7⟩ := X6.out
  obtain ⟨-, q0, q1, q2, q3, q4, q5, q6, q7⟩ := Q5.out
  go_wp2_with fail
  first | (go_region_with (first | (go_at_call 20; refine (toLive_any x W _ HS.out HA.out (by exact X6.out.1.drew)).mono ?_; rintro e w6 ⟨v6, rfl, o6, b6⟩; have q6b : Below w5.heap.size w5 w6 := (Below.refl w5.heap.size w5).drew.trans b6; have T6 : Hid (∃ l, IsLive w6 l w6.heap.size x v6) := ⟨_, o6⟩; obtain ⟨-, r0, r1, r2, r3, r4, r5, r6, r7⟩ := Q5.out.below q6b; have Q6 : Hid (Below w5.heap.size w5 w6) := q6b; clear o6 b6 q6b) | (go_at_call 13; refine (eqLive_same x w2.heap.size w3.heap.size T6.out.choose _ _ v6 w6 HS.out (S5.out.below Q6.out S5.out.hi.2) T6.out.choose_spec).mono ?_; rintro e w7 ⟨rfl, b7⟩; have Q7 : Hid (Below w5.heap.size w5 w7) := Q6.out.trans (b7.mono Q6.out.size); clear b7))) | fail
  all_goals
    clear r0 r1 r2 r3 r4 r5 r6 r7 p0 p1 p2 p3 p4 p5 p6 p7 q0 q1 q2 q3 q4 q5 q6 q7 T6 Q6
    have X8 : Hid (LvX W w7 x) := X6.out.below Q7.out
    clear Q7 X6 S5 Q5
    go_wp2
    go_ret
    exact ⟨rfl, X8.out.1⟩

set_option maxRecDepth 100000 in
set_option maxHeartbeats 1000000 in
theorem shotDoneLaw_great (x : LvIn) (W : World) (hr : x.Row W) (hm : x.Max) (hs : 1048576 < x.size) :
    Calls Tryz.prog 8 #[x.v] W fun e w' => e = .returned (.bool true) ∧ Below W.heap.size W w' := by
  have HR : Hid (x.Row W) := hr
  have HM : Hid x.Max := hm
  have HS : Hid (1048576 < x.size) := hs
  clear hr hm hs
  go_enter Tryz.func8, Tryz.ntmps8
  go_wp2_with fail
  refine (szLive_great x _ (HR.out.below (below_allocS _ _)) HM.out HS.out).mono ?_
  rintro e w0 ⟨rfl, b0⟩
  have B0 : Hid (Below W.heap.size W w0) := (below_allocS _ _).trans (b0.mono (by simp))
  clear b0
  go_wp2
  go_ret
  exact ⟨rfl, B0.out⟩

end Go.Proofs.YtdfhpimdgfemjaaGreatDoor
