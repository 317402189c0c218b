/- The one listed variable: what the condition gives a walk, and a world that meets it. -/
import Derived.Test.YtjbocfjeobkclaaGreatDoorCc0
import Derived.Test.YtjbocfjeobkclaaGreatDoorCc39
import Derived.Test.YtjbocfjeobkclaaGreatDoorCc37
import Derived.ChangeShapes
import Derived.Test.YtjbocfjeobkclaaGreatDoorRows
import Derived.Test.YtjbocfjeobkclaaGreatDoorTie
import Derived.ChangeSame
import Derived.ChangeVars
import Derived.JoinedOf
import Derived.RowKit
import Derived.RowKitTokens
import Derived.LaidLaws
import Derived.LaidHandle
import Derived.Stop.Joined
namespace Go.Proofs.YtjbocfjeobkclaaGreatDoor
set_option maxRecDepth 100000
set_option maxHeartbeats 4000000
open Go.ChangeShapes Go.WideShapes Go.ChangeAt Go.RowKit Go.Deep Go.Sort Go.Maps
theorem implHangs_any (x : SysIn) (p i q j : Int) (w : World) (hG : SysG w x) (hL : x.Len) (hcap : ∀ i, i < x.hn → x.hL i ≤ x.hC i) (hV : w.cell? ⟨0, 0, none⟩ = some (.iface 204 (.agg #[.pointer (some ⟨1, 155, none⟩)]))) :
  Calls Tryz.prog 16 #[x.v, .int .i64 p, .int .i64 i, .int .i64 q, .int .i64 j] w fun e w' => e = .returned (.bool (hgB x.y p i q j)) ∧ Below w.heap.size w w' := by
 have HV0 : 0 < w.heap.size := World.block_lt_of_cell? w _ hV
 have HX : Hid (HgX w x p i q j (((w.alloc (oQ2 x.pa x.pn x.pc x.sa x.sn x.sc x.wa x.wn x.wc x.ha x.hn x.hc)).alloc (oQ5 p i)).alloc (oQ5 q j))) := HgX.new w x p i q j
 have HA : Hid (∀ wx b, Below w.heap.size w wx → b < wx.heap.size → SpAt wx b 2 (fun k => if k = 0 then (p, i) else (q, j)) → Calls Tryz.prog 29 #[x.v, .slice (some ⟨b, 0, none⟩) 2 2] wx fun e w' => e = .returned (.bool (bothB x.y p i q j)) ∧ Below wx.heap.size wx w') := fun wx b hb hbl hs => by
  have h := areIn_any x b 2 2 (fun k => if k = 0 then (p, i) else (q, j)) wx (hG.below hb) hL ((hb.cell (p := ⟨0, 0, none⟩) HV0).trans hV) hbl (by omega) hs
  rw [arB_two] at h
  exact h
 have HCk : Hid (bothB x.y p i q j = true → ∀ wx, Below w.heap.size w wx → Calls Tryz.prog 30 #[x.v] wx fun e w' => ∃ b, e = .returned (.map (some b)) ∧ Below wx.heap.size wx w' ∧ ∀ wy, Below w'.heap.size w' wy → Calls Tryz.prog 40 #[.map (some b), sptV p i, sptV q j] wy (fun e w' => e = .returned (.bool (hgN x.y p.toNat i.toNat q.toNat j.toNat)) ∧ Below wy.heap.size wy w') ∧ Calls Tryz.prog 40 #[.map (some b), sptV q j, sptV p i] wy (fun e w' => e = .returned (.bool (hgN x.y q.toNat j.toNat p.toNat i.toNat)) ∧ Below wy.heap.size wy w')) := fun h wx hb => by
  simp only [bothB, Bool.and_eq_true] at h
  obtain ⟨hO, a, c, rfl, rfl, ha, hc⟩ := hasB_parts h.1
  obtain ⟨-, a', c', rfl, rfl, ha', hc'⟩ := hasB_parts h.2
  refine (clocksIn_any x wx (hG.below hb) hcap hO).mono ?_
  rintro e w' ⟨b, D, d, rfl, hb0, hd, hC, hbw⟩
  have hbl : b < w'.heap.size := hC.own.lt
  have h4 := hO.cn.1.2
  refine ⟨b, rfl, hbw, fun wy hy => ?_⟩
  have hC' : Ckm wy b x.y d D := hC.blk (hy.block b hbl)
  have hbl' : b < wy.heap.size := Nat.lt_of_lt_of_le hbl hy.size
  have h5 := hO.hl200 ha
  have h6 := hO.hl200 ha'
  exact ⟨hang_any b x.y d D a c a' c' wy hC' hbl' h4 ha (by rw [hd a ha]; exact hc) (by omega) ha', hang_any b x.y d D a' c' a c wy hC' hbl' h4 ha' (by rw [hd a' ha']; exact hc') (by omega) ha⟩
 have HR : Hid (hgB x.y p i q j = (bothB x.y p i q j && hgN x.y p.toNat i.toNat q.toNat j.toNat)) := rfl
 generalize hgB x.y p i q j = R at *
 generalize bothB x.y p i q j = T at *
 generalize hgN x.y p.toNat i.toNat q.toNat j.toNat = V at *
 clear hG hL hcap hV HV0
 go_enter Tryz.func16, Tryz.ntmps16
 go_upto_region 2 with fail
 generalize ((w.alloc (oQ2 x.pa x.pn x.pc x.sa x.sn x.sc x.wa x.wn x.wc x.ha x.hn x.hc)).alloc (oQ5 p i)).alloc (oQ5 q j) = W2 at *
 have q0 : Below W2.heap.size W2 W2.drew := (Below.refl W2.heap.size W2).drew
 have hS : ∀ wx, Below W2.heap.size W2 wx → (fun w' : World => BoxC w' w.heap.size (.slice x.pa x.pn x.pc) (.slice x.sa x.sn x.sc) (.slice x.wa x.wn x.wc) (.slice x.ha x.hn x.hc) ∧ BoxS w' (w.heap.size + 1) (.int .i64 p) (.int .i64 i) ∧ BoxS w' (w.heap.size + 1 + 1) (.int .i64 q) (.int .i64 j)) wx := fun wx hb => ⟨(HX.out.below hb).bs, (HX.out.below hb).s1, (HX.out.below hb).s2⟩
 have hBW : ∀ wx, Below W2.heap.size W2 wx → Below w.heap.size w wx := fun wx hb => (HX.out.below hb).be
 refine wp_region_G (fun w' : World => BoxC w' w.heap.size (.slice x.pa x.pn x.pc) (.slice x.sa x.sn x.sc) (.slice x.wa x.wn x.wc) (.slice x.ha x.hn x.hc) ∧ BoxS w' (w.heap.size + 1) (.int .i64 p) (.int .i64 i) ∧ BoxS w' (w.heap.size + 1 + 1) (.int .i64 q) (.int .i64 j)) (fun _ => false) (by kernel_rfl) ?_
 have hHeld : (fun w' : World => BoxC w' w.heap.size (.slice x.pa x.pn x.pc) (.slice x.sa x.sn x.sc) (.slice x.wa x.wn x.wc) (.slice x.ha x.hn x.hc) ∧ BoxS w' (w.heap.size + 1) (.int .i64 p) (.int .i64 i) ∧ BoxS w' (w.heap.size + 1 + 1) (.int .i64 q) (.int .i64 j)) W2.drew := hS _ q0
 refine wpG_take 0 rfl hHeld ?_
 apply Exists.intro
 refine ⟨fun wq hSw => ?_, ?_⟩
 ·obtain ⟨⟨h0, h1, h2, h3⟩, ⟨g0, g1⟩, k0, k1⟩ := hSw
  go_simp
  try with_reducible rfl
 (try simp only [Act.put, List.setIfInBounds_toArray, List.set_cons_zero, List.set_cons_succ])
 refine wpG_take 1 rfl hHeld ?_
 apply Exists.intro
 refine ⟨fun wq hSw => ?_, ?_⟩
 ·obtain ⟨⟨h0, h1, h2, h3⟩, ⟨g0, g1⟩, k0, k1⟩ := hSw
  go_simp
  try with_reducible rfl
 (try simp only [Act.put, List.setIfInBounds_toArray, List.set_cons_zero, List.set_cons_succ])
 refine wpG_take 2 rfl hHeld ?_
 apply Exists.intro
 refine ⟨fun wq hSw => ?_, ?_⟩
 ·obtain ⟨⟨h0, h1, h2, h3⟩, ⟨g0, g1⟩, k0, k1⟩ := hSw
  go_simp
  try with_reducible rfl
 (try simp only [Act.put, List.setIfInBounds_toArray, List.set_cons_zero, List.set_cons_succ])
 refine wpG_one 3 rfl (by kernel_rfl) (fun K hK => ?_)
 go_simp
 have q3 : Below W2.heap.size W2 (W2.drew.alloc (.cells #[.int .i64 p, .int .i64 i, .int .i64 q, .int .i64 j] 58)) := q0.trans ((below_alloc _ _).mono q0.size)
 refine hK.out _ _ (fun _ => hS _ q3) ?_
 clear hK K hHeld
 (try simp only [Act.put, List.setIfInBounds_toArray, List.set_cons_zero, List.set_cons_succ])
 have SP : SpAt (W2.drew.alloc (.cells #[.int .i64 p, .int .i64 i, .int .i64 q, .int .i64 j] 58)) W2.drew.heap.size 2 (fun k => if k = 0 then (p, i) else (q, j)) := SpAt.two _ _ _ _ _ _
 refine wpG_one 4 rfl (by kernel_rfl) (fun K hK => ?_)
 refine stepR_callD rfl 29 _ _ rfl #[x.v, .slice (some ⟨W2.drew.heap.size, 0, none⟩) 2 2] (by simp [Act.eval, SysIn.v, sysV]) (run_enter Tryz.func29 (by kernel_rfl) rfl) (HA.out _ _ (hBW _ q3) (by simp) SP) ?_
 rintro e w4 ⟨rfl, b4⟩
 refine ⟨_, rfl, ?_⟩
 have q4 : Below W2.heap.size W2 w4 := q3.trans (b4.mono q3.size)
 refine hK.out _ _ (fun _ => hS _ q4) ?_
 have hHeld : (fun w' : World => BoxC w' w.heap.size (.slice x.pa x.pn x.pc) (.slice x.sa x.sn x.sc) (.slice x.wa x.wn x.wc) (.slice x.ha x.hn x.hc) ∧ BoxS w' (w.heap.size + 1) (.int .i64 p) (.int .i64 i) ∧ BoxS w' (w.heap.size + 1 + 1) (.int .i64 q) (.int .i64 j)) w4 := hS _ q4
 clear hK K b4 SP HA
 (try simp only [Act.put, List.setIfInBounds_toArray, List.set_cons_zero, List.set_cons_succ])
 refine wpG_take 5 rfl hHeld ?_
 apply Exists.intro
 refine ⟨fun wq hSw => ?_, ?_⟩
 ·obtain ⟨⟨h0, h1, h2, h3⟩, ⟨g0, g1⟩, k0, k1⟩ := hSw
  go_simp
  try with_reducible rfl
 (try simp only [Act.put, List.setIfInBounds_toArray, List.set_cons_zero, List.set_cons_succ])
 cases T with
 | false =>
  refine wpG_skip 6 rfl ?_
  (try simp only [Act.put, List.setIfInBounds_toArray, List.set_cons_zero, List.set_cons_succ])
  refine wpG_skip 7 rfl ?_
  (try simp only [Act.put, List.setIfInBounds_toArray, List.set_cons_zero, List.set_cons_succ])
  refine wpG_skip 8 rfl ?_
  (try simp only [Act.put, List.setIfInBounds_toArray, List.set_cons_zero, List.set_cons_succ])
  refine wpG_skip 9 rfl ?_
  (try simp only [Act.put, List.setIfInBounds_toArray, List.set_cons_zero, List.set_cons_succ])
  refine wpG_skip 10 rfl ?_
  (try simp only [Act.put, List.setIfInBounds_toArray, List.set_cons_zero, List.set_cons_succ])
  refine wpG_take 11 rfl hHeld ?_
  apply Exists.intro
  refine ⟨fun wq hSw => ?_, ?_⟩
  ·obtain ⟨⟨h0, h1, h2, h3⟩, ⟨g0, g1⟩, k0, k1⟩ := hSw
   go_simp
   try with_reducible rfl
  (try simp only [Act.put, List.setIfInBounds_toArray, List.set_cons_zero, List.set_cons_succ])
  refine wpG_take 12 rfl hHeld ?_
  apply Exists.intro
  refine ⟨fun wq hSw => ?_, ?_⟩
  ·obtain ⟨⟨h0, h1, h2, h3⟩, ⟨g0, g1⟩, k0, k1⟩ := hSw
   go_simp
   try with_reducible rfl
  (try simp only [Act.put, List.setIfInBounds_toArray, List.set_cons_zero, List.set_cons_succ])
  refine wpG_done (by kernel_rfl) ?_ _
  have B4 : Hid (Below w.heap.size w w4) := hBW _ q4
  clear hHeld q0 q3 q4 hS hBW HX HCk
  go_wp2
  go_ret
  exact ⟨by rw [HR.out]; rfl, B4.out⟩
 | true =>
  refine wpG_take 6 rfl hHeld ?_
  apply Exists.intro
  refine ⟨fun wq hSw => ?_, ?_⟩
  ·obtain ⟨⟨h0, h1, h2, h3⟩, ⟨g0, g1⟩, k0, k1⟩ := hSw
   go_simp
   try with_reducible rfl
  (try simp only [Act.put, List.setIfInBounds_toArray, List.set_cons_zero, List.set_cons_succ])
  refine wpG_take 8 rfl hHeld ?_
  apply Exists.intro
  refine ⟨fun wq hSw => ?_, ?_⟩
  ·obtain ⟨⟨h0, h1, h2, h3⟩, ⟨g0, g1⟩, k0, k1⟩ := hSw
   go_simp
   try with_reducible rfl
  (try simp only [Act.put, List.setIfInBounds_toArray, List.set_cons_zero, List.set_cons_succ])
  refine wpG_take 9 rfl hHeld ?_
  apply Exists.intro
  refine ⟨fun wq hSw => ?_, ?_⟩
  ·obtain ⟨⟨h0, h1, h2, h3⟩, ⟨g0, g1⟩, k0, k1⟩ := hSw
   go_simp
   try with_reducible rfl
  (try simp only [Act.put, List.setIfInBounds_toArray, List.set_cons_zero, List.set_cons_succ])
  refine wpG_one 7 rfl (by kernel_rfl) (fun K hK => ?_)
  refine stepR_callD rfl 30 _ _ rfl #[x.v] (by simp [Act.eval, SysIn.v, sysV]) (run_enter Tryz.func30 (by kernel_rfl) rfl) (HCk.out rfl _ (hBW _ q4)) ?_
  rintro e w5 ⟨b, rfl, b5, hH⟩
  refine ⟨_, rfl, ?_⟩
  have q5 : Below W2.heap.size W2 w5 := q4.trans (b5.mono q4.size)
  refine hK.out _ _ (fun _ => hS _ q5) ?_
  clear hK K b5 hHeld
  have hHeld : (fun w' : World => BoxC w' w.heap.size (.slice x.pa x.pn x.pc) (.slice x.sa x.sn x.sc) (.slice x.wa x.wn x.wc) (.slice x.ha x.hn x.hc) ∧ BoxS w' (w.heap.size + 1) (.int .i64 p) (.int .i64 i) ∧ BoxS w' (w.heap.size + 1 + 1) (.int .i64 q) (.int .i64 j)) w5 := hS _ q5
  (try simp only [Act.put, List.setIfInBounds_toArray, List.set_cons_zero, List.set_cons_succ])
  refine wpG_one 10 rfl (by kernel_rfl) (fun K hK => ?_)
  refine stepR_callD rfl 40 _ _ rfl #[.map (some b), sptV p i, sptV q j] (by simp [Act.eval]) (run_enter Tryz.func40 (by kernel_rfl) rfl) (hH w5 (Below.refl _ _)).1 ?_
  rintro e w6 ⟨rfl, b6⟩
  refine ⟨_, rfl, ?_⟩
  have q6 : Below W2.heap.size W2 w6 := q5.trans (b6.mono q5.size)
  refine hK.out _ _ (fun _ => hS _ q6) ?_
  clear hK K b6 hHeld hH
  have hHeld : (fun w' : World => BoxC w' w.heap.size (.slice x.pa x.pn x.pc) (.slice x.sa x.sn x.sc) (.slice x.wa x.wn x.wc) (.slice x.ha x.hn x.hc) ∧ BoxS w' (w.heap.size + 1) (.int .i64 p) (.int .i64 i) ∧ BoxS w' (w.heap.size + 1 + 1) (.int .i64 q) (.int .i64 j)) w6 := hS _ q6
  (try simp only [Act.put, List.setIfInBounds_toArray, List.set_cons_zero, List.set_cons_succ])
  refine wpG_take 11 rfl hHeld ?_
  apply Exists.intro
  refine ⟨fun wq hSw => ?_, ?_⟩
  ·obtain ⟨⟨h0, h1, h2, h3⟩, ⟨g0, g1⟩, k0, k1⟩ := hSw
   go_simp
   try with_reducible rfl
  (try simp only [Act.put, List.setIfInBounds_toArray, List.set_cons_zero, List.set_cons_succ])
  refine wpG_take 12 rfl hHeld ?_
  apply Exists.intro
  refine ⟨fun wq hSw => ?_, ?_⟩
  ·obtain ⟨⟨h0, h1, h2, h3⟩, ⟨g0, g1⟩, k0, k1⟩ := hSw
   go_simp
   try with_reducible rfl
  (try simp only [Act.put, List.setIfInBounds_toArray, List.set_cons_zero, List.set_cons_succ])
  refine wpG_done (by kernel_rfl) ?_ _
  have B6 : Hid (Below w.heap.size w w6) := hBW _ q6
  clear hHeld q0 q3 q4 q5 q6 hS hBW HX HCk
  go_wp2
  go_ret
  exact ⟨by rw [HR.out]; rfl, B6.out⟩
theorem implSide_any (x : SysIn) (p i q j : Int) (w : World) (hG : SysG w x) (hL : x.Len) (hcap : ∀ i, i < x.hn → x.hL i ≤ x.hC i) (hV : w.cell? ⟨0, 0, none⟩ = some (.iface 204 (.agg #[.pointer (some ⟨1, 155, none⟩)]))) :
  Calls Tryz.prog 18 #[x.v, .int .i64 p, .int .i64 i, .int .i64 q, .int .i64 j] w fun e w' => e = .returned (.bool (sdB x.y p i q j)) ∧ Below w.heap.size w w' := by
 have HV0 : 0 < w.heap.size := World.block_lt_of_cell? w _ hV
 have HX : Hid (HgX w x p i q j (((w.alloc (oQ2 x.pa x.pn x.pc x.sa x.sn x.sc x.wa x.wn x.wc x.ha x.hn x.hc)).alloc (oQ5 p i)).alloc (oQ5 q j))) := HgX.new w x p i q j
 have HA : Hid (∀ wx b, Below w.heap.size w wx → b < wx.heap.size → SpAt wx b 2 (fun k => if k = 0 then (p, i) else (q, j)) → Calls Tryz.prog 29 #[x.v, .slice (some ⟨b, 0, none⟩) 2 2] wx fun e w' => e = .returned (.bool (bothB x.y p i q j)) ∧ Below wx.heap.size wx w') := fun wx b hb hbl hs => by
  have h := areIn_any x b 2 2 (fun k => if k = 0 then (p, i) else (q, j)) wx (hG.below hb) hL ((hb.cell (p := ⟨0, 0, none⟩) HV0).trans hV) hbl (by omega) hs
  rw [arB_two] at h
  exact h
 have HCk : Hid (bothB x.y p i q j = true → ∀ wx, Below w.heap.size w wx → Calls Tryz.prog 30 #[x.v] wx fun e w' => ∃ b, e = .returned (.map (some b)) ∧ Below wx.heap.size wx w' ∧ ∀ wy, Below w'.heap.size w' wy → Calls Tryz.prog 40 #[.map (some b), sptV p i, sptV q j] wy (fun e w' => e = .returned (.bool (hgN x.y p.toNat i.toNat q.toNat j.toNat)) ∧ Below wy.heap.size wy w') ∧ Calls Tryz.prog 40 #[.map (some b), sptV q j, sptV p i] wy (fun e w' => e = .returned (.bool (hgN x.y q.toNat j.toNat p.toNat i.toNat)) ∧ Below wy.heap.size wy w')) := fun h wx hb => by
  simp only [bothB, Bool.and_eq_true] at h
  obtain ⟨hO, a, c, rfl, rfl, ha, hc⟩ := hasB_parts h.1
  obtain ⟨-, a', c', rfl, rfl, ha', hc'⟩ := hasB_parts h.2
  refine (clocksIn_any x wx (hG.below hb) hcap hO).mono ?_
  rintro e w' ⟨b, D, d, rfl, hb0, hd, hC, hbw⟩
  have hbl : b < w'.heap.size := hC.own.lt
  have h4 := hO.cn.1.2
  refine ⟨b, rfl, hbw, fun wy hy => ?_⟩
  have hC' : Ckm wy b x.y d D := hC.blk (hy.block b hbl)
  have hbl' : b < wy.heap.size := Nat.lt_of_lt_of_le hbl hy.size
  have h5 := hO.hl200 ha
  have h6 := hO.hl200 ha'
  exact ⟨hang_any b x.y d D a c a' c' wy hC' hbl' h4 ha (by rw [hd a ha]; exact hc) (by omega) ha', hang_any b x.y d D a' c' a c wy hC' hbl' h4 ha' (by rw [hd a' ha']; exact hc') (by omega) ha⟩
 have HR : Hid (sdB x.y p i q j = ((!spEq p i q j && bothB x.y p i q j) && (!hgN x.y p.toNat i.toNat q.toNat j.toNat && !hgN x.y q.toNat j.toNat p.toNat i.toNat))) := rfl
 have heq := eql_spot p i q j
 generalize sdB x.y p i q j = R at *
 generalize bothB x.y p i q j = T at *
 generalize hgN x.y p.toNat i.toNat q.toNat j.toNat = V at *
 generalize hgN x.y q.toNat j.toNat p.toNat i.toNat = V' at *
 generalize spEq p i q j = E at *
 clear hG hL hcap hV HV0
 go_enter Tryz.func18, Tryz.ntmps18
 go_upto_region 2 with fail
 generalize ((w.alloc (oQ2 x.pa x.pn x.pc x.sa x.sn x.sc x.wa x.wn x.wc x.ha x.hn x.hc)).alloc (oQ5 p i)).alloc (oQ5 q j) = W2 at *
 obtain ⟨-, ⟨b0, b1, b2, b3⟩, ⟨s0, s1⟩, t0, t1⟩ := HX.out
 cases E with
 | true =>
  go_wp2
  go_ret
  exact ⟨by rw [HR.out]; rfl, HX.out.be⟩
 | false =>
  have q3 : Below W2.heap.size W2 (W2.alloc (.cells #[.int .i64 p, .int .i64 i, .int .i64 q, .int .i64 j] 58)) := below_alloc _ _
  have X3 : Hid (HgX w x p i q j (W2.alloc (.cells #[.int .i64 p, .int .i64 i, .int .i64 q, .int .i64 j] 58))) := HX.out.below q3
  have SP : Hid (SpAt (W2.alloc (.cells #[.int .i64 p, .int .i64 i, .int .i64 q, .int .i64 j] 58)) W2.heap.size 2 (fun k => if k = 0 then (p, i) else (q, j)) ∧ W2.heap.size < (W2.alloc (.cells #[.int .i64 p, .int .i64 i, .int .i64 q, .int .i64 j] 58)).heap.size) := ⟨SpAt.two _ _ _ _ _ _, by simp⟩
  clear q3 HX
  go_wp2_with fail
  clear b0 b1 b2 b3 s0 s1 t0 t1 heq
  generalize W2.heap.size = N at *
  generalize W2.alloc (.cells #[.int .i64 p, .int .i64 i, .int .i64 q, .int .i64 j] 58) = W3 at *
  refine (HA.out W3 N X3.out.be SP.out.2 SP.out.1).mono ?_
  rintro e w4 ⟨rfl, b4⟩
  have X4 : Hid (HgX w x p i q j w4) := X3.out.below b4
  clear b4 X3 SP HA
  cases T with
  | false =>
   go_wp2
   go_ret
   exact ⟨by rw [HR.out]; rfl, X4.out.be⟩
  | true =>
   obtain ⟨-, ⟨b0, b1, b2, b3⟩, -, -⟩ := X4.out
   go_wp2_with fail
   clear b0 b1 b2 b3
   refine (HCk.out trivial w4 X4.out.be).mono ?_
   rintro e w5 ⟨b, rfl, b5, hH⟩
   have HH : Hid (∀ wy, Below w5.heap.size w5 wy → Calls Tryz.prog 40 #[.map (some b), sptV p i, sptV q j] wy (fun e w' => e = .returned (.bool V) ∧ Below wy.heap.size wy w') ∧ Calls Tryz.prog 40 #[.map (some b), sptV q j, sptV p i] wy (fun e w' => e = .returned (.bool V') ∧ Below wy.heap.size wy w')) := hH
   have X5 : Hid (HgX w x p i q j w5) := X4.out.below b5
   clear b5 hH X4 HCk
   obtain ⟨-, -, ⟨s0, s1⟩, t0, t1⟩ := X5.out
   go_wp2_with fail
   clear s0 s1 t0 t1
   refine (HH.out w5 (Below.refl _ _)).1.mono ?_
   rintro e w6 ⟨rfl, b6⟩
   have X6 : Hid (HgX w x p i q j w6 ∧ Below w5.heap.size w5 w6) := ⟨X5.out.below b6, b6⟩
   clear b6 X5
   cases V with
   | true =>
    go_wp2
    go_ret
    exact ⟨by rw [HR.out]; rfl, X6.out.1.be⟩
   | false =>
    obtain ⟨-, -, ⟨s0, s1⟩, t0, t1⟩ := X6.out.1
    go_wp2_with fail
    clear s0 s1 t0 t1
    refine (HH.out w6 X6.out.2).2.mono ?_
    rintro e w7 ⟨rfl, b7⟩
    have X7 : Hid (HgX w x p i q j w7) := X6.out.1.below b7
    clear b7 X6
    go_wp2
    go_ret
    exact ⟨by rw [HR.out]; rfl, X7.out.be⟩
section
variable {H : Type} {enc : TypeId × Value → H} {P : Program} {w : World} {base : Nat} {spare : Nat → Bool} {held : Bool}
theorem trodAll_five {t0 t1 t2 t3 t4 : TypeId} {args : Array Value} {ds : List (DataW H)} {ps : List MemPlace} (h : DataW.TrodAll enc P w base spare held [t0, t1, t2, t3, t4] args.toList ds ps) :
  ∃ v0 v1 v2 v3 v4 d0 d1 d2 d3 d4 p0 p1 p2 p3 p4, args = #[v0, v1, v2, v3, v4] ∧ ds = [d0, d1, d2, d3, d4] ∧ ps = p0 ++ (p1 ++ (p2 ++ (p3 ++ p4))) ∧ DataW.Trod enc P w base spare held t0 v0 d0 p0 ∧ DataW.Trod enc P w base spare held t1 v1 d1 p1 ∧ DataW.Trod enc P w base spare held t2 v2 d2 p2 ∧ DataW.Trod enc P w base spare held t3 v3 d3 p3 ∧ DataW.Trod enc P w base spare held t4 v4 d4 p4 := by
 obtain ⟨v0, vs0, d0, ds0, p0, q0, hargs, rfl, rfl, h0, r0⟩ := trodAll_cons h
 obtain ⟨v1, vs1, d1, ds1, p1, q1, rfl, rfl, rfl, h1, r1⟩ := trodAll_cons r0
 obtain ⟨v2, vs2, d2, ds2, p2, q2, rfl, rfl, rfl, h2, r2⟩ := trodAll_cons r1
 obtain ⟨v3, vs3, d3, ds3, p3, q3, rfl, rfl, rfl, h3, r3⟩ := trodAll_cons r2
 obtain ⟨v4, vs4, d4, ds4, p4, q4, rfl, rfl, rfl, h4, r4⟩ := trodAll_cons r3
 obtain ⟨rfl, rfl, rfl⟩ := trodAll_nil r4
 exact ⟨v0, v1, v2, v3, v4, d0, d1, d2, d3, d4, p0, p1, p2, p3, p4, by cases args; simp_all, rfl, by simp, h0, h1, h2, h3, h4⟩
end
theorem Tryz.et : Tryz.prog.globalNamed "errors.errorType" = some 0 := by kernel_rfl
theorem Tryz.rt : (Tryz.prog.cutTypes.find? (·.1 == "internal/reflectlite.rtype")).map (·.2) = some 204 := by kernel_rfl
theorem Tryz.oneRow : ((List.range 264).filter fun t => Tryz.prog.rowNamed t [101, 114, 114, 111, 114]) = [155] := by kernel_rfl
theorem Tryz.tsize : Tryz.prog.types.size = 264 := by kernel_rfl
theorem handle_of_laid {W : World} (h : laidMetH Tryz.prog [("errors.errorType", Rows.laid_errors_errorType)] W) : W.cell? ⟨0, 0, none⟩ = some (.iface 204 (.agg #[.pointer (some ⟨1, 155, none⟩)])) := by
 have h' : laidMet Tryz.prog [] W ∧ handlesMet Tryz.prog [("errors.errorType", Rows.laid_errors_errorType)] W := h
 obtain ⟨name, u, ty, e1, e2, e3, e4, e5⟩ := h'.2 _ (List.mem_singleton.2 rfl)
 have en : name = [101, 114, 114, 111, 114] := (Option.some.inj e1).symm
 subst en
 obtain rfl := Option.some.inj (Tryz.rt.symm.trans e2)
 have hm : ty ∈ (List.range 264).filter fun t => Tryz.prog.rowNamed t [101, 114, 114, 111, 114] := List.mem_filter.2 ⟨List.mem_range.2 (by rw [← Tryz.tsize]; exact e3), e4⟩
 rw [Tryz.oneRow] at hm
 obtain rfl := List.mem_singleton.1 hm
 have hh : typeHandle Tryz.prog 155 = .pointer (some ⟨1, 155, none⟩) := by kernel_rfl
 rw [hh] at e5
 simpa using World.var?_cell Tryz.et e5 0
noncomputable def laidWorld (os : Os) : World :=
 let w0 := World.holding Tryz.prog os ⟨#[], #[], []⟩
 { w0 with heap := w0.heap.modify 0 fun
   | .cells _ t frozen => .cells #[.iface 204 (.agg #[.pointer (some ⟨1, 155, none⟩)])] t frozen
   | o => o }
theorem laidWorld_met (os : Os) (args : Array Value) : laidMetH Tryz.prog [("errors.errorType", Rows.laid_errors_errorType)] ((laidWorld os).forCall (fun _ _ => 0) ⟨#[], args, []⟩).memory :=
 laidMetH_of_parts (laidMet_nil _ _) (by kernel_rfl)
end Go.Proofs.YtjbocfjeobkclaaGreatDoor
