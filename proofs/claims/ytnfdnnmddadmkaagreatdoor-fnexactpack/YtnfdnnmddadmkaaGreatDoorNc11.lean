/- The walks of StateOk, the program's and the model's: both answer what stOkB says. -/
import Derived.Test.YtnfdnnmddadmkaaGreatDoorNc0
import Derived.Test.YtnfdnnmddadmkaaGreatDoorNc10
import Derived.Lib.QuietBelow
import Derived.ChangeKeysEq
namespace Go.Proofs.YtnfdnnmddadmkaaGreatDoor
set_option maxRecDepth 100000
set_option maxHeartbeats 1000000
open Go.RowKit Go.Sort
def numB (x : Int) : Bool := inB x (-1000000000) 1000000000
def allN (xs : List Int) : Bool := xs.all numB
theorem zi_mem {xs : List Int} {k : Nat} (hk : k < xs.length) : zi xs k ∈ xs := by
 unfold zi
 rw [List.getD_eq_getElem?_getD, List.getElem?_eq_getElem hk]
 exact List.getElem_mem hk
theorem allN_false {xs : List Int} {k : Nat} (hk : k < xs.length) (h : numB (zi xs k) = false) : allN xs = false := by
 rw [allN, List.all_eq_false]
 exact ⟨_, zi_mem hk, by simp [h]⟩
theorem mem_zi {xs : List Int} {x : Int} (h : x ∈ xs) : ∃ k, k < xs.length ∧ zi xs k = x := by
 obtain ⟨k, hk, e⟩ := List.getElem_of_mem h
 refine ⟨k, hk, ?_⟩
 unfold zi
 rw [List.getD_eq_getElem?_getD, List.getElem?_eq_getElem hk]
 exact e
theorem allN_true {xs : List Int} (h : ∀ k, k < xs.length → numB (zi xs k) = true) : allN xs = true := by
 rw [allN, List.all_eq_true]
 intro x hx
 obtain ⟨k, hk, rfl⟩ := mem_zi hx
 exact h k hk
def outB (xs : List Int) : Bool := decide ((xs.length : Int) ≤ 60) && allN xs
def regsB (xs : List Int) : Bool := ((xs.length : Int) == 4) && allN xs
def stOkB (n : Nat) (p : Int) (rs os : List Int) (code : Int) : Bool := regsB rs && inB code 0 2 && belB p n && outB os
theorem outOk_any (a0 : Option Addr) (cap : Nat) (xs : List Int) (w : World) (hlen : xs.length ≤ 1048576) (h : Sl w a0 xs) :
  Calls Tryz.prog 233 #[.slice a0 xs.length cap] w fun e w' => e = .returned (.bool (outB xs)) ∧ w' = w := by
 have hl' : (xs.length : Int) ≤ 1048576 := by omega
 by_cases h60 : (xs.length : Int) ≤ 60
 case neg =>
  have hg : 60 < (xs.length : Int) := by omega
  have HV : Hid (outB xs = false) := by simp [Hid, outB, h60]
  clear h60
  go_enter Tryz.func233, Tryz.ntmps233
  go_wp2
  go_ret
  exact ⟨by rw [HV.out]; rfl, rfl⟩
 case pos =>
  have HV : Hid (outB xs = allN xs) := by simp [Hid, outB, h60]
  have hg : ¬ 60 < (xs.length : Int) := by omega
  have HS : Hid (Sl w a0 xs) := h
  clear h h60
  go_enter Tryz.func233, Tryz.ntmps233
  go_wp2_with fail
  go_loop [10] (fun i => ∃ k : Nat, k ≤ xs.length ∧ i = .int .i64 k ∧ Hid (∀ t, t < k → numB (zi xs t) = true)) (fun i => xs.length - (intOf i).toNat)
  case atStart => exact ⟨0, Nat.zero_le _, rfl, fun t ht => by omega⟩
  case round =>
   obtain ⟨k, hk, rfl, HK⟩ := hrel
   by_cases hlt : k < xs.length
   ·have hlt' : (k : Int) < (xs.length : Int) := by omega
    obtain ⟨b, off, rfl, hbl, ck⟩ := HS.out.at hlt
    rcases Bool.eq_false_or_eq_true (numB (zi xs k)) with t0 | t0
    ·have T0 : Hid (numB (zi xs k) = true) := t0
     have t1 : inB (zi xs k) (-1000000000) 1000000000 = true := t0
     clear t0
     go_wp2_with (go_at_call 224; refine (isNum_any _ _).mono ?_; rintro e w' ⟨rfl, rfl⟩)
     go_round
     case rel =>
      refine ⟨k + 1, by omega, by go_num, fun t ht => ?_⟩
      by_cases htk : t = k
      ·subst htk; exact T0.out
      ·exact HK.out t (by omega)
     case measure => simp [intOf]; omega
    ·have T0 : Hid (allN xs = false) := allN_false hlt t0
     have t1 : inB (zi xs k) (-1000000000) 1000000000 = false := t0
     clear t0
     go_wp2_with (go_at_call 224; refine (isNum_any _ _).mono ?_; rintro e w' ⟨rfl, rfl⟩)
     go_ret
     exact ⟨by rw [HV.out, T0.out]; rfl, rfl⟩
   ·have hlt' : ¬ (k : Int) < (xs.length : Int) := by omega
    have T0 : Hid (allN xs = true) := allN_true fun t ht => HK.out t (by omega)
    clear HK
    go_wp2
    go_ret
    exact ⟨by rw [HV.out, T0.out]; rfl, rfl⟩
theorem clamp_eq {x : Int} : clamp x = x ↔ numB x = true := by
 unfold clamp cmin cmax numB inB
 simp only [decide_eq_true_eq]
 by_cases h1 : x < -1000000000
 ·rw [if_pos h1, if_neg (by omega)]; omega
 ·rw [if_neg h1]
  by_cases h2 : 1000000000 < x
  ·rw [if_pos h2]; omega
  ·rw [if_neg h2]; simp; omega
def regEqB (a b c d a' b' c' d' : Int) : Bool := a == a' && (b == b' && (c == c' && d == d'))
theorem eql_regs (a b c d a' b' c' d' : Int) (w : World) : (binOp .eql 247 (regV a b c d) (regV a' b' c' d')).run Tryz.prog w = .ok (.bool (regEqB a b c d a' b' c' d')) w := by
 have hinfo := infoInt
 cases hi : Tryz.prog.info? 3 with
 | none => rw [hi] at hinfo; cases hinfo
 | some i =>
  rw [run_eql_struct, show (10000 : Nat) = 9998 + 1 + 1 from rfl, run_equalIn_array w (9998 + 1) _ _ Tryz.underlying247 hi, show Tryz.prog.cellsOf 3 = 1 by kernel_rfl, show List.range 4 = [0, 1, 2, 3] from rfl]
  have hp : ∀ (vs : Array Value) (j : Nat) (v : Value) (w : World), vs[j]? = some v → (part 3 vs j).run Tryz.prog w = .ok v w := by
   intro vs j v w hv
   simp [part, go_sem, hv]
  have p0 := hp #[.int .i64 a, .int .i64 b, .int .i64 c, .int .i64 d] 0 (.int .i64 a) w rfl
  have p1 := hp #[.int .i64 a, .int .i64 b, .int .i64 c, .int .i64 d] 1 (.int .i64 b) w rfl
  have p2 := hp #[.int .i64 a, .int .i64 b, .int .i64 c, .int .i64 d] 2 (.int .i64 c) w rfl
  have p3 := hp #[.int .i64 a, .int .i64 b, .int .i64 c, .int .i64 d] 3 (.int .i64 d) w rfl
  have q0 := hp #[.int .i64 a', .int .i64 b', .int .i64 c', .int .i64 d'] 0 (.int .i64 a') w rfl
  have q1 := hp #[.int .i64 a', .int .i64 b', .int .i64 c', .int .i64 d'] 1 (.int .i64 b') w rfl
  have q2 := hp #[.int .i64 a', .int .i64 b', .int .i64 c', .int .i64 d'] 2 (.int .i64 c') w rfl
  have q3 := hp #[.int .i64 a', .int .i64 b', .int .i64 c', .int .i64 d'] 3 (.int .i64 d') w rfl
  have hq : ∀ x y, (Op.equalIn 9999 3 (.int .i64 x) (.int .i64 y)).run Tryz.prog w = .ok (x == y) w := fun x y => run_equalIn_int (P := Tryz.prog) w 9998 3 .i64 .i64 x y Tryz.underlying3
  clear hp hinfo hi
  simp only [regEqB]
  cases h1 : (a == a') <;> cases h2 : (b == b') <;> cases h3 : (c == c') <;> cases h4 : (d == d') <;> simp only [Op.eqItems, Sem.run_bind, Sem.run_pure, Sem.run_ite, Result.andThen_ok, Bool.not_true, Bool.not_false, if_true, if_false, Bool.false_eq_true, Nat.mul_one, Bool.and_true, Bool.and_false, p0, p1, p2, p3, q0, q1, q2, q3, hq, h1, h2, h3, h4]
theorem regEqB_clamp (a b c d : Int) : regEqB a b c d (clamp a) (clamp b) (clamp c) (clamp d) = regsB [a, b, c, d] := by
 have h : ∀ x, (x == clamp x) = numB x := fun x => by
  rw [Bool.eq_iff_iff, ← clamp_eq, beq_iff_eq]; exact eq_comm
 unfold regEqB regsB allN
 rw [h, h, h, h]
 simp
theorem old_cell {w : World} {b : Nat} (o : Obj) (j : Nat) (h : b < w.heap.size) : (w.alloc o).cell? ⟨b, j, none⟩ = w.cell? ⟨b, j, none⟩ := World.cell?_of_block (Below.heap_alloc w o b h)
theorem Calls.regrown_same {P : Program} {f : FuncId} {args : Array Value} {w : World} {d : Nat} {os : Array Obj} {v : Value}
  (h : Calls P f args (grow (redrawn w d) os) fun e w' => e = .returned v ∧ w' = grow (redrawn w d) os) : Calls P f args (grow (redrawn w d) os) fun e w'' => e = .returned v ∧ ∃ p : Regrown, w'' = grow (redrawn w p.d) p.os :=
 h.mono fun _ _ ⟨he, hw⟩ => ⟨he, ⟨d, os⟩, hw⟩
theorem implStateOk_four (la : Option Addr) (n lc : Nat) (p code : Int) (ra oa : Option Addr) (rc oc : Nat) (a b c d : Int) (os : List Int) (w : World) (ho : os.length ≤ 1048576) (h1 : Sl w ra [a, b, c, d]) (h2 : Sl w oa os) :
  Calls Tryz.prog 202 #[.slice la n lc, stV p ra 4 rc oa os.length oc code] w fun e w' => e = .returned (.bool (stOkB n p [a, b, c, d] os code)) ∧ Below w.heap.size w w' := by
 have H1 : Hid (Sl w ra [a, b, c, d]) := h1
 have H2 : Hid (Sl w oa os) := h2
 clear h1 h2
 go_enter Tryz.func202, Tryz.ntmps202
 go_wp2_with fail
 refine (registersOf_any ra rc [a, b, c, d] _ (H1.out.below (by go_grown))).mono ?_
 rintro e w1 ⟨⟨r0, r1, r2, r3, rfl, hr⟩, b1⟩
 have B1 : Hid (Below w.heap.size w w1) := below_up (by go_grown) b1 (by simp)
 have y0 : w.heap.size < w1.heap.size := by have := b1.size; simp at this; omega
 have hr' := hr rfl
 simp only [List.cons.injEq, and_true] at hr'
 obtain ⟨rfl, rfl, rfl, rfl⟩ := hr'
 obtain ⟨hc1, hf1⟩ := bcell b1
 clear b1 hr
 go_wp2_with fail
 have B2 : Hid (Below w.heap.size w (w1.alloc (.cells #[.int .i64 a, .int .i64 b, .int .i64 c, .int .i64 d] 247))) := B1.out.alloc (by omega) _
 generalize hW : (w1.alloc (.cells #[.int .i64 a, .int .i64 b, .int .i64 c, .int .i64 d] 247)) = W at *
 have k0 : W.cell? ⟨w1.heap.size, 0, none⟩ = some (.int .i64 a) := by rw [← hW]; simp
 have k1 : W.cell? ⟨w1.heap.size, 1, none⟩ = some (.int .i64 b) := by rw [← hW]; simp
 have k2 : W.cell? ⟨w1.heap.size, 2, none⟩ = some (.int .i64 c) := by rw [← hW]; simp
 have k3 : W.cell? ⟨w1.heap.size, 3, none⟩ = some (.int .i64 d) := by rw [← hW]; simp
 have s0 : W.cell? ⟨w.heap.size, 0, none⟩ = some (.int .i64 p) := by rw [← hW, old_cell _ _ y0, hc1 _ _ (by simp)]; simp
 have s2 : W.cell? ⟨w.heap.size, 2, none⟩ = some (.slice oa os.length oc) := by rw [← hW, old_cell _ _ y0, hc1 _ _ (by simp)]; simp
 have s3 : W.cell? ⟨w.heap.size, 3, none⟩ = some (.int .i64 code) := by rw [← hW, old_cell _ _ y0, hc1 _ _ (by simp)]; simp
 clear hc1 hf1 hW B1 y0
 have k0' := cell_regrown k0
 have k1' := cell_regrown k1
 have k2' := cell_regrown k2
 have k3' := cell_regrown k3
 have s0' := cell_regrown s0
 have s2' := cell_regrown s2
 have s3' := cell_regrown s3
 have HO : Hid (∀ d os', Sl (grow (redrawn W d) os') oa os) := fun d os' => (H2.out.below B2.out).below (below_regrown W d os')
 rcases Bool.eq_false_or_eq_true (regsB [a, b, c, d]) with t1 | t1
 case inr =>
  have HV : Hid (stOkB n p [a, b, c, d] os code = false) := by simp [Hid, stOkB, t1]
  have he : ∀ wx, (binOp .eql 247 (regV a b c d) (regV (clamp a) (clamp b) (clamp c) (clamp d))).run Tryz.prog wx = .ok (.bool false) wx := fun wx => by rw [eql_regs, regEqB_clamp, t1]
  clear t1
  refine wp_region_quiet_below (by kernel_rfl) (by kernel_rfl) ?_
  repeat (quiet_step (first | (go_at_call 231; exact Calls.regrown_of (held_any _ _ _ _ _)) | (go_at_call 232; exact Calls.regrown_same (isCode_any _ _)) | (go_at_call 38; exact Calls.regrown_same (isBelow_any _ _ _)) | (go_at_call 233; exact Calls.regrown_same (outOk_any _ _ _ _ ho (HO.out _ _)))))
  refine wpQuiet_nil ?_
  intro _ hw'
  obtain ⟨⟨dq, osq⟩, hw''⟩ := hw'
  subst hw''
  have B3 : Hid (Below w.heap.size w (grow (redrawn W dq) osq)) := B2.out.trans ((below_regrown W dq osq).mono B2.out.size)
  generalize grow (redrawn W dq) osq = w3 at *
  clear k0' k1' k2' k3' s0' s2' s3' HO he
  go_wp2
  go_ret
  exact ⟨by rw [HV.out]; rfl, B3.out⟩
 have he : ∀ wx, (binOp .eql 247 (regV a b c d) (regV (clamp a) (clamp b) (clamp c) (clamp d))).run Tryz.prog wx = .ok (.bool true) wx := fun wx => by rw [eql_regs, regEqB_clamp, t1]
 rcases Bool.eq_false_or_eq_true (inB code 0 2) with t2 | t2
 case inr =>
  have HV : Hid (stOkB n p [a, b, c, d] os code = false) := by simp [Hid, stOkB, t2]
  clear t1
  refine wp_region_quiet_below (by kernel_rfl) (by kernel_rfl) ?_
  repeat (quiet_step (first | (go_at_call 231; exact Calls.regrown_of (held_any _ _ _ _ _)) | (go_at_call 232; exact Calls.regrown_same (isCode_any _ _)) | (go_at_call 38; exact Calls.regrown_same (isBelow_any _ _ _)) | (go_at_call 233; exact Calls.regrown_same (outOk_any _ _ _ _ ho (HO.out _ _)))))
  refine wpQuiet_nil ?_
  intro _ hw'
  obtain ⟨⟨dq, osq⟩, hw''⟩ := hw'
  subst hw''
  have B3 : Hid (Below w.heap.size w (grow (redrawn W dq) osq)) := B2.out.trans ((below_regrown W dq osq).mono B2.out.size)
  generalize grow (redrawn W dq) osq = w3 at *
  clear k0' k1' k2' k3' s0' s2' s3' HO he
  go_wp2
  go_ret
  exact ⟨by rw [HV.out]; rfl, B3.out⟩
 rcases Bool.eq_false_or_eq_true (belB p n) with t3 | t3
 case inr =>
  have HV : Hid (stOkB n p [a, b, c, d] os code = false) := by simp [Hid, stOkB, t3]
  clear t1
  refine wp_region_quiet_below (by kernel_rfl) (by kernel_rfl) ?_
  repeat (quiet_step (first | (go_at_call 231; exact Calls.regrown_of (held_any _ _ _ _ _)) | (go_at_call 232; exact Calls.regrown_same (isCode_any _ _)) | (go_at_call 38; exact Calls.regrown_same (isBelow_any _ _ _)) | (go_at_call 233; exact Calls.regrown_same (outOk_any _ _ _ _ ho (HO.out _ _)))))
  refine wpQuiet_nil ?_
  intro _ hw'
  obtain ⟨⟨dq, osq⟩, hw''⟩ := hw'
  subst hw''
  have B3 : Hid (Below w.heap.size w (grow (redrawn W dq) osq)) := B2.out.trans ((below_regrown W dq osq).mono B2.out.size)
  generalize grow (redrawn W dq) osq = w3 at *
  clear k0' k1' k2' k3' s0' s2' s3' HO he
  go_wp2
  go_ret
  exact ⟨by rw [HV.out]; rfl, B3.out⟩
 case inl =>
  have HV : Hid (stOkB n p [a, b, c, d] os code = outB os) := by simp [Hid, stOkB, t1, t2, t3]
  clear t1
  refine wp_region_quiet_below (by kernel_rfl) (by kernel_rfl) ?_
  repeat (quiet_step (first | (go_at_call 231; exact Calls.regrown_of (held_any _ _ _ _ _)) | (go_at_call 232; exact Calls.regrown_same (isCode_any _ _)) | (go_at_call 38; exact Calls.regrown_same (isBelow_any _ _ _)) | (go_at_call 233; exact Calls.regrown_same (outOk_any _ _ _ _ ho (HO.out _ _)))))
  refine wpQuiet_nil ?_
  intro _ hw'
  obtain ⟨⟨dq, osq⟩, hw''⟩ := hw'
  subst hw''
  have B3 : Hid (Below w.heap.size w (grow (redrawn W dq) osq)) := B2.out.trans ((below_regrown W dq osq).mono B2.out.size)
  generalize grow (redrawn W dq) osq = w3 at *
  clear k0' k1' k2' k3' s0' s2' s3' HO he
  go_wp2
  go_ret
  exact ⟨by rw [HV.out]; rfl, B3.out⟩
theorem implStateOk_not (la : Option Addr) (n lc : Nat) (p code : Int) (ra oa : Option Addr) (rc on oc : Nat) (rs : List Int) (w : World) (h4 : rs.length ≠ 4) (h1 : Sl w ra rs) :
  Calls Tryz.prog 202 #[.slice la n lc, stV p ra rs.length rc oa on oc code] w fun e w' => e = .returned (.bool false) ∧ Below w.heap.size w w' := by
 have H1 : Hid (Sl w ra rs) := h1
 have h4' : ((rs.length : Int) == 4) = false := by simp; omega
 clear h1 h4
 go_enter Tryz.func202, Tryz.ntmps202
 go_wp2_with fail
 refine (registersOf_any ra rc rs _ (H1.out.below (by go_grown))).mono ?_
 rintro e w1 ⟨⟨a, b, c, d, rfl, hr⟩, b1⟩
 have B1 : Hid (Below w.heap.size w w1) := below_up (by go_grown) b1 (by simp)
 have y0 : w.heap.size < w1.heap.size := by have := b1.size; simp at this; omega
 clear b1 hr
 go_wp2_with fail
 have B2 : Hid (Below w.heap.size w (w1.alloc (.cells #[.int .i64 a, .int .i64 b, .int .i64 c, .int .i64 d] 247))) := B1.out.alloc (by omega) _
 generalize (w1.alloc (.cells #[.int .i64 a, .int .i64 b, .int .i64 c, .int .i64 d] 247)) = W at *
 go_quiet (fail)
 go_wp2
 go_ret
 exact ⟨rfl, below_drewN B2.out _⟩
theorem implStateOk_any (la : Option Addr) (n lc : Nat) (p code : Int) (ra oa : Option Addr) (rc oc : Nat) (rs os : List Int) (w : World) (ho : os.length ≤ 1048576) (h1 : Sl w ra rs) (h2 : Sl w oa os) :
  Calls Tryz.prog 202 #[.slice la n lc, stV p ra rs.length rc oa os.length oc code] w fun e w' => e = .returned (.bool (stOkB n p rs os code)) ∧ Below w.heap.size w w' := by
 by_cases h4 : rs.length = 4
 ·match rs, h4, h1 with
  | [a, b, c, d], _, h1 => exact implStateOk_four la n lc p code ra oa rc oc a b c d os w ho h1 h2
 ·have hv : stOkB n p rs os code = false := by
   have : ((rs.length : Int) == 4) = false := by simp; omega
   simp [stOkB, regsB, this]
  rw [hv]
  exact implStateOk_not la n lc p code ra oa rc os.length oc rs w h4 h1
end Go.Proofs.YtnfdnnmddadmkaaGreatDoor
