/- Systems that are drawn: where they lie while the cursor goes on. -/
import Derived.Test.YtbleeedbiipfnaaGreatDoorWc0
import Derived.Test.YtbleeedbiipfnaaGreatDoorWc46
import Derived.Test.YtbleeedbiipfnaaGreatDoorWc41
import Derived.Test.YtbleeedbiipfnaaGreatDoorWc31
import Derived.Test.YtbleeedbiipfnaaGreatDoorWc42
import Derived.Test.YtbleeedbiipfnaaGreatDoorWc33
namespace Go.Proofs.YtbleeedbiipfnaaGreatDoor
set_option maxRecDepth 100000
set_option maxHeartbeats 4000000
open Go.ChangeShapes Go.WideShapes Go.ChangeAt Go.RowKit Go.Deep
theorem OwnSys.base {z : Bool} {w : World} {B B' : Nat} {y : Sy} {v : Value} (o : OwnSys z w B y v) (h : B' ≤ B) : OwnSys z w B' y v := by
 obtain ⟨c, vp, vs, vw, vh, up, us, uw, uh, e, o⟩ := o
 exact ⟨c, vp, vs, vw, vh, up, us, uw, uh, e, o.p.mono fun _ q _ => ⟨Nat.le_trans h q.1, q.2⟩, o.s.mono fun _ q _ => ⟨Nat.le_trans h q.1, q.2⟩, o.t.mono fun _ q _ => ⟨Nat.le_trans h q.1, q.2⟩, o.h.mono fun _ q _ => ⟨Nat.le_trans h q.1, q.2⟩⟩
theorem l5Step_out (y : Sy) (p f : Int) (w : World) (B : Nat) (v : Value) (o : OwnSys true w B y v) (hB : B ≤ w.heap.size) (hn : y.pn ≤ 1048576) (t1 : inB p 0 ((y.pn : Int) - 1) = false) :
  Calls Tryz.prog 74 #[v, .int .i64 p, .int .i64 f] w fun e w' => e = .returned (.tuple #[v, .int .i64 2]) ∧ Below B w w' ∧ OwnSys true w' B y v := by
 obtain ⟨c, vp, vs, vw, vh, up, us, uw, uh, rfl, o⟩ := o
 obtain ⟨pa, pc, rfl⟩ := ownsRow_slice o.p.row
 obtain ⟨sa, sc, rfl⟩ := ownsRow_slice o.s.row
 obtain ⟨wa, wc, rfl⟩ := ownsRow_slice o.t.row
 obtain ⟨ha, hc, rfl⟩ := ownsRow_slice o.h.row
 have hpn : (y.pn : Int) ≤ 1048576 := by omega
 have hM : B ≤ w.heap.size + 1 := by omega
 have BW : Hid (Below w.heap.size w ((w.alloc (oQ4 pa y.pn pc sa y.sn sc wa y.wn wc ha y.hn hc)).alloc (zQ3))) := (below_allocL _ _).trans ((below_allocL _ _).mono (by simp))
 have NB : Hid (BoxC ((w.alloc (oQ4 pa y.pn pc sa y.sn sc wa y.wn wc ha y.hn hc)).alloc (zQ3)) w.heap.size (.slice pa y.pn pc) (.slice sa y.sn sc) (.slice wa y.wn wc) (.slice ha y.hn hc)) := (BoxC.new w _ _ _ _ _).below (below_allocL _ _)
 have RB : Hid (BoxC ((w.alloc (oQ4 pa y.pn pc sa y.sn sc wa y.wn wc ha y.hn hc)).alloc (zQ3)) (w.heap.size + 1) (.slice none 0 0) (.slice none 0 0) (.slice none 0 0) (.slice none 0 0) ∧ ∀ j, ((w.alloc (oQ4 pa y.pn pc sa y.sn sc wa y.wn wc ha y.hn hc)).alloc (zQ3)).frozen? ⟨w.heap.size + 1, j, none⟩ = false) := ⟨⟨new_cell _ _ _ 0 (by simp), new_cell _ _ _ 1 (by simp), new_cell _ _ _ 2 (by simp), new_cell _ _ _ 3 (by simp)⟩, fun j => new_frozen _ _ _ _ (by simp)⟩
 have l1 : w.heap.size + 1 < ((w.alloc (oQ4 pa y.pn pc sa y.sn sc wa y.wn wc ha y.hn hc)).alloc (zQ3)).heap.size := by simp
 have OO : Hid (OwnS true w B c y (.slice pa y.pn pc) (.slice sa y.sn sc) (.slice wa y.wn wc) (.slice ha y.hn hc) up us uw uh) := o
 clear o
 go_enter Tryz.func74, Tryz.ntmps74
 go_wp2_with fail
 refine (l1In_any _ _ _ _).mono ?_
 rintro e w1 ⟨rfl, rfl⟩
 rw [t1]
 generalize (w.alloc (oQ4 pa y.pn pc sa y.sn sc wa y.wn wc ha y.hn hc)).alloc (zQ3) = W2 at *
 obtain ⟨b0, b1, b2, b3⟩ := NB.out
 obtain ⟨⟨r0, r1, r2, r3⟩, rf⟩ := RB.out
 have O2 : Hid (OwnS true W2 B (rcol c w.heap.size 0) y (.slice pa y.pn pc) (.slice sa y.sn sc) (.slice wa y.wn wc) (.slice ha y.hn hc) up us uw uh) := (OO.out.recol 0).below BW.out
 have BB : Hid (Below B w W2) := BW.out.mono hB
 go_wp2
 exact bodyPost_ret (v := .tuple #[sysV pa y.pn pc sa y.sn sc wa y.wn wc ha y.hn hc, .int .i64 2]) (by simp [results, Tryz.results74, go_sem, r0, r1, r2, r3]) rfl ⟨rfl, (((BB.out.setCell hM _).setCell hM _).setCell hM _).setCell hM _, O2.out.out4 (rcol_new (Nat.le_succ _)) rfl _ _ _ _⟩
theorem OwnSys.setBelow {z : Bool} {w : World} {B : Nat} {y : Sy} {v : Value} (o : OwnSys z w B y v) {N : Nat} (h : N < B) (j : Nat) (u : Value) : OwnSys z (w.setCell ⟨N, j, none⟩ u) B y v := by
 obtain ⟨c, vp, vs, vw, vh, up, us, uw, uh, e, o⟩ := o
 have hk : ∀ i k, Cl B c i k → k < w.heap.size → (w.setCell ⟨N, j, none⟩ u).heap[k]? = w.heap[k]? := fun i k q _ => Below.heap_setCell _ _ _ _ fun e => by
  have e : k = N := e
  have := q.1
  omega
 exact ⟨c, vp, vs, vw, vh, up, us, uw, uh, e, o.p.keep (hk 1), o.s.keep (hk 2), o.t.keep (hk 3), o.h.keep (hk 4)⟩
noncomputable def stC (y : Sy) (p f : Int) : Int := if y.okB = true then (if belB p y.pn = true then cmS y p.toNat f else 2) else 1
noncomputable def stY (y : Sy) (p f : Int) : Sy := if y.okB = true then (if belB p y.pn = true then y.step p.toNat f else y) else { y with pn := 0, sn := 0, wn := 0, hn := 0 }
theorem OwnSys.zero {z : Bool} (w : World) (B : Nat) (y : Sy) : OwnSys z w B { y with pn := 0, sn := 0, wn := 0, hn := 0 } (sysV none 0 0 none 0 0 none 0 0 none 0 0) :=
 ⟨fun _ => 0, _, _, _, _, fun _ => .slice none 0 0, fun _ => .slice none 0 0, fun _ => .slice none 0 0, fun _ => .slice none 0 0, rfl, LL.nil _ _ _ _ _ _ _ _, LS.nil _ _ _ _, LL.nil _ _ _ _ _ _ _ _, LL.nil _ _ _ _ _ _ _ _⟩
theorem OwnSys.form {z : Bool} {w : World} {B : Nat} {y : Sy} {v : Value} (o : OwnSys z w B y v) : ∃ pa pc sa sc wa wc ha hc, v = sysV pa y.pn pc sa y.sn sc wa y.wn wc ha y.hn hc := by
 obtain ⟨c, vp, vs, vw, vh, up, us, uw, uh, rfl, o⟩ := o
 obtain ⟨pa, pc, rfl⟩ := ownsRow_slice o.p.row
 obtain ⟨sa, sc, rfl⟩ := ownsRow_slice o.s.row
 obtain ⟨wa, wc, rfl⟩ := ownsRow_slice o.t.row
 obtain ⟨ha, hc, rfl⟩ := ownsRow_slice o.h.row
 exact ⟨pa, pc, sa, sc, wa, wc, ha, hc, rfl⟩
theorem specStep_any (x : SysIn) (p f : Int) (w : World) (hG : SysG w x) (hL : x.Len) (hcap : ∀ i, i < x.hn → x.hL i ≤ x.hC i) :
  Calls Tryz.prog 22 #[x.v, .int .i64 p, .int .i64 f] w fun e w' => ∃ v, e = .returned (.tuple #[v, .int .i64 (stC x.y p f)]) ∧ OwnSys true w' w.heap.size (stY x.y p f) v ∧ Below w.heap.size w w' := by
 have HG : Hid (SysG w x) := hG
 have HL : Hid x.Len := hL
 have HS : Hid (∀ wx, Below w.heap.size w wx → Calls Tryz.prog 14 #[x.v] wx fun e w' => e = .returned (.bool x.y.okB) ∧ Below wx.heap.size wx w') := fun wx hb => specSysOk_any x wx (HG.out.below hb) hL hcap
 have HC4 : Hid (∀ wx, Below w.heap.size w wx → Calls Tryz.prog 75 #[x.v] wx fun e w' => ∃ v, e = .returned v ∧ OwnSys true w' wx.heap.size x.y v ∧ Below wx.heap.size wx w') := fun wx hb => l4Copy_any x wx (HG.out.below hb) hL
 have BW : Hid (Below w.heap.size w ((w.alloc (oQ4 x.pa x.pn x.pc x.sa x.sn x.sc x.wa x.wn x.wc x.ha x.hn x.hc)).alloc (zQ3))) := (below_allocL _ _).trans ((below_allocL _ _).mono (by simp))
 have NB : Hid (BoxC ((w.alloc (oQ4 x.pa x.pn x.pc x.sa x.sn x.sc x.wa x.wn x.wc x.ha x.hn x.hc)).alloc (zQ3)) w.heap.size (.slice x.pa x.pn x.pc) (.slice x.sa x.sn x.sc) (.slice x.wa x.wn x.wc) (.slice x.ha x.hn x.hc)) := (BoxC.new w _ _ _ _ _).below (below_allocL _ _)
 have RB : Hid (BoxC ((w.alloc (oQ4 x.pa x.pn x.pc x.sa x.sn x.sc x.wa x.wn x.wc x.ha x.hn x.hc)).alloc (zQ3)) (w.heap.size + 1) (.slice none 0 0) (.slice none 0 0) (.slice none 0 0) (.slice none 0 0) ∧ ∀ j, ((w.alloc (oQ4 x.pa x.pn x.pc x.sa x.sn x.sc x.wa x.wn x.wc x.ha x.hn x.hc)).alloc (zQ3)).frozen? ⟨w.heap.size + 1, j, none⟩ = false) := ⟨⟨new_cell _ _ _ 0 (by simp), new_cell _ _ _ 1 (by simp), new_cell _ _ _ 2 (by simp), new_cell _ _ _ 3 (by simp)⟩, fun j => new_frozen _ _ _ _ (by simp)⟩
 have hM : w.heap.size ≤ w.heap.size + 1 := Nat.le_succ _
 clear hG hL hcap
 go_enter Tryz.func22, Tryz.ntmps22
 go_wp2_with fail
 generalize (w.alloc (oQ4 x.pa x.pn x.pc x.sa x.sn x.sc x.wa x.wn x.wc x.ha x.hn x.hc)).alloc (zQ3) = W2 at *
 refine (HS.out W2 BW.out).mono ?_
 rintro e w1 ⟨rfl, q1⟩
 have B1 : Hid (Below w.heap.size w w1 ∧ BoxC w1 w.heap.size (.slice x.pa x.pn x.pc) (.slice x.sa x.sn x.sc) (.slice x.wa x.wn x.wc) (.slice x.ha x.hn x.hc) ∧ BoxC w1 (w.heap.size + 1) (.slice none 0 0) (.slice none 0 0) (.slice none 0 0) (.slice none 0 0) ∧ ∀ j, w1.frozen? ⟨w.heap.size + 1, j, none⟩ = false) := ⟨BW.out.trans (q1.mono BW.out.size), NB.out.below q1, RB.out.1.below q1, fun j => ((bcell q1).2 _ j (World.block_lt_of_cell? _ _ RB.out.1.1)).trans (RB.out.2 j)⟩
 clear q1 BW NB RB HS
 have l1 : w.heap.size + 1 < w1.heap.size := World.block_lt_of_cell? _ _ B1.out.2.2.1.1
 obtain ⟨b0, b1, b2, b3⟩ := B1.out.2.1
 rcases Bool.eq_false_or_eq_true x.y.okB with t | t
 case inr =>
  have HV : Hid (stC x.y p f = 1 ∧ stY x.y p f = { x.y with pn := 0, sn := 0, wn := 0, hn := 0 }) := ⟨if_neg (by rw [t]; simp), if_neg (by rw [t]; simp)⟩
  obtain ⟨⟨r0, r1, r2, r3⟩, rf⟩ := B1.out.2.2
  rw [t]
  clear t
  go_wp2
  exact bodyPost_ret (v := .tuple #[sysV none 0 0 none 0 0 none 0 0 none 0 0, .int .i64 1]) (by simp [results, Tryz.results22, go_sem, r0, r1, r2, r3]) rfl ⟨_, by rw [HV.out.1], by rw [HV.out.2]; exact OwnSys.zero _ _ _, (((B1.out.1.setCell hM _).setCell hM _).setCell hM _).setCell hM _⟩
 have HO : Hid x.y.Ok := Sy.ok_of t
 have HC : Hid (∀ wx v, w1.heap.size ≤ wx.heap.size → OwnSys true wx w1.heap.size x.y v → Calls Tryz.prog 74 #[v, .int .i64 p, .int .i64 f] wx fun e w' => e = .returned (.tuple #[v, .int .i64 (stC x.y p f)]) ∧ Below w1.heap.size wx w' ∧ OwnSys true w' w1.heap.size (stY x.y p f) v) := by
  show ∀ wx v, _
  intro wx v hwx o
  have hc4 : x.y.pn ≤ 4 := HO.out.cn.1.2
  by_cases hb : belB p x.y.pn = true
  ·have hb' : 0 ≤ p ∧ p < (x.y.pn : Int) := by simpa [belB] using hb
   obtain ⟨k, rfl⟩ : ∃ k : Nat, p = k := ⟨p.toNat, by omega⟩
   rw [stC, if_pos t, if_pos hb, stY, if_pos t, if_pos hb]
   exact l5Step_any x.y k f wx _ v o (by omega) HO.out
  ·rw [stC, if_pos t, if_neg hb, stY, if_pos t, if_neg hb]
   exact l5Step_out x.y p f wx _ v o hwx (by omega) (by
    simp only [inB, decide_eq_false_iff_not]
    simp only [belB, decide_eq_true_eq] at hb
    omega)
 have HZ : Hid (stC x.y p f ≠ 0 → stY x.y p f = x.y) := fun h => by
  rw [stC, if_pos t] at h
  rw [stY, if_pos t]
  by_cases hb : belB p x.y.pn = true
  ·rw [if_pos hb] at h ⊢
   exact Sy.step_no h
  ·rw [if_neg hb]
 rw [t]
 clear t
 go_wp2_with fail
 refine (HC4.out w1 B1.out.1).mono ?_
 rintro e w3 ⟨v3, rfl, o3, q3⟩
 obtain ⟨pa, pc, sa, sc, wa, wc, ha, hc, rfl⟩ := o3.form
 have HC' := HC.out w3 _ q3.size o3
 clear HC
 generalize hC : stC x.y p f = C at *
 generalize hY : stY x.y p f = Y at *
 go_wp2_with fail
 refine HC'.mono ?_
 rintro e w5 ⟨rfl, q5, o5⟩
 have Q5 : Below w1.heap.size w1 w5 := q3.trans q5
 have B5 : Hid (Below w.heap.size w w5 ∧ BoxC w5 w.heap.size (.slice x.pa x.pn x.pc) (.slice x.sa x.sn x.sc) (.slice x.wa x.wn x.wc) (.slice x.ha x.hn x.hc) ∧ BoxC w5 (w.heap.size + 1) (.slice none 0 0) (.slice none 0 0) (.slice none 0 0) (.slice none 0 0) ∧ (∀ j, w5.frozen? ⟨w.heap.size + 1, j, none⟩ = false) ∧ w1.heap.size ≤ w5.heap.size ∧ OwnSys true w5 w1.heap.size Y (sysV pa x.y.pn pc sa x.y.sn sc wa x.y.wn wc ha x.y.hn hc)) := ⟨B1.out.1.trans (Q5.mono B1.out.1.size), B1.out.2.1.below Q5, B1.out.2.2.1.below Q5, fun j => ((bcell Q5).2 _ j l1).trans (B1.out.2.2.2 j), Q5.size, o5⟩
 clear o3 q3 q5 o5 Q5 HC' B1 b0 b1 b2 b3
 obtain ⟨b0, b1, b2, b3⟩ := B5.out.2.1
 obtain ⟨r0, r1, r2, r3⟩ := B5.out.2.2.1
 have rf := B5.out.2.2.2.1
 have l5 : w.heap.size + 1 < w5.heap.size := World.block_lt_of_cell? _ _ r0
 have l50 : w.heap.size < w5.heap.size := by omega
 by_cases hc0 : C = 0
 ·subst hc0
  go_wp2
  exact bodyPost_ret (v := .tuple #[sysV pa x.y.pn pc sa x.y.sn sc wa x.y.wn wc ha x.y.hn hc, .int .i64 0]) (by simp [results, Tryz.results22, go_sem, r0, r1, r2, r3, l5]) rfl ⟨_, by rw [hC], by
   rw [hY]
   exact (((((B5.out.2.2.2.2.2.setBelow l1 0 _).setBelow l1 1 _).setBelow l1 2 _).setBelow l1 3 _).below (below_allocL _ _)).base (by omega), ((((B5.out.1.setCell hM _).setCell hM _).setCell hM _).setCell hM _).trans ((below_allocL _ _).mono (by simp; omega))⟩
 ·have tc : (C == 0) = false := by simpa using hc0
  go_wp2_with fail
  refine (HC4.out _ (B5.out.1.trans ((below_allocL _ _).mono (Nat.le_of_lt l50)))).mono ?_
  rintro e w7 ⟨v7, rfl, o7, q7⟩
  obtain ⟨pa7, pc7, sa7, sc7, wa7, wc7, ha7, hc7, rfl⟩ := o7.form
  have Q7 : Below w5.heap.size w5 w7 := (below_allocL _ _).trans (q7.mono (by simp))
  have hc := (bcell Q7).1
  replace r0 := (hc _ _ l5).trans r0
  replace r1 := (hc _ _ l5).trans r1
  replace r2 := (hc _ _ l5).trans r2
  replace r3 := (hc _ _ l5).trans r3
  replace rf : ∀ j, w7.frozen? ⟨w.heap.size + 1, j, none⟩ = false := fun j => ((bcell Q7).2 _ j l5).trans (rf j)
  have l7 : w.heap.size + 1 < w7.heap.size := Nat.lt_of_lt_of_le l5 Q7.size
  have B7 : Hid (Below w.heap.size w w7 ∧ OwnSys true w7 w5.heap.size x.y (sysV pa7 x.y.pn pc7 sa7 x.y.sn sc7 wa7 x.y.wn wc7 ha7 x.y.hn hc7)) := ⟨B5.out.1.trans (Q7.mono (Nat.le_of_lt l50)), o7.base (by simp)⟩
  clear o7 q7 Q7 hc B5 b0 b1 b2 b3
  go_wp2
  exact bodyPost_ret (v := .tuple #[sysV pa7 x.y.pn pc7 sa7 x.y.sn sc7 wa7 x.y.wn wc7 ha7 x.y.hn hc7, .int .i64 C]) (by simp [results, Tryz.results22, go_sem, r0, r1, r2, r3]) rfl ⟨_, by rw [hC], by
   rw [hY, HZ.out hc0]
   exact ((((B7.out.2.setBelow l5 0 _).setBelow l5 1 _).setBelow l5 2 _).setBelow l5 3 _).base (by omega), (((B7.out.1.setCell hM _).setCell hM _).setCell hM _).setCell hM _⟩
theorem rp_congr {g : Nat → I5} {len : Nat} {eh eh' : Nat → E3} : ∀ {k : Nat}, (∀ i, i < k → eh' i = eh i) → rp g len eh' k = rp g len eh k
 | 0, _ => rfl
 | k + 1, h => by
  show (rp g len eh' k).bind (rpStep g len (eh' k)) = (rp g len eh k).bind (rpStep g len (eh k))
  rw [rp_congr fun i hi => h i (by omega), h k (by omega)]
theorem plN_congr {eh eh' : Nat → E3} {kd pr : Int} : ∀ {k : Nat}, (∀ i, i < k → eh' i = eh i) → plN eh' kd pr k = plN eh kd pr k
 | 0, _ => rfl
 | k + 1, h => by
  have e := plN_congr (kd := kd) (pr := pr) (k := k) fun i hi => h i (by omega)
  have hh : hitB eh' kd pr k = hitB eh kd pr k := by
   unfold hitB
   rw [h k (by omega)]
  unfold plN
  rw [e, hh]
theorem plN_lt {eh : Nat → E3} {kd pr : Int} : ∀ {k i : Nat}, i ∈ plN eh kd pr k → i < k
 | 0, i, h => by simp [plN] at h
 | k + 1, i, h => by
  unfold plN at h
  split at h
  ·simp only [List.mem_append, List.mem_singleton] at h
   rcases h with h | h
   ·have := plN_lt h
    omega
   ·omega
  ·have := plN_lt h
   omega
theorem valL_congr {eh eh' : Nat → E3} {kd pr : Int} {k : Nat} (h : ∀ i, i < k → eh' i = eh i) : valL eh' kd pr k = valL eh kd pr k := by
 unfold valL
 rw [plN_congr h]
 exact List.map_congr_left fun i hi => by rw [h i (plN_lt hi)]
theorem cnt_congr {eh eh' : Nat → E3} {kd pr : Int} {k : Nat} (h : ∀ i, i < k → eh' i = eh i) : cnt eh' kd pr k = cnt eh kd pr k := by
 unfold cnt
 rw [plN_congr h]
theorem cnt_val (eh : Nat → E3) (kd pr : Int) (k : Nat) : cnt eh kd pr k = (valL eh kd pr k).length := by simp [cnt, valL]
theorem valL_push {eh : Nat → E3} {kd pr : Int} {n : Nat} {x : E3} : valL (fun i => if i = n then x else eh i) kd pr (n + 1) = valL eh kd pr n ++ (if x.k = kd ∧ x.q = pr then [x.v] else []) := by
 have e : valL (fun i => if i = n then x else eh i) kd pr n = valL eh kd pr n := valL_congr fun i hi => by rw [if_neg (by omega)]
 by_cases h : x.k = kd ∧ x.q = pr
 ·have hh : hitB (fun i => if i = n then x else eh i) kd pr n = true := by
   rw [hitB_iff]
   simp only [if_true]
   exact h
  rw [valL_hit hh, e, if_pos h]
  simp
 ·have hh : hitB (fun i => if i = n then x else eh i) kd pr n = false := by
   rcases Bool.eq_false_or_eq_true (hitB (fun i => if i = n then x else eh i) kd pr n) with t | t
   ·rw [hitB_iff] at t
    simp only [if_true] at t
    exact absurd t h
   ·exact t
  rw [valL_not hh, e, if_neg h, List.append_nil]
theorem numL_congr {H H' : Nat → I2} : ∀ {n : Nat}, (∀ i, i < n → H' i = H i) → numL H' n = numL H n
 | 0, _ => rfl
 | n + 1, h => by
  unfold numL
  rw [numL_congr fun i hi => h i (by omega), h n (by omega)]
theorem numL_push (H : Nat → I2) (n : Nat) (v : Int) : numL (fun i => if i = n then ⟨false, v⟩ else H i) (n + 1) = numL H n ++ [v] := by
 rw [numL_hit (by simp)]
 rw [numL_congr (H := H) fun i hi => by rw [if_neg (by omega)]]
 simp
theorem numL_first {H : Nat → I2} (h0 : (H 0).m = false) : ∀ n, numL H (n + 1) = (H 0).v :: numL (fun i => H (i + 1)) n
 | 0 => by rw [numL_hit h0]; rfl
 | n + 1 => by
  rw [numL]
  rw [numL_first h0 n]
  conv => rhs; rw [numL]
  split <;> simp
theorem Hs.Put.more {x x' : Hs} (hn : x'.n = x.n) (hl : ∀ j, x.l j ≤ x'.l j) (he : ∀ j i, i < x.l j → x'.e j i = x.e j i) {d : Nat → Nat} (h : x.Put d) : x'.Put d := by
 induction h with
 | start => exact .start
 | next hd hp hc ih =>
  rename_i d p
  refine .next ih (by omega) ⟨Nat.lt_of_lt_of_le hc.1 (hl p), fun hk => ?_⟩
  have e := he p (d p) hc.1
  rw [e] at hk ⊢
  have hle := hd.le
  rw [cnt_congr (fun i hi => he p i (Nat.lt_trans hi hc.1)), cnt_congr (fun i hi => he _ i (Nat.lt_of_lt_of_le hi (hle _)))]
  exact hc.2 hk
theorem way_inj {a b p q n : Nat} (hb : b < n) (hq : q < n) (h : a * n + b = p * n + q) : a = p ∧ b = q := by
 have h1 : (a * n + b) / n = a := by rw [Nat.mul_comm, Nat.mul_add_div (by omega), Nat.div_eq_of_lt hb, Nat.add_zero]
 have h2 : (p * n + q) / n = p := by rw [Nat.mul_comm, Nat.mul_add_div (by omega), Nat.div_eq_of_lt hq, Nat.add_zero]
 have h3 : a = p := by rw [← h1, ← h2, h]
 subst h3
 exact ⟨rfl, by omega⟩
theorem same_way {a b p q n : Nat} (h1 : a = p) (h2 : q = b) : a * n + b = p * n + q := by rw [h1, h2]
theorem Sy.Ok.next {y : Sy} (h : y.Ok) {p : Nat} (hp : p < y.pn) (hc : (y.sS p).c = 0) : (y.nk p = 1 ∨ y.nk p = 2 ∨ y.nk p = 3 ∨ y.nk p = 4) ∧ (y.nk p ≠ 2 → y.nk p ≠ 3 → y.nq p = 0) ∧ (y.nk p = 2 → numB (y.nv p) = true) := by
 have hr := h.right hp hc
 rw [← hc] at hr
 have e1 : y.nk p = evK (y.pH p (y.sS p).p.toNat).o := if_pos hr
 have e2 : y.nq p = evP (y.pH p (y.sS p).p.toNat).o (y.pH p (y.sS p).p.toNat).n := if_pos hr
 have e3 : y.nv p = evW (y.pH p (y.sS p).p.toNat).o (y.pH p (y.sS p).p.toNat).a (y.sS p).rs := if_pos hr
 obtain ⟨hpr, hs, -⟩ := right_parts hr
 obtain ⟨⟨a1, a2, a3, a4, ers, n1, n2, n3, n4⟩, ⟨k, ek, hk⟩, -, -⟩ := st_parts hs
 have ek' : (y.sS p).p.toNat = k := by omega
 obtain ⟨-, -, ⟨m0, m3⟩, -⟩ := ins_range (right_ins hpr hk)
 rw [ek'] at e1 e2 e3
 refine ⟨?_, ?_, ?_⟩
 ·rw [e1]
  unfold evK
  split
  ·exact .inr (.inl rfl)
  ·split
   ·exact .inr (.inr (.inl rfl))
   ·split
    ·exact .inr (.inr (.inr rfl))
    ·exact .inl rfl
 ·intro h2 h3
  rw [e1] at h2 h3
  rw [e2]
  unfold evK at h2 h3
  unfold evP
  by_cases e6 : (y.pH p k).o = 6
  ·rw [if_pos e6] at h2
   exact absurd rfl h2
  ·rw [if_neg e6] at h3 ⊢
   by_cases e7 : (y.pH p k).o = 7
   ·rw [if_pos e7] at h3
    exact absurd rfl h3
   ·rw [if_neg e7]
 ·intro h2
  rw [e1] at h2
  rw [e3, ers]
  have e6 : (y.pH p k).o = 6 := by
   unfold evK at h2
   by_cases e6 : (y.pH p k).o = 6
   ·exact e6
   ·rw [if_neg e6] at h2
    split at h2
    ·cases h2
    ·split at h2 <;> cases h2
  unfold evW
  rw [if_pos e6]
  obtain ⟨j, ej⟩ : ∃ j : Nat, (y.pH p k).a = j := ⟨(y.pH p k).a.toNat, by omega⟩
  have hj : (y.pH p k).a.toNat < 4 := by omega
  match (y.pH p k).a.toNat, hj with
  | 0, _ => exact n1
  | 1, _ => exact n2
  | 2, _ => exact n3
  | 3, _ => exact n4
structure Sy.Done (y : Sy) (p : Nat) (f : Int) : Prop where
 run : (y.sS p).c = 0
 room : y.hL p < 200
 peer : 0 ≤ y.eq p f ∧ y.eq p f < (y.pn : Int)
 send : y.nk p = 2 → y.wL (p * y.pn + (y.eq p f).toNat) < 12 ∧ numB (y.ev p f) = true
 take : y.nk p = 3 → 0 < y.wL ((y.eq p f).toNat * y.pn + p) ∧ (y.wH ((y.eq p f).toNat * y.pn + p) 0).m = false ∧ (y.wH ((y.eq p f).toNat * y.pn + p) 0).v = y.ev p f ∧ numB (y.ev p f) = true
 can : doB (y.pH p) (y.pL p) (y.sS p).p (y.sS p).rs (y.sS p).os (y.sS p).c (y.nk p) (y.eq p f) (y.ev p f) = true
theorem Sy.Ok.done {y : Sy} (h : y.Ok) {p : Nat} (hp : p < y.pn) {f : Int} (hc : cmS y p f = 0) : y.Done p f := by
 unfold cmS at hc
 have h4 : y.pn ≤ 4 := h.cn.1.2
 have h1 : 1 ≤ y.pn := h.cn.1.1
 by_cases c0 : (y.sS p).c = 0
 case neg =>
  rw [if_pos c0] at hc
  cases hc
 rw [if_neg (by simpa using c0)] at hc
 by_cases c1 : fuS y p (y.nk p) (y.nq p) = true
 ·rw [if_pos c1] at hc
  cases hc
 rw [if_neg c1] at hc
 have hfu : y.hL p < 200 ∧ (y.nk p = 2 → y.wL (p * y.pn + (y.nq p).toNat) < 12) := by
  simp only [fuS, Bool.or_eq_true, decide_eq_true_eq, Bool.and_eq_true, beq_iff_eq, not_or, not_and] at c1
  exact ⟨by omega, fun h2 => by have := c1.2 h2; omega⟩
 obtain ⟨hk, hq0, hnv⟩ := h.next hp c0
 by_cases k3 : y.nk p = 3
 ·rw [if_pos k3] at hc
  have eQ : y.eq p f = if y.nq p = 9 then f else y.nq p := if_pos k3
  rw [← eQ] at hc
  have eV : y.ev p f = (y.wH ((y.eq p f).toNat * y.pn + p) 0).v := if_pos k3
  unfold tkS at hc
  by_cases b : belB (y.eq p f) y.pn = true
  case neg =>
   rw [if_neg b] at hc
   cases hc
  rw [if_pos b] at hc
  have hb : 0 ≤ y.eq p f ∧ y.eq p f < (y.pn : Int) := by simpa [belB] using b
  by_cases w0 : y.wL ((y.eq p f).toNat * y.pn + p) = 0
  ·rw [if_pos w0] at hc
   cases hc
  rw [if_neg w0] at hc
  by_cases m0 : (y.wH ((y.eq p f).toNat * y.pn + p) 0).m = true
  ·rw [if_pos m0] at hc
   cases hc
  have hv : numB (y.ev p f) = true := by
   have := (h.wa (y.eq p f).toNat (by omega) p hp).it 0 (by omega)
   simp only [itemB, Bool.and_eq_true] at this
   rw [eV]
   exact this.1
  refine ⟨c0, hfu.1, hb, (fun h2 => by rw [k3] at h2; cases h2), fun _ => ⟨by omega, by simpa using m0, eV.symm, hv⟩, ?_⟩
  have e3 : nxK (y.pH p) (y.pL p) (y.sS p).p (y.sS p).rs (y.sS p).os (y.sS p).c = 3 := k3
  unfold doB canB
  rw [if_pos e3, k3, hv]
  simp only [beq_self_eq_true, Bool.true_and]
  by_cases e9 : y.nq p = 9
  ·have e9' : nxP (y.pH p) (y.pL p) (y.sS p).p (y.sS p).rs (y.sS p).os (y.sS p).c = 9 := e9
   rw [if_pos e9']
   simp only [belB, decide_eq_true_eq]
   omega
  ·have e9' : ¬ nxP (y.pH p) (y.pL p) (y.sS p).p (y.sS p).rs (y.sS p).os (y.sS p).c = 9 := e9
   rw [if_neg e9', eQ, if_neg e9]
   simp [Sy.nq]
 ·have eQ : y.eq p f = y.nq p := if_neg k3
  have eV : y.ev p f = y.nv p := if_neg k3
  have hpe : 0 ≤ y.nq p ∧ y.nq p < (y.pn : Int) := by
   by_cases k2 : y.nk p = 2
   ·exact h.peer hp k2
   ·rw [hq0 k2 k3]
    omega
  refine ⟨c0, hfu.1, by rw [eQ]; exact hpe, fun h2 => ⟨by rw [eQ]; exact hfu.2 h2, by rw [eV]; exact hnv h2⟩, fun h3 => absurd h3 k3, ?_⟩
  have e3 : ¬ nxK (y.pH p) (y.pL p) (y.sS p).p (y.sS p).rs (y.sS p).os (y.sS p).c = 3 := k3
  have e0 : y.nk p ≠ 0 := by omega
  unfold doB canB
  rw [if_neg e3, eQ, eV]
  simp only [Bool.and_eq_true, bne_iff_ne, beq_iff_eq]
  exact ⟨e0, rfl, rfl, rfl⟩
theorem Sy.Ok.step {y : Sy} (h : y.Ok) {p : Nat} (hp : p < y.pn) {f : Int} (hc : cmS y p f = 0) : (y.step p f).Ok := by
 have D := h.done hp hc
 have e : y.step p f = (y.way p (y.nk p) (y.eq p f) (y.ev p f)).evt p (y.nk p) (y.eq p f) (y.ev p f) := if_pos hc
 rw [e]
 obtain ⟨q, hq⟩ : ∃ q : Nat, y.eq p f = q := ⟨(y.eq p f).toNat, by have := D.peer; omega⟩
 have hqn : q < y.pn := by have := D.peer; omega
 have D' := D
 obtain ⟨run, room, peer, send, take, can⟩ := D
 rw [hq, Int.toNat_natCast] at send take
 rw [hq] at can ⊢
 generalize hV : y.ev p f = V at *
 obtain ⟨kk, -, -⟩ := h.next hp run
 generalize hK : y.nk p = K at *
 clear hV hK e hc hq peer D'
 -- what happened to each, now
 have hH : ∀ a kd pr, valL (((y.way p K q V).evt p K q V).hH a) kd pr (((y.way p K q V).evt p K q V).hL a) = valL (y.hH a) kd pr (y.hL a) ++ (if a = p ∧ K = kd ∧ (q : Int) = pr then [V] else []) := by
  intro a kd pr
  show valL (if a = p then (fun i => if i = y.hL p then (⟨K, q, V⟩ : E3) else y.hH p i) else y.hH a) kd pr (if a = p then y.hL p + 1 else y.hL a) = _
  by_cases ea : a = p
  ·subst ea
   simp only [if_true, true_and]
   exact valL_push
  ·rw [if_neg ea, if_neg ea, if_neg (fun h => ea h.1), List.append_nil]
 refine ⟨h.cn, h.pr, fun a ha => ?_, fun a ha i hi => ?_, fun a ha b hb => ?_, ?_⟩
 ·show repO (y.pH a) (y.pL a) (if a = p then (fun i => if i = y.hL p then (⟨K, q, V⟩ : E3) else y.hH p i) else y.hH a) (if a = p then y.hL p + 1 else y.hL a) = some (if a = p then doS (y.pH p) (y.pL p) (y.sS p).p (y.sS p).rs (y.sS p).os (y.sS p).c K q V else y.sS a)
  by_cases ea : a = p
  ·subst ea
   simp only [if_true]
   have h0 := repO_some (h.rp a hp)
   unfold repO
   rw [if_pos ⟨h0.1, by omega⟩]
   have hr : Go.Proofs.YtbleeedbiipfnaaGreatDoor.rp (y.pH a) (y.pL a) (fun i => if i = y.hL a then (⟨K, q, V⟩ : E3) else y.hH a i) (y.hL a) = some (y.sS a) := (rp_congr fun i hi => by rw [if_neg (by omega)]).trans h0.2.2
   have := rp_yes hr (by simpa using can)
   simpa using this
  ·rw [if_neg ea, if_neg ea, if_neg ea]
   exact h.rp a ha
 ·have hi' : i < (if a = p then y.hL p + 1 else y.hL a) := hi
  show ((if a = p then (fun i => if i = y.hL p then (⟨K, q, V⟩ : E3) else y.hH p i) else y.hH a) i).q < (y.pn : Int)
  by_cases ea : a = p
  ·subst ea
   simp only [if_true] at hi' ⊢
   by_cases ei : i = y.hL a
   ·rw [if_pos ei]
    show (q : Int) < _
    omega
   ·rw [if_neg ei]
    exact h.pe a hp i (by omega)
  ·rw [if_neg ea] at hi' ⊢
   exact h.pe a ha i hi'
 ·have wab := h.wa a ha b hb
  rw [hH b 3 a, hH a 2 b]
  show WayP (((y.way p K q V)).wH (a * y.pn + b)) ((y.way p K q V).wL (a * y.pn + b)) _ _
  by_cases k2 : K = 2
  ·subst k2
   rw [Sy.way_send, if_neg (fun h => by have := h.2.1; omega), List.append_nil]
   show WayP (if a * y.pn + b = p * y.pn + q then (fun i => if i = y.wL (p * y.pn + q) then ⟨false, V⟩ else y.wH (p * y.pn + q) i) else y.wH (a * y.pn + b)) (if a * y.pn + b = p * y.pn + q then y.wL (p * y.pn + q) + 1 else y.wL (a * y.pn + b)) _ _
   by_cases ew : a * y.pn + b = p * y.pn + q
   ·obtain ⟨rfl, rfl⟩ := way_inj hb hqn ew
    simp only [if_true]
    rw [if_pos ⟨trivial, trivial, trivial⟩]
    obtain ⟨s1, s2⟩ := send rfl
    refine ⟨fun i hi => ?_, by omega, ?_⟩
    ·by_cases ei : i = y.wL (a * y.pn + b)
     ·rw [if_pos ei]
      simp [itemB, s2]
     ·rw [if_neg ei]
      exact wab.it i (by omega)
    ·rw [numL_push, ← List.append_assoc, wab.eq]
   ·rw [if_neg ew, if_neg ew, if_neg (fun h => ew (same_way h.1 (Int.ofNat_inj.1 h.2.2))), List.append_nil]
    exact wab
  ·by_cases k3 : K = 3
   ·subst k3
    rw [Sy.way_take, if_neg (c := a = p ∧ (3 : Int) = 2 ∧ _) (fun h => by have := h.2.1; omega), List.append_nil]
    show WayP (if a * y.pn + b = q * y.pn + p then (fun i => y.wH (q * y.pn + p) (i + 1)) else y.wH (a * y.pn + b)) (if a * y.pn + b = q * y.pn + p then y.wL (q * y.pn + p) - 1 else y.wL (a * y.pn + b)) _ _
    by_cases ew : a * y.pn + b = q * y.pn + p
    ·obtain ⟨rfl, rfl⟩ := way_inj hb hp ew
     simp only [if_true]
     rw [if_pos ⟨trivial, trivial, trivial⟩]
     obtain ⟨t1, t2, t3, -⟩ := take rfl
     obtain ⟨m, em⟩ : ∃ m, y.wL (a * y.pn + b) = m + 1 := ⟨y.wL (a * y.pn + b) - 1, by omega⟩
     have weq := wab.eq
     have wle := wab.le
     have wit := wab.it
     rw [em] at weq wle wit ⊢
     rw [Nat.add_sub_cancel]
     refine ⟨fun i hi => wit (i + 1) (by omega), by omega, ?_⟩
     rw [numL_first t2, t3] at weq
     rw [List.append_assoc]
     exact weq
    ·rw [if_neg ew, if_neg ew, if_neg (fun h => ew (same_way (Int.ofNat_inj.1 h.2.2).symm h.1.symm)), List.append_nil]
     exact wab
   ·rw [Sy.way_no y p k2 k3, if_neg (fun h => k3 h.2.1), if_neg (fun h => k2 h.2.1), List.append_nil, List.append_nil]
    exact wab
 ·obtain ⟨d, hd, hall⟩ := h.ro
  have hd' : ((y.way p K q V).evt p K q V).hs.Put d := by
   refine Hs.Put.more (x := y.hs) (x' := ((y.way p K q V).evt p K q V).hs) rfl (fun j => ?_) (fun j i hi => ?_) hd
   ·show y.hL j ≤ if j = p then y.hL p + 1 else y.hL j
    by_cases ej : j = p
    ·rw [if_pos ej, ej]; omega
    ·rw [if_neg ej]; exact Nat.le_refl _
   ·have hi' : i < y.hL j := hi
    show (if j = p then (fun i => if i = y.hL p then (⟨K, q, V⟩ : E3) else y.hH p i) else y.hH j) i = y.hH j i
    by_cases ej : j = p
    ·subst ej
     rw [if_pos rfl, if_neg (by omega)]
    ·rw [if_neg ej]
  have hdp : d p = y.hL p := hall p hp
  have epH : ∀ a, a ≠ p → ((y.way p K q V).evt p K q V).hs.e a = y.hH a := fun a ha => by
   show (if a = p then _ else y.hH a) = _
   rw [if_neg ha]
  have epp : ((y.way p K q V).evt p K q V).hs.e p = fun i => if i = y.hL p then (⟨K, q, V⟩ : E3) else y.hH p i := by
   show (if p = p then _ else y.hH p) = _
   rw [if_pos rfl]
   rfl
  have elp : ((y.way p K q V).evt p K q V).hs.l p = y.hL p + 1 := by
   show (if p = p then _ else y.hL p) = _
   rw [if_pos rfl]
   rfl
  have ece : ∀ a kd pr, a < y.pn → cnt (((y.way p K q V).evt p K q V).hs.e a) kd pr (d a) = (valL (y.hH a) kd pr (y.hL a)).length := fun a kd pr ha => by
   have hda : d a = y.hL a := hall a ha
   rw [hda, ← cnt_val]
   refine cnt_congr fun i hi => ?_
   by_cases ea : a = p
   ·subst ea
    rw [epp]
    show (if i = y.hL a then (⟨K, q, V⟩ : E3) else y.hH a i) = y.hH a i
    rw [if_neg (by omega)]
   ·rw [epH a ea]
  refine ⟨up d p, .next hd' hp ⟨by rw [elp, hdp]; omega, fun hk => ?_⟩, fun a ha => ?_⟩
  ·have ee : ((y.way p K q V).evt p K q V).hs.e p (d p) = ⟨K, q, V⟩ := by rw [epp, hdp]; exact if_pos rfl
   rw [ee] at hk ⊢
   have hk' : K = 3 := hk
   show cnt _ 3 (q : Int) _ < cnt (((y.way p K q V).evt p K q V).hs.e (q : Int).toNat) 2 p (d (q : Int).toNat)
   rw [Int.toNat_natCast, ece p 3 q hp, ece q 2 p hqn]
   obtain ⟨t1, t2, -⟩ := take hk'
   obtain ⟨m, em⟩ : ∃ m, y.wL (q * y.pn + p) = m + 1 := ⟨y.wL (q * y.pn + p) - 1, by omega⟩
   have weq := (h.wa q hqn p hp).eq
   rw [em, numL_first t2] at weq
   have := congrArg List.length weq
   simp only [List.length_append, List.length_cons] at this
   omega
  ·have hda : d a = y.hL a := hall a ha
   by_cases ea : a = p
   ·subst ea
    rw [up_same, elp, hdp]
   ·rw [up_other ea, hda]
    show y.hL a = if a = p then _ else y.hL a
    rw [if_neg ea]
def SysT (w : World) (B T : Nat) (y : Sy) (v : Value) : Prop := ∃ c vp vs vw vh up us uw uh, v = .agg #[vp, vs, vw, vh] ∧ OwnS false w B c y vp vs vw vh up us uw uh ∧ ∀ b, T ≤ b → c b = 0
theorem OwnS.sysT {z : Bool} {w : World} {B : Nat} {c : Nat → Nat} {y : Sy} {vp vs vw vh : Value} {up us uw uh : Nat → Value} (o : OwnS z w B c y vp vs vw vh up us uw uh) : SysT w B w.heap.size y (.agg #[vp, vs, vw, vh]) := by
 have o := o.weak
 have h : ∀ i k, Cl B c i k → k < w.heap.size → Cl B (fun b => if b < w.heap.size then c b else 0) i k := fun i k hk hl => ⟨hk.1, by
  show (if k < w.heap.size then c k else 0) = i
  rw [if_pos hl]
  exact hk.2⟩
 exact ⟨fun b => if b < w.heap.size then c b else 0, vp, vs, vw, vh, up, us, uw, uh, rfl, ⟨o.p.mono (h 1), o.s.mono (h 2), o.t.mono (h 3), o.h.mono (h 4)⟩, fun b hb => if_neg (by omega)⟩
theorem OwnSys.sysT {z : Bool} {w : World} {B : Nat} {y : Sy} {v : Value} (o : OwnSys z w B y v) : SysT w B w.heap.size y v := by
 obtain ⟨c, vp, vs, vw, vh, up, us, uw, uh, rfl, o⟩ := o
 exact OwnS.sysT o
theorem Own1.sysT {w : World} {B T n : Nat} {L : Nat → Nat} {H : Nat → Nat → I5} {vp vs vw vh : Value} (o : Own1 w B T n L H vp vs vw vh) : SysT w B w.heap.size (nwY n L H) (.agg #[vp, vs, vw, vh]) := by
 obtain ⟨c, up, us, o⟩ := o.s
 exact OwnS.sysT o
theorem SysT.keep {w w' : World} {B T : Nat} {y : Sy} {v : Value} (o : SysT w B T y v) (h : ∀ b, B ≤ b → b < T → b < w.heap.size → w'.heap[b]? = w.heap[b]?) : SysT w' B T y v := by
 obtain ⟨c, vp, vs, vw, vh, up, us, uw, uh, e, o, ht⟩ := o
 have key : ∀ i, i ≠ 0 → ∀ k, Cl B c i k → k < w.heap.size → w'.heap[k]? = w.heap[k]? := fun i hi k hk hl => h k hk.1 (by
  apply Classical.byContradiction
  intro hn
  have h1 := ht k (by omega)
  have h2 : c k = i := hk.2
  omega) hl
 exact ⟨c, vp, vs, vw, vh, up, us, uw, uh, e, ⟨o.p.keep (key 1 (by decide)), o.s.keep (key 2 (by decide)), o.t.keep (key 3 (by decide)), o.h.keep (key 4 (by decide))⟩, ht⟩
theorem SysT.below {w w' : World} {B T : Nat} {y : Sy} {v : Value} (o : SysT w B T y v) (hb : Below w.heap.size w w') : SysT w' B T y v := o.keep fun b _ _ hl => hb.block b hl
theorem SysT.base {w : World} {B B' T : Nat} {y : Sy} {v : Value} (o : SysT w B T y v) (h : B' ≤ B) : SysT w B' T y v := by
 obtain ⟨c, vp, vs, vw, vh, up, us, uw, uh, e, o, ht⟩ := o
 exact ⟨c, vp, vs, vw, vh, up, us, uw, uh, e, ⟨o.p.mono fun _ q _ => ⟨Nat.le_trans h q.1, q.2⟩, o.s.mono fun _ q _ => ⟨Nat.le_trans h q.1, q.2⟩, o.t.mono fun _ q _ => ⟨Nat.le_trans h q.1, q.2⟩, o.h.mono fun _ q _ => ⟨Nat.le_trans h q.1, q.2⟩⟩, ht⟩
theorem SysT.top {w : World} {B T T' : Nat} {y : Sy} {v : Value} (o : SysT w B T y v) (h : T ≤ T') : SysT w B T' y v := by
 obtain ⟨c, vp, vs, vw, vh, up, us, uw, uh, e, o, ht⟩ := o
 exact ⟨c, vp, vs, vw, vh, up, us, uw, uh, e, o, fun b hb => ht b (by omega)⟩
theorem cap_own {w : World} {B sz n : Nat} {e : TypeId} {u : Value} {xs : List Value} (o : w.ownsRow B e sz u n xs) : n ≤ cpOf u := by
 rcases o.2 with ⟨rfl, h⟩ | ⟨g, cap, cur, rfl, _, _, hnc, _⟩
 ·rw [h]; exact Nat.zero_le _
 ·exact hnc
structure SysX (w : World) (B T : Nat) (x : SysIn) : Prop where
 g : ∀ w', (∀ b, B ≤ b → b < T → b < w.heap.size → w'.heap[b]? = w.heap[b]?) → SysG w' x
 cap : ∀ i, i < x.hn → x.hL i ≤ x.hC i
 nn : x.Nn false
theorem SysT.x {w : World} {B T : Nat} {y : Sy} {v : Value} (o : SysT w B T y v) : ∃ x : SysIn, v = x.v ∧ x.y = y ∧ SysX w B T x := by
 obtain ⟨c, vp, vs, vw, vh, up, us, uw, uh, rfl, o, ht⟩ := o
 refine ⟨y.sysIn vp vs vw vh up us uw uh, o.v.symm, rfl, fun w' h => ?_, fun i hi => cap_own (o.h.own i hi), o.nf⟩
 have key : ∀ i, i ≠ 0 → ∀ k, Cl B c i k → k < w.heap.size → w'.heap[k]? = w.heap[k]? := fun i hi k hk hl => h k hk.1 (by
  apply Classical.byContradiction
  intro hn
  have h1 := ht k (by omega)
  have h2 : c k = i := hk.2
  omega) hl
 exact OwnS.g (z := false) (B := B) (c := c) ⟨o.p.keep (key 1 (by decide)), o.s.keep (key 2 (by decide)), o.t.keep (key 3 (by decide)), o.h.keep (key 4 (by decide))⟩
theorem SysX.abv {w w' : World} {B T c : Nat} {x : SysIn} (h : SysX w B T x) (hc : c < B) (ha : Abv c w w') : SysG w' x := h.g w' fun b hb _ hl => ha.2 b (by omega) hl
theorem SysX.self {w : World} {B T : Nat} {x : SysIn} (h : SysX w B T x) : SysG w x := h.g w fun _ _ _ _ => rfl
theorem Sy.Sm.inLen {x : SysIn} (h : x.y.Sm) : x.Len := by
 obtain ⟨⟨h1, h2, h3, h4⟩, hp, hs, hw, hh⟩ := h
 have h1' : x.pn ≤ 16 := h1
 have h2' : x.sn ≤ 16 := h2
 have h3' : x.wn ≤ 16 := h3
 have h4' : x.hn ≤ 16 := h4
 refine ⟨⟨by omega, fun i hi => ?_⟩, ⟨by omega, fun i hi => ?_⟩, ⟨by omega, fun i hi => ?_⟩, ⟨by omega, fun i hi => ?_⟩⟩
 ·have : x.pL i ≤ 1000 := hp i hi
  omega
 ·have : (x.sQ i).rs.length ≤ 1000 ∧ (x.sQ i).os.length ≤ 1000 := hs i hi
  omega
 ·have : x.wL i ≤ 1000 := hw i hi
  omega
 ·have : x.hL i ≤ 1000 := hh i hi
  omega
def Sy.Good (y : Sy) : Prop := y.Ok ∨ (y.pn = 0 ∧ y.sn = 0 ∧ y.wn = 0 ∧ y.hn = 0)
theorem Sy.Good.sm {y : Sy} (h : y.Good) : y.Sm := by
 rcases h with h | ⟨h1, h2, h3, h4⟩
 ·exact h.sm
 ·exact ⟨by omega, fun i hi => by omega, fun i hi => by omega, fun i hi => by omega, fun i hi => by omega⟩
theorem Sy.Good.step {y : Sy} (_h : y.Good) {p f : Int} (hc : stC y p f = 0) : (stY y p f).Good := by
 unfold stC at hc
 unfold stY
 by_cases ho : y.okB = true
 ·rw [if_pos ho] at hc ⊢
  by_cases hb : belB p y.pn = true
  ·rw [if_pos hb] at hc ⊢
   have hb' : 0 ≤ p ∧ p < (y.pn : Int) := by simpa [belB] using hb
   exact .inl ((Sy.ok_of ho).step (by omega) hc)
  ·rw [if_neg hb] at hc
   cases hc
 ·rw [if_neg ho] at hc
  cases hc
structure DK (w wr : World) (W0 c : Nat) (a0 : Option Addr) (len cap B T : Nat) (y : Sy) (v : Value) : Prop where
 cu : Cur wr W0 c a0 len cap
 sy : SysT wr B T y v
 gr : w.grownBy wr (some c)
 lt : c < B
theorem DK.draw {w wr w' : World} {W0 c : Nat} {a0 : Option Addr} {len cap B T : Nat} {y : Sy} {v : Value} (h : DK w wr W0 c a0 len cap B T y v) (hc : Cur w' W0 c a0 len cap) (hg : wr.grownBy w' (some c)) : DK w w' W0 c a0 len cap B T y v :=
 ⟨hc, h.sy.keep fun b hb _ hl => hg.block b hl (by have := h.lt; simp; omega), h.gr.trans hg, h.lt⟩
theorem DK.below {w wr w' : World} {W0 c : Nat} {a0 : Option Addr} {len cap B T : Nat} {y : Sy} {v : Value} (h : DK w wr W0 c a0 len cap B T y v) (hb : Below wr.heap.size wr w') : DK w w' W0 c a0 len cap B T y v :=
 ⟨h.cu.kept (grown_of_below hb) (by simp) (fun k hk => by cases hk), h.sy.below hb, h.gr.andThen (grown_of_below hb) (fun j hj => by cases hj), h.lt⟩
theorem DK.alloc {w wr : World} {W0 c : Nat} {a0 : Option Addr} {len cap B T : Nat} {y : Sy} {v : Value} (h : DK w wr W0 c a0 len cap B T y v) (o : Obj) : DK w (wr.alloc o) W0 c a0 len cap B T y v := h.below (below_allocL _ _)
theorem DK.set {w wr : World} {W0 c : Nat} {a0 : Option Addr} {len cap B T : Nat} {y : Sy} {v : Value} (h : DK w wr W0 c a0 len cap B T y v) {N : Nat} (hN : w.heap.size ≤ N) (hc : c ≠ N) (hT : N < B ∨ T ≤ N) (hW : W0 ≤ N) (j : Nat) (u : Value) : DK w (wr.setCell ⟨N, j, none⟩ u) W0 c a0 len cap B T y v := by
 have hg : wr.grownBy (wr.setCell ⟨N, j, none⟩ u) (some N) := grown_setCell (World.grownBy.refl _ _) (.inl rfl) u
 exact ⟨h.cu.kept hg (fun e => hc (by simpa using e)) (fun k hk => by cases hk; exact hW), h.sy.keep fun b hb ht hl => hg.block b hl (by simp; omega), h.gr.andThen hg (fun k hk => by cases hk; exact .inl hN), h.lt⟩
end Go.Proofs.YtbleeedbiipfnaaGreatDoor
