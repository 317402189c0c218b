/- ShotDone: the program's and the model's, walked. -/
import Derived.Test.YtdfhpimdgfemjaaGreatDoorLa41
import Derived.Defers
import Derived.Laws.Pointers
import Derived.Laws.LoneSync
import Derived.Test.YtdfhpimdgfemjaaGreatDoorLa42
namespace Go.Proofs.YtdfhpimdgfemjaaGreatDoor
open Go.ChangeShapes Go.WideShapes Go.ChangeAt Go.RowKit Go.Deep

theorem race_disable (w : World) : (callFunc 221 #[]).run Tryz.prog w = .ok (.value (.tuple #[])) w := run_call_mark0 Tryz.func221 (by kernel_rfl) (by kernel_rfl) (by kernel_rfl) .disable (by kernel_rfl) w
theorem race_enable (w : World) : (callFunc 223 #[]).run Tryz.prog w = .ok (.value (.tuple #[])) w := run_call_mark0 Tryz.func223 (by kernel_rfl) (by kernel_rfl) (by kernel_rfl) .enable (by kernel_rfl) w
theorem race_acquire (a : Addr) (w : World) : (callFunc 224 #[.pointer (some a)]).run Tryz.prog w = .ok (.value (.tuple #[])) w := run_call_marked Tryz.func224 (by kernel_rfl) (by kernel_rfl) (by kernel_rfl) .acquire (by kernel_rfl) a w
theorem race_merge (a : Addr) (w : World) : (callFunc 226 #[.pointer (some a)]).run Tryz.prog w = .ok (.value (.tuple #[])) w := run_call_marked Tryz.func226 (by kernel_rfl) (by kernel_rfl) (by kernel_rfl) .releaseMerge (by kernel_rfl) a w

set_option maxRecDepth 100000 in
set_option maxHeartbeats 1000000 in
/-- The lock, free, is taken. -/
theorem lock_any (b off : Nat) (w : World) (h0 : w.cell? ⟨b, off, none⟩ = some (.int .i32 0)) (f0 : w.frozen? ⟨b, off, none⟩ = false) :
    Calls Tryz.prog 146 #[.pointer (some ⟨b, off, none⟩)] w fun e w' => e = .returned (.tuple #[]) ∧ w' = w.setCell ⟨b, off, none⟩ (.int .i32 1) := by
  have hd := race_disable
  have he := race_enable
  have ha := race_acquire
  have hcas := run_call_cas_hit (P := Tryz.prog) Tryz.func222 (by kernel_rfl) (by kernel_rfl) (by kernel_rfl) .i32 (by kernel_rfl) (y := 1) h0 f0
  have h0' : (w.setCell ⟨b, off, none⟩ (.int .i32 1)).cell? ⟨b, off, none⟩ = some (.int .i32 1) := World.cell?_setCell_same _ _ _ h0
  have hcv := run_convert_to_unsafe (P := Tryz.prog) (src := 263) (dst := 267) Tryz.underlying263 Tryz.underlying267 (by kernel_rfl) h0'
  go_enter Tryz.func146, Tryz.ntmps146
  go_wp2
  first | go_end0 | (simp only [Exit.inBlock, Exit.then]; refine bodyPost_ret (results_none rfl _ _ _) rfl ?_) | refine bodyPost_ret (results_none rfl _ _ _) rfl ?_
  go_wp2

set_option maxRecDepth 100000 in
set_option maxHeartbeats 1000000 in
/-- The lock, held, is let go by a deferred call. -/
theorem unlock_deferred (a : Addr) (u : FrameMode) (w : World) (hc : w.cell? a = some (.int .i32 1)) (hz : w.frozen? a = false) :
    CallsD Tryz.prog 147 #[.pointer (some a)] u w fun e u' w' => u' = u ∧ (e = .returned (.tuple #[]) ∧ w' = w.setCell a (.int .i32 0)) := by
  have hd := race_disable
  have he := race_enable
  have hr := race_merge
  have hcv := run_convert_to_unsafe (P := Tryz.prog) (src := 263) (dst := 267) Tryz.underlying263 Tryz.underlying267 (by kernel_rfl) hc
  have hadd := run_call_add (P := Tryz.prog) Tryz.func227 (by kernel_rfl) (by kernel_rfl) (by kernel_rfl) .i32 (by kernel_rfl) (y := -1) (s := 0) hc hz (by simp [go_sem]; rfl)
  go_enter_d Tryz.func147, Tryz.ntmps147
  go_wp2
  go_end0
  go_wp2

/-- Is one of these true? -/
def hasT (h : Nat → Bool) (n : Nat) : Prop := ∃ k, k < n ∧ h k = true

set_option maxRecDepth 100000 in
set_option maxHeartbeats 1000000 in
theorem indexTrue_any (a : Option Addr) (n cap : Nat) (h : Nat → Bool) (w : World) (hn : n ≤ 1048576) (hI : BL w a n h) :
    Calls Tryz.prog 212 #[.slice a n cap, .bool true] w fun e w' => (∃ k : Int, e = .returned (.int .i64 k) ∧ (0 ≤ k ↔ hasT h n)) ∧ w' = w := by
  have hn' : (n : Int) ≤ 1048576 := by omega
  have HI : Hid (BL w a n h) := hI
  clear hI
  go_enter Tryz.func212, Tryz.ntmps212
  go_wp2_with fail
  go_loopw [8] (fun i wr => ∃ j : Nat, j ≤ n ∧ i = .int .i64 j ∧ Hid (∀ k, k < j → h k = false) ∧ wr = w) (fun i _ => n - (intOf i).toNat)
  case atStart => exact ⟨0, Nat.zero_le _, rfl, fun k hk => by omega, rfl⟩
  case round =>
    obtain ⟨j, hj, rfl, HF, rfl⟩ := hrel
    by_cases hlt : j < n
    · have hlt' : (j : Int) < (n : Int) := by omega
      obtain ⟨b, off, rfl, hb, c0⟩ := HI.out.at hlt
      generalize hm : h j = t at *
      have HM : Hid (h j = t) := hm
      clear hm
      cases t
      · go_wp2
        go_roundw
        case rel =>
          refine ⟨j + 1, by omega, by go_num, fun k hk => ?_, by trivial⟩
          by_cases e : k = j
          · subst e; exact HM.out
          · exact HF.out k (by omega)
        case measure => simp [intOf]; omega
      · go_wp2
        go_ret
        exact ⟨⟨_, rfl, ⟨fun _ => ⟨j, hlt, HM.out⟩, fun _ => by omega⟩⟩, rfl⟩
    · have hjn : j = n := by omega
      have HN : Hid (¬ hasT h n) := fun ⟨k, hk, hm⟩ => by
        have := HF.out k (by omega)
        rw [this] at hm
        cases hm
      clear HF
      go_wp2
      go_ret
      exact ⟨⟨_, rfl, ⟨fun h => by omega, fun h => absurd h HN.out⟩⟩, rfl⟩

set_option maxRecDepth 100000 in
set_option maxHeartbeats 1000000 in
theorem hasTrue_any (a : Option Addr) (n cap : Nat) (h : Nat → Bool) (w : World) (hn : n ≤ 1048576) (hI : BL w a n h) :
    Calls Tryz.prog 159 #[.slice a n cap, .bool true] w fun e w' => e = .returned (.bool (pB (hasT h n))) ∧ w' = w := by
  have HC := indexTrue_any a n cap h w hn hI
  clear hI hn
  go_enter Tryz.func159, Tryz.ntmps159
  go_wp2_with fail
  refine HC.mono ?_
  clear HC
  rintro e w1 ⟨⟨k, rfl, hk⟩, e1⟩
  subst e1
  by_cases hm : hasT h n
  · have k0 : k ≥ 0 := hk.2 hm
    have HM : Hid (hasT h n) := hm
    clear hk hm
    go_wp2
    go_ret
    exact ⟨ret_bool (pB_true HM.out).symm, rfl⟩
  · have k0 : ¬ k ≥ 0 := fun h => hm (hk.1 h)
    have HM : Hid (¬ hasT h n) := hm
    clear hk hm
    go_wp2
    go_ret
    exact ⟨ret_bool ((decide_eq_false (by omega)).trans (pB_false HM.out).symm), rfl⟩

theorem BL.over {w0 w w' : World} {a : Option Addr} {n P : Nat} {h : Nat → Bool} (o : BL w0 a n h) (hb : Below w0.heap.size w0 w) (hP : w0.heap.size ≤ P) (g : w.grownBy w' (some P)) : BL w' a n h := by
  rcases o.below hb with h0 | ⟨b, off, e, hlt, hc⟩
  · exact .inl h0
  · rcases o with h0 | ⟨b0, off0, e0, hlt0, -⟩
    · exact .inl h0
    · rw [e] at e0
      simp only [Option.some.injEq, Addr.mk.injEq, and_true] at e0
      obtain ⟨rfl, rfl⟩ := e0
      exact .inr ⟨b, off, e, Nat.lt_of_lt_of_le hlt g.size, hc.blk (g.block b hlt (fun e => by injection e; omega))⟩
theorem setCell_back {w : World} {a : Addr} {u v : Value} (hc : w.cell? a = some v) : ∀ b o, ((w.setCell a u).setCell a v).cell? ⟨b, o, none⟩ = w.cell? ⟨b, o, none⟩ := by
  intro b o
  by_cases e : (⟨b, o, none⟩ : Addr) = a
  · subst e
    rw [World.cell?_setCell_same _ _ _ (World.cell?_setCell_same _ _ _ hc), hc]
  · rw [World.cell?_setCell_other _ _ _ _ (fun h => e h.symm), World.cell?_setCell_other _ _ _ _ (fun h => e h.symm)]

set_option maxRecDepth 100000 in
set_option maxHeartbeats 2000000 in
theorem isDone_any (P : Nat) (v0 : Value) (ca oa : Option Addr) (cn cc ol oc n : Nat) (v3 : Value) (oH : Nat → Bool) (w : World) (h : PicAt w P v0 (.slice ca cn cc) (.slice oa ol oc) v3 n) (hcn : cn ≤ 1048576) (hn : n ≤ 1048576) (hol : ol ≤ 1048576) (hO : ∀ w', w.grownBy w' (some P) → BL w' oa ol oH) :
    Calls Tryz.prog 81 #[.pointer (some ⟨P, 0, none⟩)] w fun e w' => e = .returned (.bool (decide (n = cn) && !pB (hasT oH ol))) ∧ w.grownBy w' (some P) := by
  have HP : Hid (PicAt w P v0 (.slice ca cn cc) (.slice oa ol oc) v3 n) := h
  have hc' : (cn : Int) ≤ 1048576 := by omega
  have hn' : (n : Int) ≤ 1048576 := by omega
  have G1 : Hid (w.grownBy (w.setCell ⟨P, 0, none⟩ (.int .i32 1)) (some P)) := grown_setCell (World.grownBy.refl _ _) (.inl rfl) _
  have HO : Hid (BL (w.setCell ⟨P, 0, none⟩ (.int .i32 1)) oa ol oH) := hO _ G1.out
  have hc0 : ∀ i, 0 ≠ i → (w.setCell ⟨P, 0, none⟩ (.int .i32 1)).cell? ⟨P, i, none⟩ = w.cell? ⟨P, i, none⟩ := fun i hi => World.cell?_setCell_other _ _ _ _ fun e => hi (by injection e)
  have s1 := (hc0 3 (by omega)).trans h.s1
  have s2 := (hc0 4 (by omega)).trans h.s2
  have s6 := (hc0 6 (by omega)).trans h.dr
  have l0 : (w.setCell ⟨P, 0, none⟩ (.int .i32 1)).cell? ⟨P, 0, none⟩ = some (.int .i32 1) := World.cell?_setCell_same _ _ _ h.l0
  have fz : (w.setCell ⟨P, 0, none⟩ (.int .i32 1)).frozen? ⟨P, 0, none⟩ = false := by rw [World.frozen?_setCell]; exact h.fz 0
  clear h hO hc0
  go_enter_defers Tryz.func81, Tryz.ntmps81
  go_wp2_with fail
  refine (lock_any P 0 w HP.out.l0 (HP.out.fz 0)).mono ?_
  rintro e w1 ⟨rfl, rfl⟩
  generalize w.setCell ⟨P, 0, none⟩ (.int .i32 1) = w1 at *
  clear HP
  go_wp2_with fail
  refine (atomLoad_any ⟨P, 6, none⟩ n w1 s6 rfl).mono ?_
  rintro e w2 ⟨rfl, rfl⟩
  by_cases hnc : n = cn
  · have t1 : ((n : Int) == (cn : Int)) = true := by simp [hnc]
    have HNC : Hid (n = cn) := hnc
    clear hnc
    go_wp2_with fail
    refine (hasTrue_any oa ol oc oH w2 hol HO.out).mono ?_
    rintro e w3 ⟨rfl, rfl⟩
    generalize hT : pB (hasT oH ol) = T
    have HT : Hid (pB (hasT oH ol) = T) := hT
    clear hT
    go_wp2
    refine leaves_cons (f := 147) (args := #[.pointer (some ⟨P, 0, none⟩)]) (by simp) (by simp [go_sem]) ?_
    refine (unlock_deferred ⟨P, 0, none⟩ .returning _ l0 fz).mono ?_
    rintro e u' w'' ⟨rfl, rfl, rfl⟩
    refine ⟨_, results_tmp rfl _ _ _, ?_, grown_setCell G1.out (.inl rfl) _⟩
    rw [decide_eq_true HNC.out, HT.out]
    first | rfl | simp
  · have t1 : ((n : Int) == (cn : Int)) = false := by simp; omega
    have HNC : Hid (¬ n = cn) := hnc
    clear hnc
    go_wp2
    refine leaves_cons (f := 147) (args := #[.pointer (some ⟨P, 0, none⟩)]) (by simp) (by simp [go_sem]) ?_
    refine (unlock_deferred ⟨P, 0, none⟩ .returning _ l0 fz).mono ?_
    rintro e u' w'' ⟨rfl, rfl, rfl⟩
    refine ⟨_, results_tmp rfl _ _ _, ?_, grown_setCell G1.out (.inl rfl) _⟩
    rw [decide_eq_false HNC.out]
    rfl

end Go.Proofs.YtdfhpimdgfemjaaGreatDoor

namespace Go.Proofs.YtdfhpimdgfemjaaGreatDoor
open Go.ChangeShapes Go.WideShapes Go.ChangeAt Go.RowKit Go.Deep

/-- A picture is done: the live system is right, everybody is drawn, no way is open. -/
structure ShD (y : Sy) (z : Sh) : Prop where
  l : LvOk y z
  a : cntD z.cH z.cn = z.cn
  o : ¬ hasT z.oH z.ol
theorem cntD_all (h : Nat → Int) : ∀ n, cntD h n = n ↔ ∀ p, p < n → h p ≠ -1
  | 0 => by simp [cntD]
  | n + 1 => by
    have ih := cntD_all h n
    have hl := cntD_le h n
    constructor
    · intro he p hp
      unfold cntD at he
      by_cases h2 : h n = -1
      · rw [if_pos h2] at he
        omega
      · rw [if_neg h2] at he
        by_cases e : p = n
        · subst e; exact h2
        · exact ih.1 (by omega) p (by omega)
    · intro ha
      have h1 := ih.2 fun p hp => ha p (by omega)
      unfold cntD
      rw [if_neg (ha n (by omega)), h1]
theorem LvOk.neg {y : Sy} {z : Sh} (h : LvOk y z) {p : Nat} (hp : p < z.cn) : z.cH p < 0 ↔ z.cH p = -1 := by
  have := h.d p hp
  omega
theorem LvOk.on_of {y : Sy} {z : Sh} (h : LvOk y z) (ha : cntD z.cH z.cn = z.cn) : z.on = true := by
  refine h.o.2 ?_
  show 0 < cntD z.cH z.cn
  have h1 : z.cn = y.pn := h.f.1
  have h2 := (Sy.ok_of h.s).cn.1.1
  omega

set_option maxRecDepth 100000 in
set_option maxHeartbeats 2000000 in
theorem implShotDone_any (x : LvIn) (w : World) (hG : LvG w x) (hL : x.Len) (hV : w.cell? ⟨0, 0, none⟩ = some (.iface 313 (.agg #[.pointer (some ⟨1, 255, none⟩)]))) :
    Calls Tryz.prog 29 #[x.v] w fun e w' => e = .returned (.bool (pB (ShD x.s.y x.h.z))) ∧ Below w.heap.size w w' := by
  have HG : Hid (LvG w x) := hG
  have HL : Hid x.Len := hL
  have HV : Hid (w.cell? ⟨0, 0, none⟩ = some (.iface 313 (.agg #[.pointer (some ⟨1, 255, none⟩)]))) := hV
  have HV0 : Hid (0 < w.heap.size) := World.block_lt_of_cell? w _ hV
  clear hG hL hV
  have X0 : Hid (LvX w (w.alloc (.cells #[.slice x.s.pa x.s.pn x.s.pc, .slice x.s.sa x.s.sn x.s.sc, .slice x.s.wa x.s.wn x.s.wc, .slice x.s.ha x.s.hn x.s.hc, .bool x.h.on, .slice x.h.ca x.h.cn x.h.cc, .slice x.h.oa x.h.ol x.h.oc, .slice x.h.ka x.h.kn x.h.kc] 41)) x) := LvX.new _ _ _
  go_enter Tryz.func29, Tryz.ntmps29
  go_wp2_with fail
  generalize w.alloc (.cells #[.slice x.s.pa x.s.pn x.s.pc, .slice x.s.sa x.s.sn x.s.sc, .slice x.s.wa x.s.wn x.s.wc, .slice x.s.ha x.s.hn x.s.hc, .bool x.h.on, .slice x.h.ca x.h.cn x.h.cc, .slice x.h.oa x.h.ol x.h.oc, .slice x.h.ka x.h.kn x.h.kc] 41) = wA at *
  refine (implLiveOk_any x wA (HG.out.below X0.out.1) HL.out ((X0.out.1.cell (p := ⟨0, 0, none⟩) HV0.out).trans HV.out)).mono ?_
  rintro e w1 ⟨rfl, b1⟩
  have X1 : Hid (LvX w w1 x) := X0.out.below b1
  clear b1 X0
  by_cases hl : LvOk x.s.y x.h.z
  case neg =>
    have HN : Hid (¬ ShD x.s.y x.h.z) := fun h => hl h.l
    rw [pB_false hl]
    have B1 : Hid (Below w.heap.size w w1) := X1.out.1
    clear hl X1
    go_wp2
    go_ret
    exact ⟨ret_bool (pB_false HN.out).symm, B1.out⟩
  have HO : Hid (LvOk x.s.y x.h.z) := hl
  rw [pB_true hl]
  clear hl
  obtain ⟨-, p0, p1, p2, p3, p4, p5, p6, p7⟩ := X1.out
  go_wp2_with fail
  clear p0 p1 p2 p3 p4 p5 p6 p7
  refine (pictureOf_any x.h w1 (HG.out.h.c.below X1.out.1) HL.out.h.c).mono ?_
  rintro e w2 ⟨P, rfl, hP, hp, b2⟩
  have HP : Hid (PicAt w2 P (.bool x.h.on) (.slice x.h.ca x.h.cn x.h.cc) (.slice x.h.oa x.h.ol x.h.oc) (.slice x.h.ka x.h.kn x.h.kc) (cntD x.h.cH x.h.cn : Nat) ∧ w1.heap.size ≤ P) := ⟨hp, hP⟩
  have X2 : Hid (LvX w w2 x) := X1.out.below b2
  have HBL : Hid (∀ w', w2.grownBy w' (some P) → BL w' x.h.oa x.h.ol x.h.oH) := fun w' g => (HG.out.h.o.below X1.out.1).over b2 hP g
  have BP : Hid (w.heap.size ≤ P) := Nat.le_trans X1.out.1.size hP
  clear b2 X1 hP hp
  go_wp2_with fail
  refine (isDone_any P _ x.h.ca x.h.oa x.h.cn x.h.cc x.h.ol x.h.oc (cntD x.h.cH x.h.cn) _ x.h.oH w2 HP.out.1 HL.out.h.c (Nat.le_trans (cntD_le _ _) HL.out.h.c) HL.out.h.o HBL.out).mono ?_
  rintro e w3 ⟨rfl, g3⟩
  have B3 : Hid (Below w.heap.size w w3) := X2.out.1.trans ⟨g3.os, g3.tape, g3.output, g3.size, fun k hk => g3.block k (Nat.lt_of_lt_of_le hk X2.out.1.size) (fun e => by have := BP.out; injection e; omega)⟩
  have HT : Hid ((decide (cntD x.h.cH x.h.cn = x.h.cn) && !pB (hasT x.h.oH x.h.ol)) = pB (ShD x.s.y x.h.z)) := by
    show (decide (cntD x.h.cH x.h.cn = x.h.cn) && !pB (hasT x.h.oH x.h.ol)) = pB (ShD x.s.y x.h.z)
    by_cases h1 : cntD x.h.cH x.h.cn = x.h.cn
    · by_cases h2 : hasT x.h.oH x.h.ol
      · rw [pB_true h2, pB_false (fun h : ShD x.s.y x.h.z => h.o h2)]
        simp
      · rw [pB_false h2, pB_true (⟨HO.out, h1, h2⟩ : ShD x.s.y x.h.z), decide_eq_true h1]
        rfl
    · rw [decide_eq_false h1, pB_false (fun h : ShD x.s.y x.h.z => h1 h.a)]
      rfl
  generalize (decide (cntD x.h.cH x.h.cn = x.h.cn) && !pB (hasT x.h.oH x.h.ol)) = T at *
  clear g3 X2 HP HBL BP HO
  go_wp2
  go_ret
  exact ⟨ret_bool HT.out, B3.out⟩

set_option maxRecDepth 100000 in
set_option maxHeartbeats 2000000 in
theorem specShotDone_any (x : LvIn) (w : World) (hG : LvG w x) (hL : x.Len) (hcap : ∀ i, i < x.s.hn → x.s.hL i ≤ x.s.hC i) :
    Calls Tryz.prog 28 #[x.v] w fun e w' => e = .returned (.bool (pB (ShD x.s.y x.h.z))) ∧ Below w.heap.size w w' := by
  have HG : Hid (LvG w x) := hG
  have HL : Hid x.Len := hL
  have HCP : Hid (∀ i, i < x.s.hn → x.s.hL i ≤ x.s.hC i) := hcap
  have lc : (x.h.cn : Int) ≤ 1048576 := by have := hL.h.c; omega
  have lo : (x.h.ol : Int) ≤ 1048576 := by have := hL.h.o; omega
  clear hG hL hcap
  have X0 : Hid (LvX w (w.alloc (.cells #[.slice x.s.pa x.s.pn x.s.pc, .slice x.s.sa x.s.sn x.s.sc, .slice x.s.wa x.s.wn x.s.wc, .slice x.s.ha x.s.hn x.s.hc, .bool x.h.on, .slice x.h.ca x.h.cn x.h.cc, .slice x.h.oa x.h.ol x.h.oc, .slice x.h.ka x.h.kn x.h.kc] 41)) x) := LvX.new _ _ _
  go_enter Tryz.func28, Tryz.ntmps28
  go_wp2_with fail
  generalize w.alloc (.cells #[.slice x.s.pa x.s.pn x.s.pc, .slice x.s.sa x.s.sn x.s.sc, .slice x.s.wa x.s.wn x.s.wc, .slice x.s.ha x.s.hn x.s.hc, .bool x.h.on, .slice x.h.ca x.h.cn x.h.cc, .slice x.h.oa x.h.ol x.h.oc, .slice x.h.ka x.h.kn x.h.kc] 41) = wA at *
  refine (specLiveOk_any x wA (HG.out.below X0.out.1) HL.out HCP.out).mono ?_
  rintro e w1 ⟨rfl, b1⟩
  have X1 : Hid (LvX w w1 x) := X0.out.below b1
  clear b1 X0
  by_cases hl : LvOk x.s.y x.h.z
  case neg =>
    have HN : Hid (¬ ShD x.s.y x.h.z) := fun h => hl h.l
    rw [pB_false hl]
    have B1 : Hid (Below w.heap.size w w1) := X1.out.1
    clear hl X1
    go_wp2
    go_ret
    exact ⟨ret_bool (pB_false HN.out).symm, B1.out⟩
  have HO : Hid (LvOk x.s.y x.h.z) := hl
  rw [pB_true hl]
  clear hl
  generalize hon : x.h.on = on
  obtain ⟨B1, p0, p1, p2, p3, p4, p5, p6, p7⟩ := X1.out
  have BB : Hid (Below w.heap.size w w1) := B1
  rw [hon] at p4
  clear B1
  cases on
  · have HN : Hid (¬ ShD x.s.y x.h.z) := fun h => by
      have h1 : x.h.on = true := h.l.on_of h.a
      rw [hon] at h1
      cases h1
    clear hon X1
    go_wp2
    go_ret
    exact ⟨ret_bool (pB_false HN.out).symm, BB.out⟩
  clear hon
  go_wp2_with fail
  go_loopw [3] (fun i wr => ∃ j : Nat, j ≤ x.h.ol ∧ i = .int .i64 j ∧ Hid (∀ k, k < j → x.h.oH k = false) ∧ wr = w1) (fun i _ => x.h.ol - (intOf i).toNat)
  case atStart => exact ⟨0, Nat.zero_le _, rfl, fun k hk => by omega, rfl⟩
  case round =>
    obtain ⟨j, hj, rfl, HF, rfl⟩ := hrel
    by_cases hlt : j < x.h.ol
    · have hlt' : (j : Int) < (x.h.ol : Int) := by omega
      obtain ⟨b, off, ea, -, c0⟩ := (HG.out.h.o.below X1.out.1).at hlt
      rw [ea] at p6
      clear ea
      generalize hm : x.h.oH j = t at *
      have HM : Hid (x.h.oH j = t) := hm
      clear hm
      cases t
      · go_wp2
        go_roundw
        case rel =>
          refine ⟨j + 1, by omega, by go_num, fun k hk => ?_, by trivial⟩
          by_cases e : k = j
          · subst e; exact HM.out
          · exact HF.out k (by omega)
        case measure => simp [intOf]; omega
      · have HN : Hid (¬ ShD x.s.y x.h.z) := fun h => h.o ⟨j, hlt, HM.out⟩
        clear HF X1
        go_wp2
        go_ret
        exact ⟨ret_bool (pB_false HN.out).symm, BB.out⟩
    · have HNO : Hid (¬ hasT x.h.oH x.h.ol) := fun ⟨k, hk, h⟩ => by
        have := HF.out k (by omega)
        rw [this] at h
        cases h
      clear HF
      go_wp2_with fail
      go_loopw [4] (fun i wq => ∃ k : Nat, k ≤ x.h.cn ∧ i = .int .i64 k ∧ Hid (∀ m, m < k → x.h.cH m ≠ -1) ∧ wq = wr) (fun i _ => x.h.cn - (intOf i).toNat)
      case atStart => exact ⟨0, Nat.zero_le _, rfl, fun k hk => by omega, rfl⟩
      case round =>
        obtain ⟨k, hk, rfl, HK, rfl⟩ := hrel
        by_cases hkt : k < x.h.cn
        · have hkt' : (k : Int) < (x.h.cn : Int) := by omega
          obtain ⟨b, off, ea, -, c0⟩ := (HG.out.h.c.below X1.out.1).at hkt
          rw [ea] at p5
          clear ea
          by_cases d : x.h.cH k < 0
          · have HN : Hid (¬ ShD x.s.y x.h.z) := fun h => (cntD_all x.h.cH x.h.cn).1 h.a k hkt ((h.l.neg (p := k) hkt).1 d)
            clear HK X1
            go_wp2
            go_ret
            exact ⟨ret_bool (pB_false HN.out).symm, BB.out⟩
          · have HM : Hid (x.h.cH k ≠ -1) := by show x.h.cH k ≠ -1; omega
            go_wp2
            go_roundw
            case rel =>
              refine ⟨k + 1, by omega, by go_num, fun m hm => ?_, by trivial⟩
              by_cases e : m = k
              · subst e; exact HM.out
              · exact HK.out m (by omega)
            case measure => simp [intOf]; omega
        · have HY : Hid (ShD x.s.y x.h.z) := ⟨HO.out, (cntD_all x.h.cH x.h.cn).2 fun p hp => HK.out p (by omega), HNO.out⟩
          clear HK X1
          go_wp2
          go_ret
          exact ⟨ret_bool (pB_true HY.out).symm, BB.out⟩

end Go.Proofs.YtdfhpimdgfemjaaGreatDoor
