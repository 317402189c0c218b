/- Cuts: which are whole, and the greatest whole one within a cut. -/
import Derived.Test.YtcplnkhdclcgfaaGreatDoorGc0
import Derived.Test.YtcplnkhdclcgfaaGreatDoorGc31
import Derived.Test.YtcplnkhdclcgfaaGreatDoorGc28
import Derived.Test.YtcplnkhdclcgfaaGreatDoorGc27
import Derived.Test.YtcplnkhdclcgfaaGreatDoorGc26
import Derived.Deep.RegionHeld3
import Derived.Deep.CutRange
import Derived.Test.YtcplnkhdclcgfaaGreatDoorGc10
namespace Go.Proofs.YtcplnkhdclcgfaaGreatDoor
set_option maxRecDepth 100000
set_option maxHeartbeats 4000000
open Go.RowKit Go.Sort
def repO (g : Nat → I5) (n : Nat) (eh : Nat → E3) (m : Nat) : Option S4 := if progOkB g n 4 = true ∧ m ≤ 200 then rp g n eh m else none
theorem specReplay_l (gb n gc : Nat) (ea : Option Addr) (m ec : Nat) (g : Nat → I5) (eh : Nat → E3) (w : World) (hn : n ≤ maxLen) (hg : gb < w.heap.size) (hI : InsAt w gb 0 n g) (hE : EvL w ea m eh) (hm : m ≤ 1048576) :
  Calls Tryz.prog 113 #[.slice (some ⟨gb, 0, none⟩) n gc, .slice ea m ec] w (DoneR w (resS (repO g n eh m)) (repO g n eh m).isSome) := by
 have HI : Hid (InsAt w gb 0 n g) := hI
 have HE : Hid (EvL w ea m eh) := hE
 have HL : Hid (n ≤ maxLen) := hn
 have hm' : (m : Int) ≤ 1048576 := by omega
 clear hI hE hn
 have bA := below_alloc w (zQ0)
 have BA : Hid (Below w.heap.size w (w.alloc (zQ0))) := bA
 have NB : Hid (BoxC (w.alloc (zQ0)) w.heap.size (.int .i64 0) (.slice none 0 0) (.slice none 0 0) (.int .i64 0) ∧ ∀ j, (w.alloc (zQ0)).frozen? ⟨w.heap.size, j, none⟩ = false) := ⟨BoxC.new w _ _ _ _ _, fun j => new_frozen _ _ _ j rfl⟩
 clear bA
 go_enter Tryz.func113, Tryz.ntmps113
 go_wp2_with fail
 have hz : (w.alloc (zQ0)).heap.size = w.heap.size + 1 := by simp
 generalize w.alloc (zQ0) = wa at *
 refine (specProgOk_any gb 0 n gc g 4 wa HL.out (Nat.lt_of_lt_of_le hg BA.out.size) (HI.out.below BA.out hg)).mono ?_
 rintro e w1 ⟨rfl, b1⟩
 have zR : w.heap.size < w1.heap.size := by have := b1.size; omega
 have N1 : Hid (BoxC w1 w.heap.size (.int .i64 0) (.slice none 0 0) (.slice none 0 0) (.int .i64 0) ∧ ∀ j, w1.frozen? ⟨w.heap.size, j, none⟩ = false) := ⟨NB.out.1.below b1, fun j => (World.frozen?_of_block (b1.block w.heap.size (by omega))).trans (NB.out.2 j)⟩
 have B1 : Hid (Below w.heap.size w w1) := BA.out.trans (b1.mono BA.out.size)
 clear b1 NB BA hz
 obtain ⟨⟨r0, r1, r2, r3⟩, rf⟩ := N1.out
 have hput : ∀ (a b c d : Value), Below w.heap.size w ((((w1.setCell ⟨w.heap.size, 0, none⟩ a).setCell ⟨w.heap.size, 1, none⟩ b).setCell ⟨w.heap.size, 2, none⟩ c).setCell ⟨w.heap.size, 3, none⟩ d) := fun a b c d => (((B1.out.setCell (Nat.le_refl _) _).setCell (Nat.le_refl _) _).setCell (Nat.le_refl _) _).setCell (Nat.le_refl _) _
 have HPut : Hid (∀ (a b c d : Value), Below w.heap.size w ((((w1.setCell ⟨w.heap.size, 0, none⟩ a).setCell ⟨w.heap.size, 1, none⟩ b).setCell ⟨w.heap.size, 2, none⟩ c).setCell ⟨w.heap.size, 3, none⟩ d)) := hput
 clear hput
 rcases Bool.eq_false_or_eq_true (progOkB g n 4) with tp | tp
 ·by_cases h2 : m ≤ 200
  ·have h2' : ¬ (200 : Int) < (m : Int) := by omega
   have HO : Hid (repO g n eh m = rp g n eh m) := by
    show repO g n eh m = rp g n eh m
    unfold repO
    rw [if_pos ⟨tp, h2⟩]
   have HP : Hid (progOkB g n 4 = true) := tp
   go_wp2_with fail
   refine (l3Replay_l gb n gc ea m ec g eh w1 (Nat.lt_of_lt_of_le hg B1.out.size) (HI.out.below B1.out hg) (HE.out.below B1.out) hm HP.out).mono ?_
   rintro e w2 hd
   rw [← HO.out] at hd
   generalize repO g n eh m = O at *
   obtain ⟨v2, rfl, o2, b2⟩ := hd
   obtain ⟨ra2, rc2, oa2, oc2, rfl, -, -⟩ := o2.read
   have eR := b2.block w.heap.size zR
   have q0 := (World.cell?_of_block eR).trans r0
   have q1 := (World.cell?_of_block eR).trans r1
   have q2 := (World.cell?_of_block eR).trans r2
   have q3 := (World.cell?_of_block eR).trans r3
   have qf : ∀ j, w2.frozen? ⟨w.heap.size, j, none⟩ = false := fun j => (World.frozen?_of_block eR).trans (rf j)
   have B2 : Hid (Below w.heap.size w w2) := B1.out.trans (b2.mono B1.out.size)
   have O2 : Hid (StOwn w2 w1.heap.size (stV (resS O).p ra2 (resS O).rs.length rc2 oa2 (resS O).os.length oc2 (resS O).c) (resS O).p (resS O).rs (resS O).os (resS O).c) := o2
   clear o2 b2 eR r0 r1 r2 r3 rf
   go_wp2
   refine bodyPost_ret (v := .tuple #[stV (resS O).p ra2 (resS O).rs.length rc2 oa2 (resS O).os.length oc2 (resS O).c, .bool O.isSome]) (by simp [results, Tryz.results113, go_sem, q0, q1, q2, q3]) rfl ⟨_, rfl, ?_, ?_⟩
   ·exact O2.out.put4 zR (by omega)
   ·exact (((B2.out.setCell (Nat.le_refl _) _).setCell (Nat.le_refl _) _).setCell (Nat.le_refl _) _).setCell (Nat.le_refl _) _
  ·have h2' : (200 : Int) < (m : Int) := by omega
   have HO : Hid (repO g n eh m = none) := by
    show repO g n eh m = none
    unfold repO
    rw [if_neg (by omega)]
   go_wp2
   refine bodyPost_ret (v := .tuple #[stV 0 none 0 0 none 0 0 0, .bool false]) (by simp [results, Tryz.results113, go_sem, r0, r1, r2, r3]) rfl ?_
   rw [HO.out]
   exact ⟨_, rfl, StOwn.nil _ _, HPut.out _ _ _ _⟩
 ·have HO : Hid (repO g n eh m = none) := by
   show repO g n eh m = none
   unfold repO
   rw [if_neg (by rw [tp]; simp)]
  go_wp2
  refine bodyPost_ret (v := .tuple #[stV 0 none 0 0 none 0 0 0, .bool false]) (by simp [results, Tryz.results113, go_sem, r0, r1, r2, r3]) rfl ?_
  rw [HO.out]
  exact ⟨_, rfl, StOwn.nil _ _, HPut.out _ _ _ _⟩
theorem repO_len (g : Nat → I5) (n : Nat) (eh : Nat → E3) (m : Nat) : (resS (repO g n eh m)).rs.length ≤ 1048576 ∧ (resS (repO g n eh m)).os.length ≤ 1048576 := by
 unfold repO
 split
 ·rename_i h
  have hk : ∀ k S, rp g n eh k = some S → OkS n S := by
   intro k
   induction k with
   | zero =>
    intro S hS
    simp only [rp, Option.some.injEq] at hS
    rw [← hS]
    exact newS_ok h.1
   | succ k ih =>
    intro S hS
    simp only [rp] at hS
    cases hr : rp g n eh k with
    | none => rw [hr] at hS; cases hS
    | some S0 =>
     rw [hr] at hS
     simp only [Option.bind_some, rpStep] at hS
     split at hS
     ·rename_i hd
      simp only [Option.some.injEq] at hS
      rw [← hS]
      exact doS_ok hd
     ·cases hS
  cases hr : rp g n eh m with
  | none => simp [resS]
  | some S =>
   have := OkS.len (hk m S hr)
   simp only [resS, Option.getD_some]
   omega
 ·simp [resS]
open Go.ChangeShapes Go.WideShapes Go.ChangeAt Go.Deep
structure Sy where
 pn : Nat
 pL : Nat → Nat
 pH : Nat → Nat → I5
 sn : Nat
 sS : Nat → S4
 wn : Nat
 wL : Nat → Nat
 wH : Nat → Nat → I2
 hn : Nat
 hL : Nat → Nat
 hH : Nat → Nat → E3
def SysIn.y (x : SysIn) : Sy := ⟨x.pn, x.pL, x.pH, x.sn, x.sS, x.wn, x.wL, x.wH, x.hn, x.hL, x.hH⟩
def Sy.hs (y : Sy) : Hs := ⟨y.pn, y.hL, y.hH⟩
def itemB (x : I2) : Bool := numB x.v && (!x.m || x.v == 0)
structure WayP (h : Nat → I2) (len : Nat) (took sent : List Int) : Prop where
 it : ∀ i, i < len → itemB (h i) = true
 le : len ≤ 12
 eq : took ++ numL h len = sent
structure Sy.Ok (y : Sy) : Prop where
 cn : (1 ≤ y.pn ∧ y.pn ≤ 4) ∧ y.sn = y.pn ∧ y.hn = y.pn ∧ y.wn = y.pn * y.pn
 pr : ∀ p, p < y.pn → progOkB (y.pH p) (y.pL p) y.pn = true
 rp : ∀ p, p < y.pn → repO (y.pH p) (y.pL p) (y.hH p) (y.hL p) = some (y.sS p)
 pe : ∀ p, p < y.pn → ∀ i, i < y.hL p → (y.hH p i).q < (y.pn : Int)
 wa : ∀ a, a < y.pn → ∀ b, b < y.pn → WayP (y.wH (a * y.pn + b)) (y.wL (a * y.pn + b)) (valL (y.hH b) 3 a (y.hL b)) (valL (y.hH a) 2 b (y.hL a))
 ro : y.hs.Row
noncomputable def Sy.okB (y : Sy) : Bool := @decide y.Ok (Classical.propDecidable _)
theorem Sy.okB_true {y : Sy} (h : y.Ok) : y.okB = true := by simp [Sy.okB, h]
theorem Sy.okB_false {y : Sy} (h : ¬ y.Ok) : y.okB = false := by simp [Sy.okB, h]
theorem Sy.ok_of {y : Sy} (h : y.okB = true) : y.Ok := by simpa [Sy.okB] using h
theorem evP_pos {g : Nat → I5} {len : Nat} {k : Nat} (h : progOkB g len 4 = true) (hk : k < len) : 0 ≤ evP (g k).o (g k).n := by
 have h5 := right_ins h hk
 simp only [insOkB, Bool.and_eq_true] at h5
 have h6 := h5.2
 unfold evP
 by_cases e6 : (g k).o = 6
 ·rw [if_pos e6]
  simp [opOkB, e6, inB] at h6
  omega
 ·rw [if_neg e6]
  by_cases e7 : (g k).o = 7
  ·rw [if_pos e7]
   simp [opOkB, e7, inB] at h6
   omega
  ·rw [if_neg e7]
   exact Int.le_refl _
theorem doB_peer {g : Nat → I5} {len : Nat} {p : Int} {rs os : List Int} {code k q v : Int} (h : doB g len p rs os code k q v = true) : 0 ≤ q := by
 have hr := doB_right h
 obtain ⟨h1, h2, -⟩ := right_parts hr
 obtain ⟨-, ⟨j, rfl, hj⟩, -⟩ := st_parts h2
 have hp := evP_pos h1 hj
 simp only [doB, canB, nxP, if_pos hr, Int.toNat_natCast] at h
 split at h
 ·simp only [Bool.and_eq_true] at h
  have h3 := h.2
  split at h3
  ·simp only [belB, decide_eq_true_eq] at h3
   omega
  ·simp only [beq_iff_eq] at h3
   omega
 ·simp only [Bool.and_eq_true, beq_iff_eq] at h
  have := h.2.2.1
  omega
theorem rp_peer {g : Nat → I5} {len : Nat} {eh : Nat → E3} : ∀ {k : Nat} {S : S4}, rp g len eh k = some S → ∀ i, i < k → 0 ≤ (eh i).q
 | 0, _, _, i, hi => by omega
 | k + 1, S, h, i, hi => by
  simp only [rp] at h
  cases hr : rp g len eh k with
  | none => rw [hr] at h; cases h
  | some S0 =>
   rw [hr] at h
   simp only [Option.bind_some, rpStep] at h
   split at h
   ·rename_i hd
    by_cases e : i = k
    ·subst e
     exact doB_peer hd
    ·exact rp_peer hr i (by omega)
   ·cases h
theorem repO_some {g : Nat → I5} {n : Nat} {eh : Nat → E3} {m : Nat} {S : S4} (h : repO g n eh m = some S) : progOkB g n 4 = true ∧ m ≤ 200 ∧ rp g n eh m = some S := by
 unfold repO at h
 split at h
 ·rename_i hc
  exact ⟨hc.1, hc.2, h⟩
 ·cases h
structure SysG (W : World) (x : SysIn) : Prop where
 p : RowS W x.pa x.pn fun i => .slice (x.pA i) (x.pL i) (x.pC i)
 pi : ∀ i, i < x.pn → ∃ b, x.pA i = some ⟨b, 0, none⟩ ∧ b < W.heap.size ∧ InsAt W b 0 (x.pL i) (x.pH i)
 s : AllState W x.sa x.sn x.sQ
 w : RowS W x.wa x.wn fun i => .slice (x.wA i) (x.wL i) (x.wC i)
 wi : ∀ i, i < x.wn → ItL W (x.wA i) (x.wL i) (x.wH i)
 h : RowS W x.ha x.hn fun i => .slice (x.hA i) (x.hL i) (x.hC i)
 hi : ∀ i, i < x.hn → EvL W (x.hA i) (x.hL i) (x.hH i)
theorem SysG.below {w w' : World} {x : SysIn} (o : SysG w x) (hb : Below w.heap.size w w') : SysG w' x :=
 ⟨o.p.below hb, fun i hi => by
  obtain ⟨b, e, hlt, hI⟩ := o.pi i hi
  exact ⟨b, e, Nat.lt_of_lt_of_le hlt hb.size, hI.below hb hlt⟩, o.s.below hb, o.w.below hb, fun i hi => (o.wi i hi).below hb, o.h.below hb, fun i hi => (o.hi i hi).below hb⟩
structure SysIn.Len (x : SysIn) : Prop where
 p : x.pn ≤ 1048576 ∧ ∀ i, i < x.pn → x.pL i ≤ 1048576
 s : x.sn ≤ 1048576 ∧ ∀ i, i < x.sn → (x.sQ i).rs.length ≤ 1048576 ∧ (x.sQ i).os.length ≤ 1048576
 w : x.wn ≤ 1048576 ∧ ∀ i, i < x.wn → x.wL i ≤ 1048576
 h : x.hn ≤ 1048576 ∧ ∀ i, i < x.hn → x.hL i ≤ 1048576
abbrev SysIn.v (x : SysIn) : Value := sysV x.pa x.pn x.pc x.sa x.sn x.sc x.wa x.wn x.wc x.ha x.hn x.hc
theorem implStateNew_any (w : World) :
  Calls Tryz.prog 208 #[] w fun e w' => ∃ v, e = .returned v ∧ StOwn w' w.heap.size v 0 [0, 0, 0, 0] [] 0 ∧ Below w.heap.size w w' := by
 have hmk : ∀ w : World, (Instr.makeSlice 37 (.int .i64 4) (.int .i64 4)).run Tryz.prog w = .ok (.slice (some ⟨w.heap.size, 0, none⟩) 4 4) (w.alloc (.cells (madeCells #[.int .i64 0] 4) 3)) := fun w => run_make_int 4 (by omega) w
 have HM : Hid (∀ w : World, OwnI (w.alloc (.cells (madeCells #[.int .i64 0] 4) 3)) w.heap.size (.slice (some ⟨w.heap.size, 0, none⟩) 4 4) [0, 0, 0, 0]) := fun w => made_own w 4 (by omega)
 go_enter Tryz.func208, Tryz.ntmps208
 go_wp2
 have hB : w.heap.size ≤ w.heap.size + 1 := by omega
 have hM := HM.out (w.alloc (oQ1 0 (some ⟨w.heap.size + 1, 0, none⟩) 4 4 none 0 0 0))
 rw [World.size_alloc] at hM
 refine bodyPost_ret (v := stV 0 (some ⟨w.heap.size + 1, 0, none⟩) 4 4 none 0 0 0) (by simp [results, Tryz.results208, go_sem]) rfl ⟨_, rfl, ⟨_, _, rfl, hM.mono hB, World.ownsRow_nil _ _ _ _, fun k _ => by simp [Value.ownBlock]⟩, by go_grown⟩
structure Rn (w wr : World) (A B C gb n gc k : Nat) (p code : Int) (ra : Option Addr) (rc : Nat) (oa : Option Addr) (oc : Nat) (rs os : List Int) : Prop where
 la : wr.cell? ⟨A, 0, none⟩ = some (.slice (some ⟨gb, 0, none⟩) n gc)
 tl : Tl wr w.heap.size wr.heap.size B p code ra rs.length rc oa os.length oc rs os
 fb : ∀ j, wr.frozen? ⟨B, j, none⟩ = false
 ck : wr.cell? ⟨C, 0, none⟩ = some (.int .i64 k)
 fc : wr.frozen? ⟨C, 0, none⟩ = false
 ne : A ≠ B ∧ C ≠ B ∧ A ≠ C ∧ w.heap.size ≤ A ∧ w.heap.size ≤ C
 nh : ¬ hasBlock (stV p ra rs.length rc oa os.length oc code) A ∧ ¬ hasBlock (stV p ra rs.length rc oa os.length oc code) C
 be : Below w.heap.size w wr
theorem runOf_any (gb n gc : Nat) (g : Nat → I5) (w : World) (hn : n ≤ maxLen) (hg : gb < w.heap.size) (hI : InsAt w gb 0 n g) (hp : progOkB g n 4 = true) :
  Calls Tryz.prog 207 #[.slice (some ⟨gb, 0, none⟩) n gc] w fun e w' => ∃ A B C ra rc oa oc, e = .returned (.tuple #[.func (.func 240) #[] #[.pointer (some ⟨A, 0, none⟩), .pointer (some ⟨B, 0, none⟩), .pointer (some ⟨C, 0, none⟩)], .nilIface]) ∧ Rn w w' A B C gb n gc 0 0 0 ra rc oa oc [0, 0, 0, 0] [] := by
 have HI : Hid (InsAt w gb 0 n g) := hI
 have HL : Hid (n ≤ maxLen) := hn
 have HP : Hid (progOkB g n 4 = true) := hp
 clear hI hn
 go_enter Tryz.func207, Tryz.ntmps207
 go_wp2_with fail
 refine (implProgOk_any gb 0 n gc g 4 _ HL.out (by simp; omega) (HI.out.below (by go_grown) hg)).mono ?_
 rintro e w1 ⟨rfl, b1⟩
 have B1 : Hid (Below w.heap.size w w1) := below_up (by go_grown) b1 (by simp)
 have z1 : w.heap.size < w1.heap.size := by have := b1.size; simp at this; omega
 have l1 : w1.cell? ⟨w.heap.size, 0, none⟩ = some (.slice (some ⟨gb, 0, none⟩) n gc) := by rw [(bcell b1).1 _ _ (by simp)]; simp
 clear b1
 go_wp2_with fail
 refine (implStateNew_any _).mono ?_
 rintro e w2 ⟨v2, rfl, o2, b2⟩
 obtain ⟨ra2, rc2, oa2, oc2, rfl, -, -⟩ := o2.read
 have z2 := b2.size
 have bz : Below w2.heap.size w2 ((w2.alloc (oQ1 0 ra2 4 rc2 oa2 0 oc2 0)).alloc (.cells #[.int .i64 0] 3)) := by go_grown
 have bq := below_alloc (w2.alloc (oQ1 0 ra2 4 rc2 oa2 0 oc2 0)) (.cells #[.int .i64 0] 3)
 have b12 := b2.trans (bz.mono b2.size)
 have HR : Hid (Rn w ((w2.alloc (oQ1 0 ra2 4 rc2 oa2 0 oc2 0)).alloc (.cells #[.int .i64 0] 3)) w.heap.size w2.heap.size (w2.heap.size + 1) gb n gc 0 0 0 ra2 rc2 oa2 oc2 [0, 0, 0, 0] []) := by
  have o2' : StOwn w2 w.heap.size (stV 0 ra2 4 rc2 oa2 0 oc2 0) 0 [0, 0, 0, 0] [] 0 := o2.mono (by omega)
  refine ⟨(World.cell?_of_block (b12.block w.heap.size z1)).trans l1, ((Tl.of_alloc o2' (by omega) _).below bq).widen (by simp) (Nat.le_refl _), fun j => ?_, ?_, ?_, ⟨by omega, by omega, by omega, by omega, by omega⟩, ⟨fun h => ?_, fun h => ?_⟩, B1.out.trans (b12.mono B1.out.size)⟩
  ·rw [World.frozen?_of_block (bq.block w2.heap.size (by simp))]
   exact new_frozen _ _ _ j rfl
  ·have := new_cell (w2.alloc (oQ1 0 ra2 4 rc2 oa2 0 oc2 0)) #[.int .i64 0] 3 0 rfl
   rw [World.size_alloc] at this
   exact this
  ·have := new_frozen (w2.alloc (oQ1 0 ra2 4 rc2 oa2 0 oc2 0)) #[.int .i64 0] 3 0 rfl
   rw [World.size_alloc] at this
   exact this
  ·have := (o2.lt h).1
   omega
  ·have := (o2.lt h).2
   omega
 clear o2 b2 bz bq b12 l1
 go_wp2
 exact bodyPost_ret (v := .tuple #[.func (.func 240) #[] #[.pointer (some ⟨w.heap.size, 0, none⟩), .pointer (some ⟨w2.heap.size, 0, none⟩), .pointer (some ⟨w2.heap.size + 1, 0, none⟩)], .nilIface]) (by simp [results, Tryz.results207, go_sem]) rfl ⟨_, _, _, _, _, _, _, rfl, HR.out⟩
theorem StOwn.set1 {w : World} {B N : Nat} {v : Value} {p code : Int} {rs os : List Int} (h : StOwn w B v p rs os code) (hN : N < B) (j : Nat) (u : Value) : StOwn (w.setCell ⟨N, j, none⟩ u) B v p rs os code := by
 obtain ⟨vr, vo, e, o1, o2, ha⟩ := h
 exact ⟨vr, vo, e, o1.setBelow hN _, o2.setBelow hN _, ha⟩
theorem Rn.below {w wr w' : World} {A B C gb n gc k : Nat} {p code : Int} {ra : Option Addr} {rc : Nat} {oa : Option Addr} {oc : Nat} {rs os : List Int} (h : Rn w wr A B C gb n gc k p code ra rc oa oc rs os) (hb : Below wr.heap.size wr w') : Rn w w' A B C gb n gc k p code ra rc oa oc rs os :=
 ⟨(World.cell?_of_block (hb.block A (World.block_lt_of_cell? wr _ h.la))).trans h.la, (h.tl.below hb).widen hb.size (Nat.le_refl _), fun j => (World.frozen?_of_block (hb.block B h.tl.hi)).trans (h.fb j), (World.cell?_of_block (hb.block C (World.block_lt_of_cell? wr _ h.ck))).trans h.ck, (World.frozen?_of_block (hb.block C (World.block_lt_of_cell? wr _ h.ck))).trans h.fc, h.ne, h.nh, h.be.trans (hb.mono h.be.size)⟩
theorem Rn.next {w w4 : World} {A B C gb n gc k : Nat} {p code : Int} {ra : Option Addr} {rc : Nat} {oa : Option Addr} {oc : Nat} {rs os : List Int} (h : Rn w w4 A B C gb n gc k p code ra rc oa oc rs os) {B7 R1 : Nat} {S : S4} {ra7 oa7 : Option Addr} {rc7 oc7 : Nat} (o : StOwn w4 B7 (stV S.p ra7 S.rs.length rc7 oa7 S.os.length oc7 S.c) S.p S.rs S.os S.c) (hA : A < B7) (hB : B < B7) (hC : C < B7) (hR : R1 < B7) (n1 : R1 ≠ A) (n2 : R1 ≠ B) (n3 : R1 ≠ C) (n4 : w.heap.size ≤ R1) (z7 : w.heap.size ≤ B7) :
  Rn w (((((((((w4.setCell ⟨B, 0, none⟩ (.int .i64 S.p)).setCell ⟨B, 1, none⟩ (.slice ra7 S.rs.length rc7)).setCell ⟨B, 2, none⟩ (.slice oa7 S.os.length oc7)).setCell ⟨B, 3, none⟩ (.int .i64 S.c)).setCell ⟨C, 0, none⟩ (.int .i64 ((k + 1 : Nat) : Int))).setCell ⟨R1, 0, none⟩ (.int .i64 S.p)).setCell ⟨R1, 1, none⟩ (.slice ra7 S.rs.length rc7)).setCell ⟨R1, 2, none⟩ (.slice oa7 S.os.length oc7)).setCell ⟨R1, 3, none⟩ (.int .i64 S.c)) A B C gb n gc (k + 1) S.p S.c ra7 rc7 oa7 oc7 S.rs S.os := by
 obtain ⟨e1, e2, e3, e4, e5⟩ := h.ne
 have zB := h.tl.hi
 have lB := h.tl.lo
 have o7 : StOwn (((((((((w4.setCell ⟨B, 0, none⟩ (.int .i64 S.p)).setCell ⟨B, 1, none⟩ (.slice ra7 S.rs.length rc7)).setCell ⟨B, 2, none⟩ (.slice oa7 S.os.length oc7)).setCell ⟨B, 3, none⟩ (.int .i64 S.c)).setCell ⟨C, 0, none⟩ (.int .i64 ((k + 1 : Nat) : Int))).setCell ⟨R1, 0, none⟩ (.int .i64 S.p)).setCell ⟨R1, 1, none⟩ (.slice ra7 S.rs.length rc7)).setCell ⟨R1, 2, none⟩ (.slice oa7 S.os.length oc7)).setCell ⟨R1, 3, none⟩ (.int .i64 S.c)) B7 (stV S.p ra7 S.rs.length rc7 oa7 S.os.length oc7 S.c) S.p S.rs S.os S.c := ((((((((o.set1 hB _ _).set1 hB _ _).set1 hB _ _).set1 hB _ _).set1 hC _ _).set1 hR _ _).set1 hR _ _).set1 hR _ _).set1 hR _ _
 obtain ⟨b0, b1, b2, b3⟩ := h.tl.box
 have la := h.la
 have ck := h.ck
 have dAB : (⟨B, 0, none⟩ : Addr).block ≠ (⟨A, 0, none⟩ : Addr).block := fun e => e1 e.symm
 refine ⟨?_, ⟨lB, by simp; exact zB, Nat.le_refl _, ⟨?_, ?_, ?_, ?_⟩, o7.mono z7, fun j hj => (o7.lt hj).2, fun hj => ?_⟩, fun j => ?_, ?_, ?_, ⟨e1, e2, e3, e4, e5⟩, ⟨fun hj => ?_, fun hj => ?_⟩, ?_⟩
 ·go_cell
 ·go_cell
 ·go_cell
 ·go_cell
 ·go_cell
 ·have := (o.lt hj).1
  omega
 ·simp only [World.frozen?_setCell]
  exact h.fb j
 ·go_cell
 ·simp only [World.frozen?_setCell]
  exact h.fc
 ·have := (o.lt hj).1
  omega
 ·have := (o.lt hj).1
  omega
 ·exact ((((((((h.be.setCell lB _).setCell lB _).setCell lB _).setCell lB _).setCell e5 _).setCell n4 _).setCell n4 _).setCell n4 _).setCell n4 _
variable {z : Bool}
structure OwnS (z : Bool) (w : World) (B : Nat) (c : Nat → Nat) (y : Sy) (vp vs vw vh : Value) (up us uw uh : Nat → Value) : Prop where
 p : LI z w (Cl B c 1) vp y.pn up y.pL y.pH
 s : LS w (Cl B c 2) vs y.sn us y.sS
 t : LT z w (Cl B c 3) vw y.wn uw y.wL y.wH
 h : LE z w (Cl B c 4) vh y.hn uh y.hL y.hH
theorem OwnS.below {w w' : World} {B : Nat} {c : Nat → Nat} {y : Sy} {vp vs vw vh : Value} {up us uw uh : Nat → Value} (o : OwnS z w B c y vp vs vw vh up us uw uh) (hb : Below w.heap.size w w') : OwnS z w' B c y vp vs vw vh up us uw uh := ⟨o.p.below hb, o.s.below hb, o.t.below hb, o.h.below hb⟩
def OwnSys (z : Bool) (w : World) (B : Nat) (y : Sy) (v : Value) : Prop := ∃ c vp vs vw vh up us uw uh, v = .agg #[vp, vs, vw, vh] ∧ OwnS z w B c y vp vs vw vh up us uw uh
def rcol (c : Nat → Nat) (n q : Nat) : Nat → Nat := fun k => if k < n then c k else q
theorem rcol_old {c : Nat → Nat} {n q k : Nat} (h : k < n) : rcol c n q k = c k := if_pos h
theorem rcol_new {c : Nat → Nat} {n q k : Nat} (h : n ≤ k) : rcol c n q k = q := if_neg (by omega)
theorem Cl.old {B : Nat} {c : Nat → Nat} {n q i k : Nat} (h : Cl B c i k) (hk : k < n) : Cl B (rcol c n q) i k := ⟨h.1, (rcol_old hk).trans h.2⟩
structure CpB (B N : Nat) (c : Nat → Nat) (y : Sy) (ks kw : Nat) (wx : World) (vp vs vw vh : Value) (up us uw uh : Nat → Value) : Prop where
 bx : BoxC wx N vp vs vw vh
 fr : ∀ j, wx.frozen? ⟨N, j, none⟩ = false
 cN : c N = 0
 bN : B ≤ N
 o : OwnS true wx B c { y with sn := ks, wn := kw } vp vs vw vh up us uw uh
section
variable {B N : Nat} {c : Nat → Nat} {y : Sy} {ks kw : Nat} {wr : World} {vp vs vw vh : Value} {up us uw uh : Nat → Value}
end
theorem plN_get (eh : Nat → E3) (kd pr : Int) : ∀ (n j q : Nat), (plN eh kd pr n)[j]? = some q → q < n ∧ hitB eh kd pr q = true ∧ cnt eh kd pr q = j
 | 0, j, q, h => by simp [plN] at h
 | n + 1, j, q, h => by
  rcases Bool.eq_false_or_eq_true (hitB eh kd pr n) with t | t
  ·rw [plN, if_pos t] at h
   by_cases hj : j < (plN eh kd pr n).length
   ·rw [List.getElem?_append_left hj] at h
    obtain ⟨h1, h2, h3⟩ := plN_get eh kd pr n j q h
    exact ⟨by omega, h2, h3⟩
   ·rw [List.getElem?_append_right (by omega)] at h
    have hj2 : j - (plN eh kd pr n).length = 0 := by
     by_cases e : j - (plN eh kd pr n).length = 0
     ·exact e
     ·rw [List.getElem?_eq_none (by simp; omega)] at h
      cases h
    rw [hj2] at h
    simp at h
    subst h
    refine ⟨by omega, t, ?_⟩
    unfold cnt
    omega
  ·rw [plN, if_neg (by rw [t]; decide)] at h
   obtain ⟨h1, h2, h3⟩ := plN_get eh kd pr n j q h
   exact ⟨by omega, h2, h3⟩
theorem nthV_some {eh : Nat → E3} {kd pr : Int} {len n : Nat} (h : n < cnt eh kd pr len) : ∃ q : Nat, nthV eh kd pr len n = q ∧ q < len ∧ hitB eh kd pr q = true ∧ cnt eh kd pr q = n := by
 have hl : n < (plI eh kd pr len).length := by rw [plI_length]; exact h
 obtain ⟨q, h1, h2, h3⟩ := plI_place eh kd pr len n hl
 obtain ⟨-, h4, h5⟩ := plN_get eh kd pr len n q h3
 refine ⟨q, ?_, h2, h4, h5⟩
 unfold nthV
 rw [if_pos (by simp [belB]; omega), Int.toNat_natCast]
 exact h1
theorem nthV_none {eh : Nat → E3} {kd pr : Int} {len n : Nat} (h : cnt eh kd pr len ≤ n) : nthV eh kd pr len n = -1 := by
 unfold nthV
 rw [if_neg]
 have hl : (plI eh kd pr len).length ≤ n := by rw [plI_length]; exact h
 simp [belB]
 omega
theorem nthV_more {eh : Nat → E3} {kd pr : Int} {len len' n : Nat} (h : n < cnt eh kd pr len) (hl : len ≤ len') : nthV eh kd pr len' n = nthV eh kd pr len n := by
 obtain ⟨q, h1, h2, h3, h4⟩ := nthV_some h
 rw [h1]
 exact nthV_hit (by omega) h3 (by rw [plI_length]; show (n : Int) = (cnt eh kd pr q : Nat); omega)
structure Sy.Cut (y : Sy) (c : List Int) : Prop where
 len : c.length = y.pn
 le : ∀ p, p < y.pn → 0 ≤ zi c p ∧ zi c p ≤ (y.hL p : Int)
noncomputable def cutB (y : Sy) (c : List Int) : Bool := y.okB && qB (y.Cut c)
def cN (c : List Int) (p : Nat) : Nat := (zi c p).toNat
def sN (y : Sy) (c : Nat → Nat) (a b : Nat) : Nat := cnt (y.hH a) 2 b (c a)
def tN (y : Sy) (c : Nat → Nat) (a b : Nat) : Nat := cnt (y.hH b) 3 a (c b)
def Sy.Wh (y : Sy) (c : Nat → Nat) : Prop := ∀ a, a < y.pn → ∀ b, b < y.pn → tN y c a b ≤ sN y c a b
def ovN (y : Sy) (c : Nat → Nat) (a b : Nat) : Int := nthV (y.hH b) 3 a (c b) (sN y c a b : Nat)
theorem ovN_no {y : Sy} {c : Nat → Nat} {a b : Nat} (h : tN y c a b ≤ sN y c a b) : ovN y c a b = -1 := nthV_none h
theorem ovN_yes {y : Sy} {c : Nat → Nat} {a b : Nat} (h : ¬ tN y c a b ≤ sN y c a b) : ∃ k : Nat, ovN y c a b = k ∧ k < c b ∧ hitB (y.hH b) 3 a k = true ∧ cnt (y.hH b) 3 a k = sN y c a b := nthV_some (by unfold tN at h; omega)
theorem ovN_full {y : Sy} {c : Nat → Nat} {a b : Nat} (h : ¬ tN y c a b ≤ sN y c a b) (hl : c b ≤ y.hL b) : nthV (y.hH b) 3 a (y.hL b) (sN y c a b : Nat) = ovN y c a b := nthV_more (by unfold tN at h; omega) hl
theorem ovN_neg {y : Sy} {c : Nat → Nat} {a b : Nat} : ovN y c a b < 0 ↔ tN y c a b ≤ sN y c a b := by
 refine ⟨fun h => ?_, fun h => by rw [ovN_no h]; decide⟩
 by_cases hc : tN y c a b ≤ sN y c a b
 ·exact hc
 ·obtain ⟨k, e, -⟩ := ovN_yes hc
  omega
noncomputable def whB (y : Sy) (c : List Int) : Bool := cutB y c && qB (y.Wh (cN c))
structure Sy.Cl (y : Sy) (c e : List Int) : Prop where
 len : e.length = y.pn
 le : ∀ p, p < y.pn → 0 ≤ zi e p ∧ zi e p ≤ zi c p
 gr : ∀ d : Nat → Nat, (∀ p, p < y.pn → (d p : Int) ≤ zi c p) → y.Wh d → ∀ p, p < y.pn → (d p : Int) ≤ zi e p
open Classical in
noncomputable def clS (y : Sy) (c : List Int) : List Int := if h : cutB y c = true ∧ ∃ e, y.Cl c e ∧ y.Wh (cN e) then h.2.choose else []
theorem cutB_parts {y : Sy} {c : List Int} (h : cutB y c = true) : y.Ok ∧ y.Cut c := by
 unfold cutB at h
 simp only [Bool.and_eq_true] at h
 exact ⟨Sy.ok_of h.1, qB_iff.1 h.2⟩
noncomputable def flS (y : Sy) : List Int := if y.okB = true then (List.range y.hn).map fun p => (y.hL p : Int) else []
def flT (y : Sy) (k : Nat) : List Int := (List.range k).map fun p => (y.hL p : Int)
end Go.Proofs.YtcplnkhdclcgfaaGreatDoor
