/- Marks of a system that came in: how many at most. -/
import Derived.Test.YtkjeakklbgpdaaaGreatDoorCc0
import Derived.Test.YtkjeakklbgpdaaaGreatDoorCc30
import Derived.Test.YtkjeakklbgpdaaaGreatDoorCc25
import Derived.Test.YtkjeakklbgpdaaaGreatDoorCc28
import Derived.Lib.QuietBelow
import Derived.Test.YtkjeakklbgpdaaaGreatDoorCc31
import Derived.Test.YtkjeakklbgpdaaaGreatDoorCc12
import Derived.Defers
import Derived.Deep.LoopGhost
import Derived.Deep.Cut
import Derived.Deep.MidRow
import Derived.Laws.EntriesVeiled
namespace Go.Proofs.YtkjeakklbgpdaaaGreatDoor
set_option maxRecDepth 100000
set_option maxHeartbeats 2000000
open Go.ChangeShapes Go.WideShapes Go.ChangeAt Go.RowKit Go.Deep
structure Sy where
 pn : Nat
 pL : Nat → Nat
 pH : Nat → Nat → I5
 sn : Nat
 sS : Nat → S4
 wn : Nat
 wL : Nat → Nat
 wH : Nat → Nat → I2
 hn : Nat
 hL : Nat → Nat
 hH : Nat → Nat → E3
def SysIn.y (x : SysIn) : Sy := ⟨x.pn, x.pL, x.pH, x.sn, x.sS, x.wn, x.wL, x.wH, x.hn, x.hL, x.hH⟩
def Sy.hs (y : Sy) : Hs := ⟨y.pn, y.hL, y.hH⟩
def itemB (x : I2) : Bool := numB x.v && (!x.m || x.v == 0)
structure WayP (h : Nat → I2) (len : Nat) (took sent : List Int) : Prop where
 it : ∀ i, i < len → itemB (h i) = true
 le : len ≤ 12
 eq : took ++ numL h len = sent
structure Sy.Ok (y : Sy) : Prop where
 cn : (1 ≤ y.pn ∧ y.pn ≤ 4) ∧ y.sn = y.pn ∧ y.hn = y.pn ∧ y.wn = y.pn * y.pn
 pr : ∀ p, p < y.pn → progOkB (y.pH p) (y.pL p) y.pn = true
 rp : ∀ p, p < y.pn → repO (y.pH p) (y.pL p) (y.hH p) (y.hL p) = some (y.sS p)
 pe : ∀ p, p < y.pn → ∀ i, i < y.hL p → (y.hH p i).q < (y.pn : Int)
 wa : ∀ a, a < y.pn → ∀ b, b < y.pn → WayP (y.wH (a * y.pn + b)) (y.wL (a * y.pn + b)) (valL (y.hH b) 3 a (y.hL b)) (valL (y.hH a) 2 b (y.hL a))
 ro : y.hs.Row
noncomputable def Sy.okB (y : Sy) : Bool := @decide y.Ok (Classical.propDecidable _)
theorem Sy.okB_true {y : Sy} (h : y.Ok) : y.okB = true := by simp [Sy.okB, h]
theorem Sy.okB_false {y : Sy} (h : ¬ y.Ok) : y.okB = false := by simp [Sy.okB, h]
theorem Sy.ok_of {y : Sy} (h : y.okB = true) : y.Ok := by simpa [Sy.okB] using h
theorem evP_pos {g : Nat → I5} {len : Nat} {k : Nat} (h : progOkB g len 4 = true) (hk : k < len) : 0 ≤ evP (g k).o (g k).n := by
 have h5 := right_ins h hk
 simp only [insOkB, Bool.and_eq_true] at h5
 have h6 := h5.2
 unfold evP
 by_cases e6 : (g k).o = 6
 ·rw [if_pos e6]
  simp [opOkB, e6, inB] at h6
  omega
 ·rw [if_neg e6]
  by_cases e7 : (g k).o = 7
  ·rw [if_pos e7]
   simp [opOkB, e7, inB] at h6
   omega
  ·rw [if_neg e7]
   exact Int.le_refl _
theorem doB_peer {g : Nat → I5} {len : Nat} {p : Int} {rs os : List Int} {code k q v : Int} (h : doB g len p rs os code k q v = true) : 0 ≤ q := by
 have hr := doB_right h
 obtain ⟨h1, h2, -⟩ := right_parts hr
 obtain ⟨-, ⟨j, rfl, hj⟩, -⟩ := st_parts h2
 have hp := evP_pos h1 hj
 simp only [doB, canB, nxP, if_pos hr, Int.toNat_natCast] at h
 split at h
 ·simp only [Bool.and_eq_true] at h
  have h3 := h.2
  split at h3
  ·simp only [belB, decide_eq_true_eq] at h3
   omega
  ·simp only [beq_iff_eq] at h3
   omega
 ·simp only [Bool.and_eq_true, beq_iff_eq] at h
  have := h.2.2.1
  omega
theorem rp_peer {g : Nat → I5} {len : Nat} {eh : Nat → E3} : ∀ {k : Nat} {S : S4}, rp g len eh k = some S → ∀ i, i < k → 0 ≤ (eh i).q
 | 0, _, _, i, hi => by omega
 | k + 1, S, h, i, hi => by
  simp only [rp] at h
  cases hr : rp g len eh k with
  | none => rw [hr] at h; cases h
  | some S0 =>
   rw [hr] at h
   simp only [Option.bind_some, rpStep] at h
   split at h
   ·rename_i hd
    by_cases e : i = k
    ·subst e
     exact doB_peer hd
    ·exact rp_peer hr i (by omega)
   ·cases h
theorem repO_some {g : Nat → I5} {n : Nat} {eh : Nat → E3} {m : Nat} {S : S4} (h : repO g n eh m = some S) : progOkB g n 4 = true ∧ m ≤ 200 ∧ rp g n eh m = some S := by
 unfold repO at h
 split at h
 ·rename_i hc
  exact ⟨hc.1, hc.2, h⟩
 ·cases h
structure SysG (W : World) (x : SysIn) : Prop where
 p : RowS W x.pa x.pn fun i => .slice (x.pA i) (x.pL i) (x.pC i)
 pi : ∀ i, i < x.pn → ∃ b, x.pA i = some ⟨b, 0, none⟩ ∧ b < W.heap.size ∧ InsAt W b 0 (x.pL i) (x.pH i)
 s : AllState W x.sa x.sn x.sQ
 w : RowS W x.wa x.wn fun i => .slice (x.wA i) (x.wL i) (x.wC i)
 wi : ∀ i, i < x.wn → ItL W (x.wA i) (x.wL i) (x.wH i)
 h : RowS W x.ha x.hn fun i => .slice (x.hA i) (x.hL i) (x.hC i)
 hi : ∀ i, i < x.hn → EvL W (x.hA i) (x.hL i) (x.hH i)
theorem SysG.below {w w' : World} {x : SysIn} (o : SysG w x) (hb : Below w.heap.size w w') : SysG w' x :=
 ⟨o.p.below hb, fun i hi => by
  obtain ⟨b, e, hlt, hI⟩ := o.pi i hi
  exact ⟨b, e, Nat.lt_of_lt_of_le hlt hb.size, hI.below hb hlt⟩, o.s.below hb, o.w.below hb, fun i hi => (o.wi i hi).below hb, o.h.below hb, fun i hi => (o.hi i hi).below hb⟩
structure SysIn.Len (x : SysIn) : Prop where
 p : x.pn ≤ 1048576 ∧ ∀ i, i < x.pn → x.pL i ≤ 1048576
 s : x.sn ≤ 1048576 ∧ ∀ i, i < x.sn → (x.sQ i).rs.length ≤ 1048576 ∧ (x.sQ i).os.length ≤ 1048576
 w : x.wn ≤ 1048576 ∧ ∀ i, i < x.wn → x.wL i ≤ 1048576
 h : x.hn ≤ 1048576 ∧ ∀ i, i < x.hn → x.hL i ≤ 1048576
abbrev SysIn.v (x : SysIn) : Value := sysV x.pa x.pn x.pc x.sa x.sn x.sc x.wa x.wn x.wc x.ha x.hn x.hc
open Go.Sort
theorem list_of_zi {xs ys : List Int} (hl : xs.length = ys.length) (h : ∀ j, j < xs.length → zi xs j = zi ys j) : xs = ys := by
 refine List.ext_getElem hl fun i h1 h2 => ?_
 have := h i h1
 simpa [zi, List.getD_eq_getElem?_getD, List.getElem?_eq_getElem h1, List.getElem?_eq_getElem h2] using this
theorem equal_any (a0 a1 : Option Addr) (c0 c1 : Nat) (xs ys : List Int) (w : World) (hx : xs.length ≤ 1048576) (hy : ys.length ≤ 1048576) (h0 : Sl w a0 xs) (h1 : Sl w a1 ys) :
  Calls Tryz.prog 93 #[.slice a0 xs.length c0, .slice a1 ys.length c1] w fun e w' => e = .returned (.bool (xs == ys)) ∧ Below w.heap.size w w' := by
 have hl' : (xs.length : Int) ≤ 1048576 := by omega
 have hl2 : (ys.length : Int) ≤ 1048576 := by omega
 by_cases hl : xs.length = ys.length
 ·have H0 : Hid (Sl w a0 xs) := h0
  have H1 : Hid (Sl w a1 ys) := h1
  have HL : Hid (xs.length = ys.length) := hl
  rw [← hl]
  clear h0 h1 hl hy hl2
  go_enter Tryz.func93, Tryz.ntmps93
  go_wp2_with fail
  go_loopw [13] (fun i wr => ∃ k : Nat, k ≤ xs.length ∧ i = .int .i64 k ∧ Below w.heap.size w wr ∧ Hid (∀ j, j < k → zi xs j = zi ys j)) (fun i _ => xs.length - (intOf i).toNat)
  case atStart => exact ⟨0, Nat.zero_le _, rfl, Below.refl _ _, fun j hj => by omega⟩
  case round =>
   obtain ⟨k, hk, rfl, hbw, HZ⟩ := hrel
   by_cases hlt : k < xs.length
   ·have hlt2 : k < ys.length := by have := HL.out; omega
    obtain ⟨b, off, rfl, hbl, ck⟩ := (H0.out.below hbw).at hlt
    obtain ⟨b', off', rfl, hbl', ck'⟩ := (H1.out.below hbw).at hlt2
    have hlt' : (k : Int) < (xs.length : Int) := by omega
    clear hlt2
    rcases Bool.eq_false_or_eq_true (zi xs k != zi ys k) with t | t
    ·have HN : Hid ((xs == ys) = false) := by
      show (xs == ys) = false
      rw [beq_eq_false_iff_ne]
      intro e
      rw [e] at t
      simp at t
     go_wp2_with fail
     go_quiet (fail)
     go_wp2
     go_ret
     rw [HN.out]
     exact ⟨rfl, below_drewN hbw _⟩
    ·have HZ' : Hid (∀ j, j < k + 1 → zi xs j = zi ys j) := fun j hj => by
      by_cases e : j = k
      ·subst e
       simpa using t
      ·exact HZ.out j (by omega)
     clear HZ
     go_wp2_with fail
     go_quiet (fail)
     go_wp2
     go_roundw
     case rel => exact ⟨k + 1, by omega, by go_num, below_drewN hbw _, HZ'.out⟩
     case measure => simp [intOf]; omega
   ·have HE : Hid ((xs == ys) = true) := by
     show (xs == ys) = true
     rw [beq_iff_eq]
     exact list_of_zi HL.out fun j hj => HZ.out j (by omega)
    clear HZ
    go_wp2
    go_ret
    rw [HE.out]
    exact ⟨rfl, hbw⟩
 ·have hne : ((xs.length : Int) != (ys.length : Int)) = true := by simp; omega
  have HN : Hid ((xs == ys) = false) := by
   show (xs == ys) = false
   rw [beq_eq_false_iff_ne]
   intro e
   exact hl (by rw [e])
  clear h0 h1 hl
  go_enter Tryz.func93, Tryz.ntmps93
  go_wp2
  go_ret
  rw [HN.out]
  exact ⟨rfl, Below.refl _ _⟩
def eqS (S T : S4) : Bool := (S.p == T.p) && (S.c == T.c) && (S.rs == T.rs) && (S.os == T.os)
theorem eqS_iff {S T : S4} : eqS S T = true ↔ S = T := by
 obtain ⟨a, b, c, d⟩ := S
 obtain ⟨a', b', c', d'⟩ := T
 simp only [eqS, Bool.and_eq_true, beq_iff_eq, S4.mk.injEq]
 exact ⟨fun ⟨⟨⟨h1, h2⟩, h3⟩, h4⟩ => ⟨h1, h3, h4, h2⟩, fun ⟨h1, h3, h4, h2⟩ => ⟨⟨⟨h1, h2⟩, h3⟩, h4⟩⟩
theorem implSameState_any (S T : S4) (ra oa ra' oa' : Option Addr) (rc oc rc' oc' : Nat) (w : World) (l1 : S.rs.length ≤ 1048576) (l2 : S.os.length ≤ 1048576) (l3 : T.rs.length ≤ 1048576) (l4 : T.os.length ≤ 1048576) (h1 : Sl w ra S.rs) (h2 : Sl w oa S.os) (h3 : Sl w ra' T.rs) (h4 : Sl w oa' T.os) :
  Calls Tryz.prog 90 #[stV S.p ra S.rs.length rc oa S.os.length oc S.c, stV T.p ra' T.rs.length rc' oa' T.os.length oc' T.c] w fun e w' => e = .returned (.bool (eqS S T)) ∧ Below w.heap.size w w' := by
 have H1 : Hid (Sl w ra S.rs ∧ Sl w ra' T.rs) := ⟨h1, h3⟩
 have H2 : Hid (Sl w oa S.os ∧ Sl w oa' T.os) := ⟨h2, h4⟩
 clear h1 h2 h3 h4
 rcases Bool.eq_false_or_eq_true (S.p == T.p) with t1 | t1
 case inr =>
  have HE : Hid (eqS S T = false) := by
   show eqS S T = false
   simp [eqS, t1]
  go_enter Tryz.func90, Tryz.ntmps90
  go_wp2
  go_ret
  rw [HE.out]
  exact ⟨rfl, by go_grown⟩
 rcases Bool.eq_false_or_eq_true (S.c == T.c) with t2 | t2
 case inr =>
  have HE : Hid (eqS S T = false) := by
   show eqS S T = false
   simp [eqS, t2]
  go_enter Tryz.func90, Tryz.ntmps90
  go_wp2
  go_ret
  rw [HE.out]
  exact ⟨rfl, by go_grown⟩
 rcases Bool.eq_false_or_eq_true (S.rs == T.rs) with t3 | t3
 case inr =>
  have HE : Hid (eqS S T = false) := by
   show eqS S T = false
   simp [eqS, t3]
  have T3 : Hid ((S.rs == T.rs) = false) := t3
  clear t3
  go_enter Tryz.func90, Tryz.ntmps90
  go_wp2_with fail
  refine (equal_any _ _ _ _ _ _ _ l1 l3 (H1.out.1.below (by go_grown)) (H1.out.2.below (by go_grown))).mono ?_
  rintro e w1 ⟨rfl, b1⟩
  rw [T3.out]
  have B1 : Hid (Below w.heap.size w w1) := below_up (by go_grown) b1 (by simp; omega)
  clear b1
  go_wp2
  go_ret
  rw [HE.out]
  exact ⟨rfl, B1.out⟩
 have HE : Hid (eqS S T = (S.os == T.os)) := by
  show eqS S T = (S.os == T.os)
  simp [eqS, t1, t2, t3]
 have T3 : Hid ((S.rs == T.rs) = true) := t3
 clear t3
 go_enter Tryz.func90, Tryz.ntmps90
 go_wp2_with fail
 refine (equal_any _ _ _ _ _ _ _ l1 l3 (H1.out.1.below (by go_grown)) (H1.out.2.below (by go_grown))).mono ?_
 rintro e w1 ⟨rfl, b1⟩
 rw [T3.out]
 have B1 : Hid (Below w.heap.size w w1) := below_up (by go_grown) b1 (by simp; omega)
 obtain ⟨hc1, hf1⟩ := bcell b1
 clear b1
 go_wp2_with fail
 refine (equal_any _ _ _ _ _ _ _ l2 l4 (H2.out.1.below B1.out) (H2.out.2.below B1.out)).mono ?_
 rintro e w2 ⟨rfl, b2⟩
 have B2 : Hid (Below w.heap.size w w2) := B1.out.trans (b2.mono B1.out.size)
 clear b2 hc1 hf1
 go_wp2
 go_ret
 rw [HE.out]
 exact ⟨rfl, B2.out⟩
theorem itemOk_any (m : Bool) (v : Int) (w : World) :
  Calls Tryz.prog 125 #[itV m v] w fun e w' => e = .returned (.bool (itemB ⟨m, v⟩)) ∧ Below w.heap.size w w' := by
 rcases Bool.eq_false_or_eq_true m with rfl | rfl
 ·have HE : Hid (itemB ⟨true, v⟩ = (v == 0)) := by
   show itemB ⟨true, v⟩ = (v == 0)
   simp only [itemB, Bool.not_true, Bool.false_or]
   by_cases e : v = 0
   ·subst e
    rfl
   ·have : (v == 0) = false := by simpa using e
    rw [this, Bool.and_false]
  go_enter Tryz.func125, Tryz.ntmps125
  go_wp2
  go_ret
  rw [HE.out]
  exact ⟨rfl, by go_grown⟩
 ·have HE : Hid (itemB ⟨false, v⟩ = inB v (-1000000000) 1000000000) := by
   show itemB ⟨false, v⟩ = inB v (-1000000000) 1000000000
   simp [itemB, numB]
  go_enter Tryz.func125, Tryz.ntmps125
  go_wp2_with fail
  refine (isNum_any _ _).mono ?_
  rintro e w1 ⟨rfl, rfl⟩
  go_wp2
  go_ret
  rw [HE.out]
  exact ⟨rfl, by go_grown⟩
def itemsB (h : Nat → I2) (n : Nat) : Bool := (List.range n).all fun i => itemB (h i)
theorem itemsB_iff {h : Nat → I2} {n : Nat} : itemsB h n = true ↔ ∀ i, i < n → itemB (h i) = true := by
 simp [itemsB]
theorem itemsB_no {h : Nat → I2} {n k : Nat} (hk : k < n) (hf : itemB (h k) = false) : itemsB h n = false := by
 rcases Bool.eq_false_or_eq_true (itemsB h n) with t | t
 ·have := itemsB_iff.1 t k hk
  rw [hf] at this
  cases this
 ·exact t
theorem wayOk_any (a : Option Addr) (len cap : Nat) (h : Nat → I2) (w : World) (hlen : len ≤ 1048576) (hc : ItL w a len h) :
  Calls Tryz.prog 92 #[.slice a len cap] w fun e w' => e = .returned (.bool (decide (len ≤ 12) && itemsB h len)) ∧ Below w.heap.size w w' := by
 have hl' : (len : Int) ≤ 1048576 := by omega
 have HC : Hid (ItL w a len h) := hc
 clear hc
 by_cases h12 : len ≤ 12
 case neg =>
  have h12' : (12 : Int) < (len : Int) := by omega
  have HE : Hid ((decide (len ≤ 12) && itemsB h len) = false) := by
   show (decide (len ≤ 12) && itemsB h len) = false
   simp [h12]
  go_enter Tryz.func92, Tryz.ntmps92
  go_wp2
  go_ret
  rw [HE.out]
  exact ⟨rfl, Below.refl _ _⟩
 have h12' : ¬ (12 : Int) < (len : Int) := by omega
 have HE : Hid ((decide (len ≤ 12) && itemsB h len) = itemsB h len) := by
  show (decide (len ≤ 12) && itemsB h len) = itemsB h len
  simp [h12]
 clear h12
 go_enter Tryz.func92, Tryz.ntmps92
 go_wp2_with fail
 go_loopw [10] (fun i wr => ∃ k : Nat, k ≤ len ∧ i = .int .i64 k ∧ Below w.heap.size w wr ∧ Hid (∀ j, j < k → itemB (h j) = true)) (fun i _ => len - (intOf i).toNat)
 case atStart => exact ⟨0, Nat.zero_le _, rfl, Below.refl _ _, fun j hj => by omega⟩
 case round =>
  obtain ⟨k, hk, rfl, hbw, HZ⟩ := hrel
  by_cases hlt : k < len
  ·have hlt' : (k : Int) < (len : Int) := by omega
   obtain ⟨b, off, rfl, -, c0, c1⟩ := (HC.out.below hbw).at hlt
   go_wp2_with fail
   refine (itemOk_any _ _ _).mono ?_
   rintro e w1 ⟨rfl, b1⟩
   have B1 : Hid (Below w.heap.size w w1) := hbw.trans (((below_alloc wr _).trans (b1.mono (by simp))).mono hbw.size)
   clear b1
   rcases Bool.eq_false_or_eq_true (itemB (h k)) with t | t
   ·have HZ' : Hid (∀ j, j < k + 1 → itemB (h j) = true) := fun j hj => by
     by_cases e : j = k
     ·subst e
      exact t
     ·exact HZ.out j (by omega)
    rw [show itemB { m := (h k).m, v := (h k).v } = true from t]
    clear HZ t
    go_wp2
    go_roundw
    case rel => exact ⟨k + 1, by omega, by go_num, B1.out, HZ'.out⟩
    case measure => simp [intOf]; omega
   ·have HN : Hid (itemsB h len = false) := itemsB_no hlt t
    rw [show itemB { m := (h k).m, v := (h k).v } = false from t]
    clear HZ t
    go_wp2
    go_ret
    rw [HE.out, HN.out]
    exact ⟨rfl, B1.out⟩
  ·have HN : Hid (itemsB h len = true) := itemsB_iff.2 fun j hj => HZ.out j (by omega)
   clear HZ
   go_wp2
   go_ret
   rw [HE.out, HN.out]
   exact ⟨rfl, hbw⟩
noncomputable def pB (p : Prop) : Bool := @decide p (Classical.propDecidable _)
theorem pB_true {p : Prop} (h : p) : pB p = true := by simp [pB, h]
theorem pB_false {p : Prop} (h : ¬ p) : pB p = false := by simp [pB, h]
theorem specSameState_any (S T : S4) (ra oa ra' oa' : Option Addr) (rc oc rc' oc' : Nat) (w : World) (l1 : S.rs.length ≤ 1048576) (l2 : S.os.length ≤ 1048576) (_l3 : T.rs.length ≤ 1048576) (_l4 : T.os.length ≤ 1048576) (h1 : Sl w ra S.rs) (h2 : Sl w oa S.os) (h3 : Sl w ra' T.rs) (h4 : Sl w oa' T.os) :
  Calls Tryz.prog 37 #[stV S.p ra S.rs.length rc oa S.os.length oc S.c, stV T.p ra' T.rs.length rc' oa' T.os.length oc' T.c] w fun e w' => e = .returned (.bool (eqS S T)) ∧ Below w.heap.size w w' := by
 have l1' : (S.rs.length : Int) ≤ 1048576 := by omega
 have l2' : (S.os.length : Int) ≤ 1048576 := by omega
 have H1 : Hid (Sl w ra S.rs ∧ Sl w ra' T.rs) := ⟨h1, h3⟩
 have H2 : Hid (Sl w oa S.os ∧ Sl w oa' T.os) := ⟨h2, h4⟩
 clear h1 h2 h3 h4 l1 l2
 rcases Bool.eq_false_or_eq_true (S.p != T.p) with t1 | t1
 case inl =>
  have HE : Hid (eqS S T = false) := by
   show eqS S T = false
   have : (S.p == T.p) = false := by simpa using t1
   simp [eqS, this]
  go_enter Tryz.func37, Tryz.ntmps37
  go_wp2
  go_ret
  rw [HE.out]
  exact ⟨rfl, by go_grown⟩
 rcases Bool.eq_false_or_eq_true (S.c != T.c) with t2 | t2
 case inl =>
  have HE : Hid (eqS S T = false) := by
   show eqS S T = false
   have : (S.c == T.c) = false := by simpa using t2
   simp [eqS, this]
  go_enter Tryz.func37, Tryz.ntmps37
  go_wp2
  go_ret
  rw [HE.out]
  exact ⟨rfl, by go_grown⟩
 rcases Bool.eq_false_or_eq_true ((S.rs.length : Int) != (T.rs.length : Int)) with t3 | t3
 case inl =>
  have HE : Hid (eqS S T = false) := by
   show eqS S T = false
   have : (S.rs == T.rs) = false := by
    rw [beq_eq_false_iff_ne]
    intro e
    rw [e] at t3
    simp at t3
   simp [eqS, this]
  go_enter Tryz.func37, Tryz.ntmps37
  go_wp2
  go_ret
  rw [HE.out]
  exact ⟨rfl, by go_grown⟩
 rcases Bool.eq_false_or_eq_true ((S.os.length : Int) != (T.os.length : Int)) with t4 | t4
 case inl =>
  have HE : Hid (eqS S T = false) := by
   show eqS S T = false
   have : (S.os == T.os) = false := by
    rw [beq_eq_false_iff_ne]
    intro e
    rw [e] at t4
    simp at t4
   simp [eqS, this]
  go_enter Tryz.func37, Tryz.ntmps37
  go_wp2
  go_ret
  rw [HE.out]
  exact ⟨rfl, by go_grown⟩
 have HE : Hid (eqS S T = ((S.rs == T.rs) && (S.os == T.os)) ∧ S.rs.length = T.rs.length ∧ S.os.length = T.os.length) := by
  have e1 : (S.p == T.p) = true := by simpa using t1
  have e2 : (S.c == T.c) = true := by simpa using t2
  have e3 : S.rs.length = T.rs.length := by simp at t3; omega
  have e4 : S.os.length = T.os.length := by simp at t4; omega
  refine ⟨?_, e3, e4⟩
  show eqS S T = _
  simp [eqS, e1, e2]
 have N1 : Hid (BoxC ((w.alloc (oQ1 S.p ra S.rs.length rc oa S.os.length oc S.c)).alloc (oQ1 T.p ra' T.rs.length rc' oa' T.os.length oc' T.c)) w.heap.size (.int .i64 S.p) (.slice ra S.rs.length rc) (.slice oa S.os.length oc) (.int .i64 S.c)) := (BoxC.new w _ _ _ _ _).below (below_alloc _ _)
 have N2 : Hid (BoxC ((w.alloc (oQ1 S.p ra S.rs.length rc oa S.os.length oc S.c)).alloc (oQ1 T.p ra' T.rs.length rc' oa' T.os.length oc' T.c)) (w.heap.size + 1) (.int .i64 T.p) (.slice ra' T.rs.length rc') (.slice oa' T.os.length oc') (.int .i64 T.c)) := by
  have h := BoxC.new (w.alloc (oQ1 S.p ra S.rs.length rc oa S.os.length oc S.c)) (.int .i64 T.p) (.slice ra' T.rs.length rc') (.slice oa' T.os.length oc') (.int .i64 T.c) 58
  rw [World.size_alloc] at h
  exact h
 have NB : Hid (Below w.heap.size w ((w.alloc (oQ1 S.p ra S.rs.length rc oa S.os.length oc S.c)).alloc (oQ1 T.p ra' T.rs.length rc' oa' T.os.length oc' T.c))) := by
  show Below _ _ _
  go_grown
 go_enter Tryz.func37, Tryz.ntmps37
 go_wp2_with fail
 generalize (w.alloc (oQ1 S.p ra S.rs.length rc oa S.os.length oc S.c)).alloc (oQ1 T.p ra' T.rs.length rc' oa' T.os.length oc' T.c) = wb at *
 go_loopw [5] (fun i wr => ∃ k : Nat, k ≤ S.rs.length ∧ i = .int .i64 k ∧ Below wb.heap.size wb wr ∧ Hid (∀ j, j < k → zi S.rs j = zi T.rs j)) (fun i _ => S.rs.length - (intOf i).toNat)
 case atStart => exact ⟨0, Nat.zero_le _, rfl, Below.refl _ _, fun j hj => by omega⟩
 case round =>
  obtain ⟨k, hk, rfl, hbw, HZ⟩ := hrel
  have hw : Below w.heap.size w wr := NB.out.trans (hbw.mono NB.out.size)
  obtain ⟨n0, n1, n2, n3⟩ := N1.out.below hbw
  obtain ⟨m0, m1, m2, m3⟩ := N2.out.below hbw
  by_cases hlt : k < S.rs.length
  ·have hlt2 : k < T.rs.length := by have := HE.out; omega
   obtain ⟨b, off, rfl, hbl, ck⟩ := (H1.out.1.below hw).at hlt
   obtain ⟨b', off', rfl, hbl', ck'⟩ := (H1.out.2.below hw).at hlt2
   have hlt' : (k : Int) < (S.rs.length : Int) := by omega
   have hlt2' : (k : Int) < (T.rs.length : Int) := by omega
   clear hlt2
   rcases Bool.eq_false_or_eq_true (zi S.rs k != zi T.rs k) with t | t
   ·have HN : Hid (eqS S T = false) := by
     show eqS S T = false
     rw [HE.out.1]
     have : (S.rs == T.rs) = false := by
      rw [beq_eq_false_iff_ne]
      intro e
      rw [e] at t
      simp at t
     rw [this, Bool.false_and]
    go_wp2_with fail
    go_quiet (fail)
    go_wp2
    go_ret
    rw [HN.out]
    exact ⟨rfl, below_drewN hw _⟩
   ·have HZ' : Hid (∀ j, j < k + 1 → zi S.rs j = zi T.rs j) := fun j hj => by
     by_cases e : j = k
     ·subst e
      simpa using t
     ·exact HZ.out j (by omega)
    clear HZ
    go_wp2_with fail
    go_quiet (fail)
    go_wp2
    go_roundw
    case rel => exact ⟨k + 1, by omega, by go_num, below_drewN hbw _, HZ'.out⟩
    case measure => simp [intOf]; omega
  ·have HR : Hid ((S.rs == T.rs) = true) := by
    show (S.rs == T.rs) = true
    rw [beq_iff_eq]
    exact list_of_zi HE.out.2.1 fun j hj => HZ.out j (by omega)
   have hkl : k = S.rs.length := by omega
   subst hkl
   clear HZ hlt hk
   go_wp2_with fail
   clear n0 n1 n2 n3 m0 m1 m2 m3
   go_loopw [6] (fun i wr => ∃ k : Nat, k ≤ S.os.length ∧ i = .int .i64 k ∧ Below wb.heap.size wb wr ∧ Hid (∀ j, j < k → zi S.os j = zi T.os j)) (fun i _ => S.os.length - (intOf i).toNat)
   case atStart => exact ⟨0, Nat.zero_le _, rfl, hbw, fun j hj => by omega⟩
   case round =>
    clear hbw hw
    obtain ⟨k, hk, rfl, hbw, HZ⟩ := hrel
    have hw : Below w.heap.size w wr := NB.out.trans (hbw.mono NB.out.size)
    obtain ⟨n0, n1, n2, n3⟩ := N1.out.below hbw
    obtain ⟨m0, m1, m2, m3⟩ := N2.out.below hbw
    by_cases hlt : k < S.os.length
    ·have hlt2 : k < T.os.length := by have := HE.out; omega
     obtain ⟨b, off, rfl, hbl, ck⟩ := (H2.out.1.below hw).at hlt
     obtain ⟨b', off', rfl, hbl', ck'⟩ := (H2.out.2.below hw).at hlt2
     have hlt' : (k : Int) < (S.os.length : Int) := by omega
     have hlt2' : (k : Int) < (T.os.length : Int) := by omega
     clear hlt2
     rcases Bool.eq_false_or_eq_true (zi S.os k != zi T.os k) with t | t
     ·have HN : Hid (eqS S T = false) := by
       show eqS S T = false
       rw [HE.out.1]
       have : (S.os == T.os) = false := by
        rw [beq_eq_false_iff_ne]
        intro e
        rw [e] at t
        simp at t
       rw [this, Bool.and_false]
      go_wp2_with fail
      go_quiet (fail)
      go_wp2
      go_ret
      rw [HN.out]
      exact ⟨rfl, below_drewN hw _⟩
     ·have HZ' : Hid (∀ j, j < k + 1 → zi S.os j = zi T.os j) := fun j hj => by
       by_cases e : j = k
       ·subst e
        simpa using t
       ·exact HZ.out j (by omega)
      clear HZ
      go_wp2_with fail
      go_quiet (fail)
      go_wp2
      go_roundw
      case rel => exact ⟨k + 1, by omega, by go_num, below_drewN hbw _, HZ'.out⟩
      case measure => simp [intOf]; omega
    ·have HN : Hid (eqS S T = true) := by
      show eqS S T = true
      rw [HE.out.1, HR.out, Bool.true_and, beq_iff_eq]
      exact list_of_zi HE.out.2.2 fun j hj => HZ.out j (by omega)
     clear HZ
     go_wp2
     go_ret
     rw [HN.out]
     exact ⟨rfl, hw⟩
structure LWay (h : Nat → I2) (len : Nat) (sent : List Int) (t : Nat) : Prop where
 it : ∀ i, i < len → itemB (h i) = true
 le : len ≤ 12
 ln : sent.length = t + (numL h len).length
 eq : ∀ j, j < (numL h len).length → zi (numL h len) j = zi sent (t + j)
theorem zi_append_left {xs ys : List Int} {j : Nat} (h : j < xs.length) : zi (xs ++ ys) j = zi xs j := by
 simp [zi, List.getD_eq_getElem?_getD, List.getElem?_append_left h]
theorem zi_append_right {xs ys : List Int} {j : Nat} : zi (xs ++ ys) (xs.length + j) = zi ys j := by
 simp [zi, List.getD_eq_getElem?_getD, List.getElem?_append_right]
theorem LWay.iff {h : Nat → I2} {len : Nat} {took sent : List Int} : (LWay h len sent took.length ∧ ∀ i, i < took.length → zi took i = zi sent i) ↔ WayP h len took sent := by
 refine ⟨fun ⟨a, b⟩ => ⟨a.it, a.le, ?_⟩, fun a => ⟨⟨a.it, a.le, by rw [← a.eq, List.length_append], fun j _ => by rw [← a.eq, zi_append_right]⟩, fun i hi => by rw [← a.eq, zi_append_left hi]⟩⟩
 refine list_of_zi (by rw [List.length_append, a.ln]) fun j hj => ?_
 by_cases hl : j < took.length
 ·rw [zi_append_left hl, b j hl]
 ·rw [List.length_append] at hj
  have e : j = took.length + (j - took.length) := by omega
  rw [e, zi_append_right]
  exact a.eq _ (by omega)
theorem l4Way_any (a : Option Addr) (len cap : Nat) (h : Nat → I2) (sa : Option Addr) (sc : Nat) (sent : List Int) (t : Nat) (w : World) (hlen : len ≤ 1048576) (hc : ItL w a len h) (hs : sent.length ≤ 1048576) (hS : Sl w sa sent) (ht : t ≤ 1048576) :
  Calls Tryz.prog 39 #[.slice a len cap, .slice sa sent.length sc, .int .i64 t] w fun e w' => e = .returned (.bool (pB (LWay h len sent t))) ∧ Below w.heap.size w w' := by
 have hl' : (len : Int) ≤ 1048576 := by omega
 have hs' : (sent.length : Int) ≤ 1048576 := by omega
 have ht' : (t : Int) ≤ 1048576 := by omega
 have HC : Hid (ItL w a len h) := hc
 have HS : Hid (Sl w sa sent) := hS
 clear hc hS
 go_enter Tryz.func39, Tryz.ntmps39
 go_wp2_with fail
 go_loopw [7] (fun i wr => ∃ k : Nat, k ≤ len ∧ i = .int .i64 k ∧ Below w.heap.size w wr ∧ Hid (∀ j, j < k → itemB (h j) = true)) (fun i _ => len - (intOf i).toNat)
 case atStart => exact ⟨0, Nat.zero_le _, rfl, Below.refl _ _, fun j hj => by omega⟩
 case round =>
  obtain ⟨k, hk, rfl, hbw, HZ⟩ := hrel
  by_cases hlt : k < len
  ·have hlt' : (k : Int) < (len : Int) := by omega
   obtain ⟨b, off, rfl, -, c0, c1⟩ := (HC.out.below hbw).at hlt
   have hN : ∀ {x : Bool}, inB (h k).v (-1000000000) 1000000000 = x → numB (h k).v = x := fun e => e
   rcases Bool.eq_false_or_eq_true (inB (h k).v (-1000000000) 1000000000) with t1 | t1
   ·have go_on : itemB (h k) = true → Hid (∀ j, j < k + 1 → itemB (h j) = true) := fun t j hj => by
     by_cases e : j = k
     ·subst e
      exact t
     ·exact HZ.out j (by omega)
    have stop : itemB (h k) = false → Hid (pB (LWay h len sent t) = false) := fun t => pB_false fun x => by
     have := x.it k hlt
     rw [t] at this
     cases this
    rcases Bool.eq_false_or_eq_true (h k).m with t2 | t2
    ·rcases Bool.eq_false_or_eq_true ((h k).v != 0) with t3 | t3
     ·have HN := stop (by
       have : ((h k).v == 0) = false := by simpa using t3
       simp [itemB, t2, this])
      rw [t2] at c0
      clear go_on stop HZ hN
      go_wp2_with fail
      refine (l1Num_any _ _).mono ?_
      rintro e w1 ⟨rfl, rfl⟩
      rw [t1]
      go_wp2
      go_ret
      rw [HN.out]
      exact ⟨rfl, hbw⟩
     ·have HZ' := go_on (by
       have : ((h k).v == 0) = true := by simpa using t3
       simp [itemB, hN t1, this])
      rw [t2] at c0
      clear go_on stop HZ hN
      go_wp2_with fail
      refine (l1Num_any _ _).mono ?_
      rintro e w1 ⟨rfl, rfl⟩
      rw [t1]
      go_wp2
      go_roundw
      case rel => exact ⟨k + 1, by omega, by go_num, hbw, HZ'.out⟩
      case measure => simp [intOf]; omega
    ·have HZ' := go_on (by simp [itemB, hN t1, t2])
     rw [t2] at c0
     clear go_on stop HZ hN
     go_wp2_with fail
     refine (l1Num_any _ _).mono ?_
     rintro e w1 ⟨rfl, rfl⟩
     rw [t1]
     go_wp2
     go_roundw
     case rel => exact ⟨k + 1, by omega, by go_num, hbw, HZ'.out⟩
     case measure => simp [intOf]; omega
   ·have HN : Hid (pB (LWay h len sent t) = false) := pB_false fun x => by
     have := x.it k hlt
     simp [itemB, hN t1] at this
    clear HZ hN
    go_wp2_with fail
    refine (l1Num_any _ _).mono ?_
    rintro e w1 ⟨rfl, rfl⟩
    rw [t1]
    go_wp2
    go_ret
    rw [HN.out]
    exact ⟨rfl, hbw⟩
  ·have HZ' : Hid (∀ j, j < len → itemB (h j) = true) := fun j hj => HZ.out j (by omega)
   have hkl : k = len := by omega
   subst hkl
   clear HZ hlt hk
   go_wp2_with fail
   refine (specNumbers_l a k cap h wr hlen (HC.out.below hbw)).mono ?_
   rintro e w1 ⟨v, rfl, o1, b1⟩
   obtain ⟨na, nc, rfl, s1⟩ := o1.form
   have B1 : Hid (Below w.heap.size w w1) := hbw.trans (b1.mono hbw.size)
   have S1 : Hid (Sl w1 na (numL h k)) := s1
   have hnl := numL_le h k
   have hnl' : ((numL h k).length : Int) ≤ 1048576 := by omega
   clear o1 b1 s1 hbw
   generalize hNU : numL h k = nu at *
   have HNU : Hid (numL h k = nu) := hNU
   clear hNU hnl
   by_cases h12 : k ≤ 12
   case neg =>
    have h12' : (12 : Int) < (k : Int) := by omega
    have HN : Hid (pB (LWay h k sent t) = false) := pB_false fun x => h12 x.le
    go_wp2
    go_ret
    rw [HN.out]
    exact ⟨rfl, B1.out⟩
   have h12' : ¬ (12 : Int) < (k : Int) := by omega
   rcases Bool.eq_false_or_eq_true (((sent.length : Int) - (t : Int)) != (nu.length : Int)) with t5 | t5
   ·have HN : Hid (pB (LWay h k sent t) = false) := pB_false fun x => by
     have := x.ln
     rw [HNU.out] at this
     rw [this] at t5
     simp at t5
     omega
    go_wp2
    go_ret
    rw [HN.out]
    exact ⟨rfl, B1.out⟩
   have HLN : Hid (sent.length = t + nu.length) := by
    show sent.length = t + nu.length
    simp at t5
    omega
   go_wp2_with fail
   go_loopw [9] (fun i wr => ∃ j : Nat, j ≤ nu.length ∧ i = .int .i64 j ∧ Below w1.heap.size w1 wr ∧ Hid (∀ i, i < j → zi nu i = zi sent (t + i))) (fun i _ => nu.length - (intOf i).toNat)
   case atStart => exact ⟨0, Nat.zero_le _, rfl, Below.refl _ _, fun j hj => by omega⟩
   case round =>
    obtain ⟨j, hj, rfl, hbw, HZ⟩ := hrel
    have hw : Below w.heap.size w wr := B1.out.trans (hbw.mono B1.out.size)
    by_cases hlt : j < nu.length
    ·have hlt2 : t + j < sent.length := by have := HLN.out; omega
     obtain ⟨b, off, rfl, hbl, ck⟩ := (S1.out.below hbw).at hlt
     obtain ⟨b', off', rfl, hbl', ck'⟩ := (HS.out.below hw).at hlt2
     have hlt' : (j : Int) < (nu.length : Int) := by omega
     have hlt2' : (t : Int) + (j : Int) < (sent.length : Int) := by omega
     have hq : ((t : Int) + (j : Int)).toNat = t + j := by omega
     clear hlt2
     rcases Bool.eq_false_or_eq_true (zi nu j != zi sent (t + j)) with t6 | t6
     ·have HN : Hid (pB (LWay h k sent t) = false) := pB_false fun x => by
       have := x.eq j (by rw [HNU.out]; exact hlt)
       rw [HNU.out] at this
       rw [this] at t6
       simp at t6
      go_wp2_with fail
      go_quiet (fail)
      go_wp2
      go_ret
      rw [HN.out]
      exact ⟨rfl, below_drewN hw _⟩
     ·have HZ2 : Hid (∀ i, i < j + 1 → zi nu i = zi sent (t + i)) := fun i hi => by
       by_cases e : i = j
       ·subst e
        simpa using t6
       ·exact HZ.out i (by omega)
      clear HZ
      go_wp2_with fail
      go_quiet (fail)
      go_wp2
      go_roundw
      case rel => exact ⟨j + 1, by omega, by go_num, below_drewN hbw _, HZ2.out⟩
      case measure => simp [intOf]; omega
    ·have HN : Hid (pB (LWay h k sent t) = true) := pB_true ⟨HZ'.out, h12, by rw [HNU.out]; exact HLN.out, fun i hi => by
      rw [HNU.out] at hi ⊢
      exact HZ.out i (by omega)⟩
     clear HZ
     go_wp2
     go_ret
     rw [HN.out]
     exact ⟨rfl, hw⟩
theorem Touch.set {P : Nat → Prop} {w w' : World} (h : Touch P w w') {a : Addr} (ha : P a.block) (u : Value) : Touch P w (w'.setCell a u) := h.trans (Touch.of_set w' ha u)
theorem Touch.sets {P : Nat → Prop} {b : Nat} (hb : P b) : ∀ (vs : List Value) (o : Nat) {w w' : World}, Touch P w w' → Touch P w (w'.setCells b o vs)
 | [], _, _, _, h => h
 | v :: r, o, _, _, h => Touch.sets hb r (o + 1) (h.set (a := ⟨b, o, none⟩) hb v)
theorem infoHis : (Tryz.prog.info? 75).map (·.size) = some 21 := by kernel_rfl
theorem rowBack (X Bf Hb : Nat) (w : World) (cs : List Value) (hl : cs.length = 21) (h1 : ∀ v ∈ cs, v.oneCell' = true) (hB : w.rangeAt Bf 0 cs) (hT : w.there X 4 21) (hH : w.cell? ⟨Hb, 0, none⟩ = some (.pointer (some ⟨X, 4, none⟩))) (u : FrameMode) :
  CallsD Tryz.prog 97 #[.pointer (some ⟨Bf, 0, none⟩), .pointer (some ⟨Hb, 0, none⟩)] u w fun e u' w' => u' = u ∧ (e = .returned (.tuple #[]) ∧ Touch (fun b => b = X) w w') := by
 have HB : Hid (w.rangeAt Bf 0 cs) := hB
 have HT : Hid (w.there X 4 cs.toArray.size) := by rw [show cs.toArray.size = 21 by simp [hl]]; exact hT
 have HI : Hid ((Tryz.prog.info? 75).map (·.size) = some cs.length) := by rw [hl]; exact infoHis
 have HO : Hid (cs.toArray.all (·.oneCell') = true) := all_oneCell_toArray h1
 clear hB hT h1 hl
 go_enter_d Tryz.func97, Tryz.ntmps97
 go_wp2_with (first | (refine wpList_load_mid rfl 75 (.tmp 0) rfl Bf 0 rfl cs _ HB.out Tryz.underlying75 rfl HI.out ?_) | (refine wpList_store_mid rfl 75 (.tmp 4) (.tmp 3) rfl X 4 cs.toArray rfl rfl HT.out (by simpa using HI.out) HO.out ?_))
 go_end0
 exact ⟨rfl, Touch.sets (P := fun b => b = X) rfl _ _ (Touch.refl _ _)⟩
def hisL (ha : Option Addr) (hc : Nat) (y : Hs) (d : Nat → Nat) : List Value :=
 [.slice ha y.n hc, .int .i64 (d 0), .int .i64 (d 1), .int .i64 (d 2), .int .i64 (d 3),
  .int .i64 (y.opn d 0 0), .int .i64 (y.opn d 0 1), .int .i64 (y.opn d 0 2), .int .i64 (y.opn d 0 3), .int .i64 (y.opn d 1 0), .int .i64 (y.opn d 1 1), .int .i64 (y.opn d 1 2), .int .i64 (y.opn d 1 3),
  .int .i64 (y.opn d 2 0), .int .i64 (y.opn d 2 1), .int .i64 (y.opn d 2 2), .int .i64 (y.opn d 2 3), .int .i64 (y.opn d 3 0), .int .i64 (y.opn d 3 1), .int .i64 (y.opn d 3 2), .int .i64 (y.opn d 3 3)]
theorem HisP.range {w : World} {X : Nat} {ha : Option Addr} {hc : Nat} {y : Hs} {d : Nat → Nat} (h : HisP w X ha hc y d) : w.rangeAt X 4 (hisL ha hc y d) := by
 intro j v hj
 have hl : j < 21 := by
  have := (List.getElem?_eq_some_iff.1 hj).1
  simpa [hisL] using this
 match j, hl, hj with
 | 0, _, hj => rw [← hj]; exact h.c4
 | 1, _, hj => rw [← hj]; exact h.pt 0 (by omega)
 | 2, _, hj => rw [← hj]; exact h.pt 1 (by omega)
 | 3, _, hj => rw [← hj]; exact h.pt 2 (by omega)
 | 4, _, hj => rw [← hj]; exact h.pt 3 (by omega)
 | 5, _, hj => rw [← hj]; exact h.op 0 0 (by omega) (by omega)
 | 6, _, hj => rw [← hj]; exact h.op 0 1 (by omega) (by omega)
 | 7, _, hj => rw [← hj]; exact h.op 0 2 (by omega) (by omega)
 | 8, _, hj => rw [← hj]; exact h.op 0 3 (by omega) (by omega)
 | 9, _, hj => rw [← hj]; exact h.op 1 0 (by omega) (by omega)
 | 10, _, hj => rw [← hj]; exact h.op 1 1 (by omega) (by omega)
 | 11, _, hj => rw [← hj]; exact h.op 1 2 (by omega) (by omega)
 | 12, _, hj => rw [← hj]; exact h.op 1 3 (by omega) (by omega)
 | 13, _, hj => rw [← hj]; exact h.op 2 0 (by omega) (by omega)
 | 14, _, hj => rw [← hj]; exact h.op 2 1 (by omega) (by omega)
 | 15, _, hj => rw [← hj]; exact h.op 2 2 (by omega) (by omega)
 | 16, _, hj => rw [← hj]; exact h.op 2 3 (by omega) (by omega)
 | 17, _, hj => rw [← hj]; exact h.op 3 0 (by omega) (by omega)
 | 18, _, hj => rw [← hj]; exact h.op 3 1 (by omega) (by omega)
 | 19, _, hj => rw [← hj]; exact h.op 3 2 (by omega) (by omega)
 | 20, _, hj => rw [← hj]; exact h.op 3 3 (by omega) (by omega)
theorem hisL_one {ha : Option Addr} {hc : Nat} {y : Hs} {d : Nat → Nat} : ∀ v ∈ hisL ha hc y d, v.oneCell' = true := by
 intro v hv
 simp only [hisL, List.mem_cons, List.not_mem_nil, or_false] at hv
 rcases hv with rfl | rfl | rfl | rfl | rfl | rfl | rfl | rfl | rfl | rfl | rfl | rfl | rfl | rfl | rfl | rfl | rfl | rfl | rfl | rfl | rfl <;> rfl
theorem HisP.thereX {w : World} {X : Nat} {ha : Option Addr} {hc : Nat} {y : Hs} {d : Nat → Nat} (h : HisP w X ha hc y d) : w.there X 4 21 := fun j hj => ⟨h.range.isSome j (by simpa [hisL] using hj), h.fr _⟩
theorem sumL_same {d e : Nat → Nat} : ∀ {n : Nat}, (∀ i, i < n → d i = e i) → sumL d n = sumL e n
 | 0, _ => rfl
 | n + 1, h => by
  show sumL d n + d n = sumL e n + e n
  rw [sumL_same fun i hi => h i (by omega), h n (by omega)]
theorem sumL_zero : ∀ n, sumL (fun _ => 0) n = 0
 | 0 => rfl
 | n + 1 => sumL_zero n
theorem sumL_up {d : Nat → Nat} {k : Nat} : ∀ {n : Nat}, k < n → sumL (up d k) n = sumL d n + 1
 | 0, h => by omega
 | n + 1, h => by
  show sumL (up d k) n + up d k n = sumL d n + d n + 1
  by_cases e : k = n
  ·subst e
   rw [up_same]
   have : sumL (up d k) k = sumL d k := sumL_same fun i hi => up_other (by omega)
   omega
  ·rw [sumL_up (by omega), up_other (by omega)]
   omega
theorem sumL_le {d l : Nat → Nat} (h : ∀ i, d i ≤ l i) : ∀ n, sumL d n ≤ sumL l n
 | 0 => Nat.le_refl _
 | n + 1 => by
  have := sumL_le h n
  have := h n
  show sumL d n + d n ≤ sumL l n + l n
  omega
structure Rw (w0 W wr : World) (X Bf Hb : Nat) (ha : Option Addr) (hc : Nat) (y : Hs) (cs : List Value) (d : Nat → Nat) : Prop where
 pu : y.Put d
 hp : HisP wr X ha hc y d
 be : Below w0.heap.size w0 wr
 hb : wr.cell? ⟨Hb, 0, none⟩ = some (.pointer (some ⟨X, 4, none⟩))
 bf : wr.rangeAt Bf 0 cs
theorem rangeAt_touch {P : Nat → Prop} {w w' : World} {b o : Nat} {cs : List Value} (h : w.rangeAt b o cs) (t : Touch P w w') (hb : ¬ P b) : w'.rangeAt b o cs := fun j v hv => by
 have := h j v hv
 rw [t.cell (World.block_lt_of_cell? w _ this) hb]
 exact this
theorem Rw.touch {w0 W wr w' : World} {X Bf Hb : Nat} {ha : Option Addr} {hc : Nat} {y : Hs} {cs : List Value} {d d' : Nat → Nat} (h : Rw w0 W wr X Bf Hb ha hc y cs d) (t : Touch (fun b => b = X) wr w') (hX : w0.heap.size ≤ X) (hB : Bf ≠ X) (hH : Hb ≠ X) (pu : y.Put d') (hp : HisP w' X ha hc y d') : Rw w0 W w' X Bf Hb ha hc y cs d' :=
 ⟨pu, hp, h.be.trans (t.below h.be.size fun b e => by omega), (t.cell (World.block_lt_of_cell? wr _ h.hb) hH 0).trans h.hb, rangeAt_touch h.bf t hB⟩
theorem canRow_any (X : Nat) (ha : Option Addr) (hc : Nat) (hA : Nat → Option Addr) (hC : Nat → Nat) (y : Hs) (w0 w : World) (hE : HisE w0 ha hA hC y) (hb : Below w0.heap.size w0 w) (hX : w0.heap.size ≤ X) (hP : HisP w X ha hc y (fun _ => 0)) (h4 : y.n ≤ 4) (hp : y.Peers) (hl : ∀ i, i < y.n → y.l i ≤ 200) :
  Calls Tryz.prog 50 #[.pointer (some ⟨X, 4, none⟩)] w fun e w' => e = .returned (.bool (qB y.Row)) ∧ Below w0.heap.size w0 w' := by
 have HE : Hid (HisE w0 ha hA hC y) := hE
 have HH : Hid (y.Peers ∧ (∀ i, i < y.n → y.l i ≤ 200) ∧ w0.heap.size ≤ X) := ⟨hp, hl, hX⟩
 have zX := hP.lt
 obtain ⟨cs, hcs, hlen, hone⟩ : ∃ cs, w.rangeAt X 4 cs ∧ cs.length = 21 ∧ ∀ v ∈ cs, v.oneCell' = true := ⟨_, hP.range, rfl, hisL_one⟩
 have hsz : cs.toArray.size = 21 := by simpa using hlen
 have HL21 : Hid (cs.length = 21 ∧ ∀ v ∈ cs, v.oneCell' = true) := ⟨hlen, hone⟩
 have HI : Hid ((Tryz.prog.info? 75).map (·.size) = some cs.length) := by rw [hlen]; exact infoHis
 have HR : Hid ((w.alloc (.cells #[.pointer (some ⟨X, 4, none⟩)] 116)).rangeAt X 4 cs) := World.rangeAt_alloc hcs _
 have HO : Hid (cs.toArray.all (·.oneCell') = true) := all_oneCell_toArray hone
 have hmf : ∀ (fn : Fn) (first cap : Array Value) (w : World), (Instr.makeFunc fn first cap).run Tryz.prog w = .ok (.func fn first cap) w := fun _ _ _ _ => rfl
 have HT : Hid (((w.alloc (.cells #[.pointer (some ⟨X, 4, none⟩)] 116)).alloc (zQ2)).there (w.heap.size + 1) 0 cs.toArray.size) := fun j hj => by
  have hj' : j < 21 := by rw [← hsz]; exact hj
  refine ⟨?_, new_frozen _ _ _ _ (by simp)⟩
  rw [Nat.zero_add, new_cell _ _ _ j (by simp), Array.getElem?_eq_getElem (by simpa using hj')]
  rfl
 have tw : Touch (fun b => b = w.heap.size + 1) w (((w.alloc (.cells #[.pointer (some ⟨X, 4, none⟩)] 116)).alloc (zQ2)).setCells (w.heap.size + 1) 0 cs) := Touch.sets (P := fun b => b = w.heap.size + 1) rfl _ _ (Touch.of_below ((below_alloc _ _).trans ((below_alloc _ _).mono (by simp))))
 have HRw : Hid (Rw w0 w (((w.alloc (.cells #[.pointer (some ⟨X, 4, none⟩)] 116)).alloc (zQ2)).setCells (w.heap.size + 1) 0 cs) X (w.heap.size + 1) w.heap.size ha hc y cs (fun _ => 0)) := by
  refine ⟨.start, hP.blk (tw.block X zX (by omega)), hb.trans (tw.below hb.size fun b e => by have := hb.size; omega), ?_, World.rangeAt_setCells_same _ _ _ _ (by simpa using HT.out)⟩
  rw [World.cell?_setCells_out _ _ _ _ _ (fun e => absurd e (by simp)), World.cell?_alloc_lt _ _ _ (by simp)]
  exact new_cell _ _ _ 0 rfl
 have HX : Hid (X < w.heap.size) := zX
 clear hE hp hl hX tw hb hP zX hlen hsz hcs hone
 go_enter_defers Tryz.func50, Tryz.ntmps50
 have h0 := HRw.out.hb
 go_wp2_with (first | (refine wpList_load_mid rfl 75 (.tmp 6) rfl X 4 rfl cs _ HR.out Tryz.underlying75 rfl HI.out ?_) | (refine wpList_store_mid rfl 75 (.tmp 3) (.tmp 7) rfl (w.heap.size + 1) 0 cs.toArray rfl rfl HT.out (by simpa using HI.out) HO.out ?_))
 clear HR HT HI HO
 generalize ((w.alloc (.cells #[.pointer (some ⟨X, 4, none⟩)] 116)).alloc (zQ2)).setCells (w.heap.size + 1) 0 cs = W1 at *
 have nX : Hid (w.heap.size + 1 ≠ X ∧ w.heap.size ≠ X) := by
  have := HX.out
  exact ⟨by omega, by omega⟩
 refine (next_any X ha hc hA hC y (fun _ => 0) W1 (HE.out.below HRw.out.be) HRw.out.hp h4 HH.out.1 HH.out.2.1 HRw.out.pu.le).mono ?_
 rintro e w1 ⟨q1, hor⟩
 have HNx : Hid (Rw w0 w w1 X (w.heap.size + 1) w.heap.size ha hc y cs (fun _ => 0)) := HRw.out.touch (Touch.of_below q1) HH.out.2.2 nX.out.1 nX.out.2 HRw.out.pu (HRw.out.hp.below q1)
 obtain ⟨z, rfl, HOr⟩ : ∃ z : Int, e = .returned (.int .i64 z) ∧ Hid ((∃ k, k < y.n ∧ y.Can (fun _ => 0) k ∧ z = (k : Nat)) ∨ (z = -1 ∧ ∀ p, p < y.n → ¬ y.Can (fun _ => 0) p)) := by
  rcases hor with ⟨k, hk, hcan, rfl⟩ | ⟨rfl, hn⟩
  ·exact ⟨_, rfl, .inl ⟨k, hk, hcan, rfl⟩⟩
  ·exact ⟨_, rfl, .inr ⟨rfl, hn⟩⟩
 clear hor q1 h0 HRw
 go_wp2_with fail
 go_loopg [4] (sumL y.l y.n) (fun k p wr => ∃ d z, k = sumL y.l y.n - sumL d y.n ∧ p = .int .i64 z ∧ Rw w0 w wr X (w.heap.size + 1) w.heap.size ha hc y cs d ∧ Hid ((∃ k, k < y.n ∧ y.Can d k ∧ z = (k : Nat)) ∨ (z = -1 ∧ ∀ p, p < y.n → ¬ y.Can d p)))
 case atStart => exact ⟨_, z, by simp [sumL_zero], rfl, HNx.out, HOr.out⟩
 case round =>
  clear HNx HOr
  obtain ⟨d, zz, hgk, rfl, rw0, HOr⟩ := hrel
  have HRr : Hid (Rw w0 w wr X (w.heap.size + 1) w.heap.size ha hc y cs d) := rw0
  have h1 := rw0.hb
  have HG : Hid (gk = sumL y.l y.n - sumL d y.n) := hgk
  clear rw0 hgk
  rcases HOr.out with ⟨k, hk, hcan, rfl⟩ | ⟨rfl, hst⟩
  ·have HCn : Hid (y.Can d k) := hcan
   have hz : ¬ (k : Int) = -1 := by omega
   have hz' : ((k : Int) == -1) = false := by simp
   clear HOr hcan
   go_wp2_with fail
   refine (putOne_any X ha hc hA hC y d k wr (HE.out.below HRr.out.be) HRr.out.hp h4 hk HH.out.1 HH.out.2.1 HRr.out.pu.le HCn.out.1).mono ?_
   rintro e w1 ⟨rfl, hp1, t1⟩
   have hpu : y.Put (up d k) := .next HRr.out.pu hk HCn.out
   have HN : Hid (Rw w0 w w1 X (w.heap.size + 1) w.heap.size ha hc y cs (up d k)) := HRr.out.touch t1 HH.out.2.2 nX.out.1 nX.out.2 hpu hp1
   have HM : Hid (sumL y.l y.n - sumL (up d k) y.n < gk) := by
    have h2 := sumL_up (d := d) hk
    have h3 := sumL_le hpu.le y.n
    have h4 := HG.out
    show sumL y.l y.n - sumL (up d k) y.n < gk
    omega
   clear hp1 t1 hpu h1 HRr HG hz hz'
   generalize up d k = d2 at *
   have h1 := HN.out.hb
   go_wp2_with fail
   refine (next_any X ha hc hA hC y d2 w1 (HE.out.below HN.out.be) HN.out.hp h4 HH.out.1 HH.out.2.1 HN.out.pu.le).mono ?_
   rintro e w2 ⟨q2, hor⟩
   have HN2 : Hid (Rw w0 w w2 X (w.heap.size + 1) w.heap.size ha hc y cs d2) := HN.out.touch (Touch.of_below q2) HH.out.2.2 nX.out.1 nX.out.2 HN.out.pu (HN.out.hp.below q2)
   obtain ⟨z, rfl, HOr⟩ : ∃ z : Int, e = .returned (.int .i64 z) ∧ Hid ((∃ k, k < y.n ∧ y.Can d2 k ∧ z = (k : Nat)) ∨ (z = -1 ∧ ∀ p, p < y.n → ¬ y.Can d2 p)) := by
    rcases hor with ⟨k, hk, hcan, rfl⟩ | ⟨rfl, hn⟩
    ·exact ⟨_, rfl, .inl ⟨k, hk, hcan, rfl⟩⟩
    ·exact ⟨_, rfl, .inr ⟨rfl, hn⟩⟩
   clear hor q2 h1 HN
   go_wp2
   go_roundg (sumL y.l y.n - sumL d2 y.n)
   case measure => exact HM.out
   case rel => exact ⟨d2, z, rfl, rfl, HN2.out, HOr.out⟩
  ·have HRow : Hid (qB (y.All d) = qB y.Row) := by
    show qB (y.All d) = qB y.Row
    have hi := Hs.row_iff HRr.out.pu HH.out.1 hst
    by_cases hr : y.Row
    ·rw [qB_true hr, qB_true (hi.1 hr)]
    ·rw [qB_false hr, qB_false (fun h => hr (hi.2 h))]
   have HN : Hid (Rw w0 w wr X (w.heap.size + 1) w.heap.size ha hc y cs d) := HRr.out
   clear hst HG HOr HRr
   go_wp2_with fail
   refine (allPut_any X ha hc hA hC y d wr (HE.out.below HN.out.be) HN.out.hp h4 HH.out.2.1 HN.out.pu.le).mono ?_
   rintro e w2 ⟨rfl, b2⟩
   rw [HRow.out]
   have B2 : Hid (Below wr.heap.size wr w2) := b2
   clear b2 h1
   have HB2 : Hid (Below w0.heap.size w0 w2 ∧ w2.rangeAt (w.heap.size + 1) 0 cs ∧ w2.there X 4 21 ∧ w2.cell? ⟨w.heap.size, 0, none⟩ = some (.pointer (some ⟨X, 4, none⟩))) :=
    ⟨HN.out.be.trans (B2.out.mono HN.out.be.size), rangeAt_touch (P := fun _ => False) HN.out.bf (Touch.of_below B2.out) (fun h => h), (HN.out.hp.below B2.out).thereX, (B2.out.cell (p := ⟨w.heap.size, 0, none⟩) (World.block_lt_of_cell? wr _ HN.out.hb)).trans HN.out.hb⟩
   go_wp2
   refine leaves_cons (f := 97) (args := #[.pointer (some ⟨w.heap.size + 1, 0, none⟩), .pointer (some ⟨w.heap.size, 0, none⟩)]) (by simp) (by simp [go_sem]) ?_
   refine (rowBack X (w.heap.size + 1) w.heap.size w2 cs HL21.out.1 HL21.out.2 HB2.out.2.1 HB2.out.2.2.1 HB2.out.2.2.2 .returning).mono ?_
   rintro e u' w3 ⟨rfl, rfl, t3⟩
   exact ⟨_, results_tmp rfl _ _ _, rfl, HB2.out.1.trans (t3.below HB2.out.1.size fun b e => by have := HH.out.2.2; omega)⟩
theorem plN_get (eh : Nat → E3) (kd pr : Int) : ∀ (n j q : Nat), (plN eh kd pr n)[j]? = some q → q < n ∧ hitB eh kd pr q = true ∧ cnt eh kd pr q = j
 | 0, j, q, h => by simp [plN] at h
 | n + 1, j, q, h => by
  rcases Bool.eq_false_or_eq_true (hitB eh kd pr n) with t | t
  ·rw [plN, if_pos t] at h
   by_cases hj : j < (plN eh kd pr n).length
   ·rw [List.getElem?_append_left hj] at h
    obtain ⟨h1, h2, h3⟩ := plN_get eh kd pr n j q h
    exact ⟨by omega, h2, h3⟩
   ·rw [List.getElem?_append_right (by omega)] at h
    have hj2 : j - (plN eh kd pr n).length = 0 := by
     by_cases e : j - (plN eh kd pr n).length = 0
     ·exact e
     ·rw [List.getElem?_eq_none (by simp; omega)] at h
      cases h
    rw [hj2] at h
    simp at h
    subst h
    refine ⟨by omega, t, ?_⟩
    unfold cnt
    omega
  ·rw [plN, if_neg (by rw [t]; decide)] at h
   obtain ⟨h1, h2, h3⟩ := plN_get eh kd pr n j q h
   exact ⟨by omega, h2, h3⟩
theorem nthV_some {eh : Nat → E3} {kd pr : Int} {len n : Nat} (h : n < cnt eh kd pr len) : ∃ q : Nat, nthV eh kd pr len n = q ∧ q < len ∧ hitB eh kd pr q = true ∧ cnt eh kd pr q = n := by
 have hl : n < (plI eh kd pr len).length := by rw [plI_length]; exact h
 obtain ⟨q, h1, h2, h3⟩ := plI_place eh kd pr len n hl
 obtain ⟨-, h4, h5⟩ := plN_get eh kd pr len n q h3
 refine ⟨q, ?_, h2, h4, h5⟩
 unfold nthV
 rw [if_pos (by simp [belB]; omega), Int.toNat_natCast]
 exact h1
theorem nthV_none {eh : Nat → E3} {kd pr : Int} {len n : Nat} (h : cnt eh kd pr len ≤ n) : nthV eh kd pr len n = -1 := by
 unfold nthV
 rw [if_neg]
 have hl : (plI eh kd pr len).length ≤ n := by rw [plI_length]; exact h
 simp [belB]
 omega
theorem nthV_more {eh : Nat → E3} {kd pr : Int} {len len' n : Nat} (h : n < cnt eh kd pr len) (hl : len ≤ len') : nthV eh kd pr len' n = nthV eh kd pr len n := by
 obtain ⟨q, h1, h2, h3, h4⟩ := nthV_some h
 rw [h1]
 exact nthV_hit (by omega) h3 (by rw [plI_length]; show (n : Int) = (cnt eh kd pr q : Nat); omega)
structure Sy.Cut (y : Sy) (c : List Int) : Prop where
 len : c.length = y.pn
 le : ∀ p, p < y.pn → 0 ≤ zi c p ∧ zi c p ≤ (y.hL p : Int)
noncomputable def cutB (y : Sy) (c : List Int) : Bool := y.okB && qB (y.Cut c)
def cN (c : List Int) (p : Nat) : Nat := (zi c p).toNat
def sN (y : Sy) (c : Nat → Nat) (a b : Nat) : Nat := cnt (y.hH a) 2 b (c a)
def tN (y : Sy) (c : Nat → Nat) (a b : Nat) : Nat := cnt (y.hH b) 3 a (c b)
def Sy.Wh (y : Sy) (c : Nat → Nat) : Prop := ∀ a, a < y.pn → ∀ b, b < y.pn → tN y c a b ≤ sN y c a b
def ovN (y : Sy) (c : Nat → Nat) (a b : Nat) : Int := nthV (y.hH b) 3 a (c b) (sN y c a b : Nat)
theorem ovN_no {y : Sy} {c : Nat → Nat} {a b : Nat} (h : tN y c a b ≤ sN y c a b) : ovN y c a b = -1 := nthV_none h
theorem ovN_yes {y : Sy} {c : Nat → Nat} {a b : Nat} (h : ¬ tN y c a b ≤ sN y c a b) : ∃ k : Nat, ovN y c a b = k ∧ k < c b ∧ hitB (y.hH b) 3 a k = true ∧ cnt (y.hH b) 3 a k = sN y c a b := nthV_some (by unfold tN at h; omega)
theorem ovN_full {y : Sy} {c : Nat → Nat} {a b : Nat} (h : ¬ tN y c a b ≤ sN y c a b) (hl : c b ≤ y.hL b) : nthV (y.hH b) 3 a (y.hL b) (sN y c a b : Nat) = ovN y c a b := nthV_more (by unfold tN at h; omega) hl
theorem ovN_neg {y : Sy} {c : Nat → Nat} {a b : Nat} : ovN y c a b < 0 ↔ tN y c a b ≤ sN y c a b := by
 refine ⟨fun h => ?_, fun h => by rw [ovN_no h]; decide⟩
 by_cases hc : tN y c a b ≤ sN y c a b
 ·exact hc
 ·obtain ⟨k, e, -⟩ := ovN_yes hc
  omega
noncomputable def whB (y : Sy) (c : List Int) : Bool := cutB y c && qB (y.Wh (cN c))
structure Sy.Cl (y : Sy) (c e : List Int) : Prop where
 len : e.length = y.pn
 le : ∀ p, p < y.pn → 0 ≤ zi e p ∧ zi e p ≤ zi c p
 gr : ∀ d : Nat → Nat, (∀ p, p < y.pn → (d p : Int) ≤ zi c p) → y.Wh d → ∀ p, p < y.pn → (d p : Int) ≤ zi e p
theorem Sy.Cl.start {y : Sy} {c : List Int} (h : y.Cut c) : y.Cl c c := ⟨h.len, fun p hp => ⟨(h.le p hp).1, Int.le_refl _⟩, fun _ h _ => h⟩
theorem Sy.Cl.cut {y : Sy} {c e : List Int} (h : y.Cl c e) (hc : y.Cut c) : y.Cut e := ⟨h.len, fun p hp => ⟨(h.le p hp).1, Int.le_trans (h.le p hp).2 (hc.le p hp).2⟩⟩
theorem zi_set {e : List Int} {b p : Nat} {k : Int} (hb : b < e.length) : zi (e.set b k) p = if p = b then k else zi e p := by
 by_cases h : p = b
 ·subst h
  rw [if_pos rfl, getD_set_self e p k hb]
 ·rw [if_neg h, getD_set_ne e p b k h]
theorem Sy.Cl.next {y : Sy} {c e : List Int} {a b : Nat} (h : y.Cl c e) (ha : a < y.pn) (hb : b < y.pn) (ho : 0 ≤ ovN y (cN e) a b) : y.Cl c (e.set b (ovN y (cN e) a b)) ∧ 0 ≤ ovN y (cN e) a b ∧ ovN y (cN e) a b < zi e b := by
 have hn : ¬ tN y (cN e) a b ≤ sN y (cN e) a b := fun hc => by
  have := ovN_neg.2 hc
  omega
 obtain ⟨k, e1, e2, e3, e4⟩ := ovN_yes hn
 have eb := (h.le b hb)
 have hkb : (k : Int) < zi e b := by unfold cN at e2; omega
 refine ⟨⟨by rw [List.length_set]; exact h.len, fun p hp => ?_, fun d hd hw p hp => ?_⟩, ho, by omega⟩
 ·rw [zi_set (by rw [h.len]; exact hb)]
  by_cases ep : p = b
  ·subst ep
   rw [if_pos rfl]
   omega
  ·rw [if_neg ep]
   exact h.le p hp
 ·rw [zi_set (by rw [h.len]; exact hb)]
  have h0 := h.gr d hd hw p hp
  by_cases ep : p = b
  ·subst ep
   rw [if_pos rfl, e1]
   by_cases hc : (d p : Int) ≤ k
   ·exact hc
   ·exfalso
    have h1 : sN y d a p ≤ sN y (cN e) a p := cnt_mono _ _ _ (by
     have := h.gr d hd hw a ha
     unfold cN
     omega)
    have h2 : cnt (y.hH p) 3 a (k + 1) ≤ tN y d a p := cnt_mono _ _ _ (by omega)
    rw [cnt_hit e3, e4] at h2
    have := hw a ha p hb
    omega
  ·rw [if_neg ep]
   exact h0
theorem Sy.Cl.same {y : Sy} {c e e' : List Int} (h : y.Cl c e) (hw : y.Wh (cN e)) (h' : y.Cl c e') (hw' : y.Wh (cN e')) : e = e' := by
 refine ext_getD (h.len.trans h'.len.symm) fun p hp => ?_
 have hp' : p < y.pn := by rw [← h.len]; exact hp
 have h1 := h.gr (cN e') (fun q hq => by have := h'.le q hq; unfold cN; omega) hw' p hp'
 have h2 := h'.gr (cN e) (fun q hq => by have := h.le q hq; unfold cN; omega) hw p hp'
 have h3 := h.le p hp'
 have h4 := h'.le p hp'
 unfold cN at h1 h2
 omega
open Classical in
noncomputable def clS (y : Sy) (c : List Int) : List Int := if h : cutB y c = true ∧ ∃ e, y.Cl c e ∧ y.Wh (cN e) then h.2.choose else []
theorem clS_no {y : Sy} {c : List Int} (h : cutB y c = false) : clS y c = [] := by
 unfold clS
 rw [dif_neg]
 rw [h]
 simp
theorem clS_yes {y : Sy} {c e : List Int} (h : cutB y c = true) (h1 : y.Cl c e) (h2 : y.Wh (cN e)) : clS y c = e := by
 unfold clS
 have hx : cutB y c = true ∧ ∃ e, y.Cl c e ∧ y.Wh (cN e) := ⟨h, e, h1, h2⟩
 rw [dif_pos hx]
 exact hx.2.choose_spec.1.same hx.2.choose_spec.2 h1 h2
theorem clS_len (y : Sy) (c : List Int) : (clS y c).length ≤ 4 := by
 unfold clS
 split
 ·rename_i h
  rw [h.2.choose_spec.1.len]
  have h1 := h.1
  unfold cutB at h1
  simp only [Bool.and_eq_true] at h1
  exact (Sy.ok_of h1.1).cn.1.2
 ·simp
theorem cutB_parts {y : Sy} {c : List Int} (h : cutB y c = true) : y.Ok ∧ y.Cut c := by
 unfold cutB at h
 simp only [Bool.and_eq_true] at h
 exact ⟨Sy.ok_of h.1, qB_iff.1 h.2⟩
noncomputable def flS (y : Sy) : List Int := if y.okB = true then (List.range y.hn).map fun p => (y.hL p : Int) else []
def flT (y : Sy) (k : Nat) : List Int := (List.range k).map fun p => (y.hL p : Int)
theorem flT_next (y : Sy) (k : Nat) : flT y (k + 1) = flT y k ++ [(y.hL k : Int)] := by
 unfold flT
 rw [List.range_succ, List.map_append]
 rfl
theorem flT_len (y : Sy) (k : Nat) : (flT y k).length = k := by simp [flT]
theorem Sy.Ok.hl200 {y : Sy} (h : y.Ok) {p : Nat} (hp : p < y.pn) : y.hL p ≤ 200 := (repO_some (h.rp p hp)).2.1
variable {z : Bool}
structure OwnS (z : Bool) (w : World) (B : Nat) (c : Nat → Nat) (y : Sy) (vp vs vw vh : Value) (up us uw uh : Nat → Value) : Prop where
 p : LI z w (Cl B c 1) vp y.pn up y.pL y.pH
 s : LS w (Cl B c 2) vs y.sn us y.sS
 t : LT z w (Cl B c 3) vw y.wn uw y.wL y.wH
 h : LE z w (Cl B c 4) vh y.hn uh y.hL y.hH
def OwnSys (z : Bool) (w : World) (B : Nat) (y : Sy) (v : Value) : Prop := ∃ c vp vs vw vh up us uw uh, v = .agg #[vp, vs, vw, vh] ∧ OwnS z w B c y vp vs vw vh up us uw uh
theorem markSys_le (x : SysIn) (lo hi : Nat) (v : Value) (w : World) (hs : x.size ≤ 1048576) (o : IsSys w lo hi x v) :
  Calls Tryz.prog 22 #[v, .int .i64 1] w fun e w' => (∃ z : Int, e = .returned (.int .i64 z) ∧ ¬ z < 0 ∧ z ≤ 30000000) ∧ Touch (fun b => lo ≤ b ∧ b < hi) w w' := by
 obtain ⟨D1, D2, D3, D4, b1, vs, b3, b4, h1, h2, h3, o⟩ := o
 have HS : Hid (x.size ≤ 1048576) := hs
 obtain ⟨q1, q2, q3, q4, -⟩ := o.hi
 have OO : Hid (OutSys w lo hi x v D1 D2 D3 D4 b1 vs b3 b4 h1 h2 h3) := o
 have QQ : Hid (h1 ≤ hi ∧ h2 ≤ hi ∧ h3 ≤ hi ∧ hi ≤ w.heap.size) := ⟨q1, q2, q3, q4⟩
 obtain ⟨rfl, p1, s1, w1, i1, y1, y2, y3, y4⟩ := o
 have Y : Hid (lo ≤ D1 ∧ h1 ≤ D2 ∧ h2 ≤ D3 ∧ h3 ≤ D4 ∧ D1 < h1 ∧ D2 < h2 ∧ D3 < h3 ∧ D4 < hi) := ⟨y1, y2, y3, y4, p1.lt, s1.lt, w1.lt, i1.lt⟩
 have P1 : Hid (OutIns w D1 h1 x.pn x.pL b1 x.pH) := p1
 have S1 : Hid (OutState w D2 h2 x.sn x.sS vs) := s1
 have W1 : Hid (OutItem w D3 h3 x.wn x.wL b3 x.wH) := w1
 have I1 : Hid (OutEvent w D4 hi x.hn x.hL b4 x.hH) := i1
 clear p1 s1 w1 i1 y1 y2 y3 y4 q1 q2 q3 q4 hs OO
 have X0 : Hid (MkY w (w.alloc (oQ4 (some ⟨D1, 0, none⟩) x.pn x.pn (some ⟨D2, 0, none⟩) x.sn x.sn (some ⟨D3, 0, none⟩) x.wn x.wn (some ⟨D4, 0, none⟩) x.hn x.hn)) lo hi D1 D2 D3 D4 x) := ⟨Touch.of_below (below_allocS _ _), BoxC.new w (.slice (some ⟨D1, 0, none⟩) x.pn x.pn) (.slice (some ⟨D2, 0, none⟩) x.sn x.sn) (.slice (some ⟨D3, 0, none⟩) x.wn x.wn) (.slice (some ⟨D4, 0, none⟩) x.hn x.hn) 35, by simp⟩
 have BA : Hid (Below w.heap.size w (w.alloc (oQ4 (some ⟨D1, 0, none⟩) x.pn x.pn (some ⟨D2, 0, none⟩) x.sn x.sn (some ⟨D3, 0, none⟩) x.wn x.wn (some ⟨D4, 0, none⟩) x.hn x.hn))) := below_allocS _ _
 go_enter Tryz.func22, Tryz.ntmps22
 go_wp2_with fail
 generalize w.alloc (oQ4 (some ⟨D1, 0, none⟩) x.pn x.pn (some ⟨D2, 0, none⟩) x.sn x.sn (some ⟨D3, 0, none⟩) x.wn x.wn (some ⟨D4, 0, none⟩) x.hn x.hn) = wA at *
 refine (markInsSS_any D1 h1 x.pn x.pn x.pL b1 x.pH 1 wA (SysIn.lens HS.out).1.1 (SysIn.lens HS.out).1.2 (by omega) (by omega) (P1.out.below BA.out (by have := QQ.out; omega))).mono ?_
 rintro e w1 ⟨rfl, t1⟩
 have X1 : Hid (MkY w w1 lo hi D1 D2 D3 D4 x) := X0.out.step (by have := QQ.out; omega) t1 fun b hb => by have := QQ.out; have := Y.out; omega
 have KS : Hid (OutState w1 D2 h2 x.sn x.sS vs) := (S1.out.below BA.out (by have := QQ.out; omega)).keep t1.size fun k hk1 hk2 => t1.block k (by have := BA.out.size; have := QQ.out; omega) (fun e => by have := Y.out; omega)
 have KW : Hid (OutItem w1 D3 h3 x.wn x.wL b3 x.wH) := (W1.out.below BA.out (by have := QQ.out; omega)).keep t1.size fun k hk1 hk2 => t1.block k (by have := BA.out.size; have := QQ.out; omega) (fun e => by have := Y.out; omega)
 have KI : Hid (OutEvent w1 D4 hi x.hn x.hL b4 x.hH) := (I1.out.below BA.out (by have := QQ.out; omega)).keep t1.size fun k hk1 hk2 => t1.block k (by have := BA.out.size; have := QQ.out; omega) (fun e => by have := Y.out; omega)
 have z1 : 0 ≤ (1 : Int) + 5 * (sumL x.pL x.pn : Nat) ∧ (1 : Int) + 5 * (sumL x.pL x.pn : Nat) ≤ 6000000 := by have := (SysIn.lens HS.out).1.2; omega
 generalize (1 : Int) + 5 * (sumL x.pL x.pn : Nat) = Z1 at *
 have HZ1 : Hid (0 ≤ Z1 ∧ Z1 ≤ 6000000) := z1
 clear t1 X0 P1 S1 W1 I1 BA z1
 obtain ⟨-, ⟨p0, p1, p2, p3⟩, lt⟩ := X1.out
 go_wp2_with fail
 clear p0 p1 p2 p3 lt
 refine (markStateS_any D2 h2 x.sn x.sn x.sS vs Z1 w1 (SysIn.lens HS.out).2.1.1 (SysIn.lens HS.out).2.1.2 HZ1.out.1 (by have := HZ1.out; omega) KS.out).mono ?_
 rintro e w2 ⟨rfl, t2⟩
 have X2 : Hid (MkY w w2 lo hi D1 D2 D3 D4 x) := X1.out.step (by have := QQ.out; omega) t2 fun b hb => by have := QQ.out; have := Y.out; omega
 have KW2 : Hid (OutItem w2 D3 h3 x.wn x.wL b3 x.wH) := KW.out.keep t2.size fun k hk1 hk2 => t2.block k (Nat.lt_of_lt_of_le hk2 KW.out.le) (fun e => by have := Y.out; omega)
 have KI2 : Hid (OutEvent w2 D4 hi x.hn x.hL b4 x.hH) := KI.out.keep t2.size fun k hk1 hk2 => t2.block k (Nat.lt_of_lt_of_le hk2 KI.out.le) (fun e => by have := Y.out; omega)
 have z2 : 0 ≤ Z1 + (2 * x.sn + sumL (lenS x.sS) x.sn : Nat) ∧ Z1 + (2 * x.sn + sumL (lenS x.sS) x.sn : Nat) ≤ 12000000 := by have := (SysIn.lens HS.out).2.1; have := HZ1.out; omega
 generalize Z1 + (2 * x.sn + sumL (lenS x.sS) x.sn : Nat) = Z2 at *
 have HZ2 : Hid (0 ≤ Z2 ∧ Z2 ≤ 12000000) := z2
 clear t2 X1 KS KW KI z2 HZ1
 obtain ⟨-, ⟨p0, p1, p2, p3⟩, lt⟩ := X2.out
 go_wp2_with fail
 clear p0 p1 p2 p3 lt
 refine (markItemSS_any D3 h3 x.wn x.wn x.wL b3 x.wH Z2 w2 (SysIn.lens HS.out).2.2.1.1 (SysIn.lens HS.out).2.2.1.2 HZ2.out.1 (by have := HZ2.out; omega) KW2.out).mono ?_
 rintro e w3 ⟨rfl, t3⟩
 have X3 : Hid (MkY w w3 lo hi D1 D2 D3 D4 x) := X2.out.step (by have := QQ.out; omega) t3 fun b hb => by have := QQ.out; have := Y.out; omega
 have KI3 : Hid (OutEvent w3 D4 hi x.hn x.hL b4 x.hH) := KI2.out.keep t3.size fun k hk1 hk2 => t3.block k (Nat.lt_of_lt_of_le hk2 KI2.out.le) (fun e => by have := Y.out; omega)
 have z3 : 0 ≤ Z2 + 2 * (sumL x.wL x.wn : Nat) ∧ Z2 + 2 * (sumL x.wL x.wn : Nat) ≤ 18000000 := by have := (SysIn.lens HS.out).2.2.1; have := HZ2.out; omega
 generalize Z2 + 2 * (sumL x.wL x.wn : Nat) = Z3 at *
 have HZ3 : Hid (0 ≤ Z3 ∧ Z3 ≤ 18000000) := z3
 clear t3 X2 KW2 KI2 z3 HZ2
 obtain ⟨-, ⟨p0, p1, p2, p3⟩, lt⟩ := X3.out
 go_wp2_with fail
 clear p0 p1 p2 p3 lt
 refine (markEventSS_any D4 hi x.hn x.hn x.hL b4 x.hH Z3 w3 (SysIn.lens HS.out).2.2.2.1 (SysIn.lens HS.out).2.2.2.2 HZ3.out.1 (by have := HZ3.out; omega) KI3.out).mono ?_
 rintro e w4 ⟨rfl, t4⟩
 have X4 : Hid (MkY w w4 lo hi D1 D2 D3 D4 x) := X3.out.step (by have := QQ.out; omega) t4 fun b hb => by have := QQ.out; have := Y.out; omega
 have HZ4 : Hid (¬ Z3 + 3 * (sumL x.hL x.hn : Nat) < 0 ∧ Z3 + 3 * (sumL x.hL x.hn : Nat) ≤ 30000000) := by
  show ¬ Z3 + 3 * (sumL x.hL x.hn : Nat) < 0 ∧ Z3 + 3 * (sumL x.hL x.hn : Nat) ≤ 30000000
  have := HZ3.out
  have := (SysIn.lens HS.out).2.2.2.2
  omega
 generalize Z3 + 3 * (sumL x.hL x.hn : Nat) = Z4 at *
 clear t4 X3 KI3 HZ3
 go_wp2
 go_ret
 exact ⟨⟨_, rfl, HZ4.out⟩, X4.out.tch⟩
end Go.Proofs.YtkjeakklbgpdaaaGreatDoor
