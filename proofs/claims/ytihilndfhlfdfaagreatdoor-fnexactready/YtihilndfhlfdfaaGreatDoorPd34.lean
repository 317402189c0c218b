/- The walk of the model's l4Copy. -/
import Derived.Test.YtihilndfhlfdfaaGreatDoorPd33
import Derived.Test.YtihilndfhlfdfaaGreatDoorPd29
import Derived.Test.YtihilndfhlfdfaaGreatDoorPd23
import Derived.Test.YtihilndfhlfdfaaGreatDoorPd27
import Derived.Test.YtihilndfhlfdfaaGreatDoorPd32
import Derived.Lib.QuietBelow
import Derived.Test.YtihilndfhlfdfaaGreatDoorPd9
namespace Go.Proofs.YtihilndfhlfdfaaGreatDoor
open Go.ChangeShapes Go.WideShapes Go.ChangeAt Go.RowKit Go.Deep
structure Sy where
 pn : Nat
 pL : Nat → Nat
 pH : Nat → Nat → I5
 sn : Nat
 sS : Nat → S4
 wn : Nat
 wL : Nat → Nat
 wH : Nat → Nat → I2
 hn : Nat
 hL : Nat → Nat
 hH : Nat → Nat → E3
def SysIn.y (x : SysIn) : Sy := ⟨x.pn, x.pL, x.pH, x.sn, x.sS, x.wn, x.wL, x.wH, x.hn, x.hL, x.hH⟩
def Sy.hs (y : Sy) : Hs := ⟨y.pn, y.hL, y.hH⟩
def itemB (x : I2) : Bool := numB x.v && (!x.m || x.v == 0)
structure WayP (h : Nat → I2) (len : Nat) (took sent : List Int) : Prop where
 it : ∀ i, i < len → itemB (h i) = true
 le : len ≤ 12
 eq : took ++ numL h len = sent
structure Sy.Ok (y : Sy) : Prop where
 cn : (1 ≤ y.pn ∧ y.pn ≤ 4) ∧ y.sn = y.pn ∧ y.hn = y.pn ∧ y.wn = y.pn * y.pn
 pr : ∀ p, p < y.pn → progOkB (y.pH p) (y.pL p) y.pn = true
 rp : ∀ p, p < y.pn → repO (y.pH p) (y.pL p) (y.hH p) (y.hL p) = some (y.sS p)
 pe : ∀ p, p < y.pn → ∀ i, i < y.hL p → (y.hH p i).q < (y.pn : Int)
 wa : ∀ a, a < y.pn → ∀ b, b < y.pn → WayP (y.wH (a * y.pn + b)) (y.wL (a * y.pn + b)) (valL (y.hH b) 3 a (y.hL b)) (valL (y.hH a) 2 b (y.hL a))
 ro : y.hs.Row
noncomputable def Sy.okB (y : Sy) : Bool := @decide y.Ok (Classical.propDecidable _)
theorem Sy.okB_true {y : Sy} (h : y.Ok) : y.okB = true := by simp [Sy.okB, h]
theorem Sy.okB_false {y : Sy} (h : ¬ y.Ok) : y.okB = false := by simp [Sy.okB, h]
theorem Sy.ok_of {y : Sy} (h : y.okB = true) : y.Ok := by simpa [Sy.okB] using h
theorem evP_pos {g : Nat → I5} {len : Nat} {k : Nat} (h : progOkB g len 4 = true) (hk : k < len) : 0 ≤ evP (g k).o (g k).n := by
 have h5 := right_ins h hk
 simp only [insOkB, Bool.and_eq_true] at h5
 have h6 := h5.2
 unfold evP
 by_cases e6 : (g k).o = 6
 · rw [if_pos e6]
   simp [opOkB, e6, inB] at h6
   omega
 · rw [if_neg e6]
   by_cases e7 : (g k).o = 7
   · rw [if_pos e7]
     simp [opOkB, e7, inB] at h6
     omega
   · rw [if_neg e7]
     exact Int.le_refl _
theorem doB_peer {g : Nat → I5} {len : Nat} {p : Int} {rs os : List Int} {code k q v : Int} (h : doB g len p rs os code k q v = true) : 0 ≤ q := by
 have hr := doB_right h
 obtain ⟨h1, h2, -⟩ := right_parts hr
 obtain ⟨-, ⟨j, rfl, hj⟩, -⟩ := st_parts h2
 have hp := evP_pos h1 hj
 simp only [doB, canB, nxP, if_pos hr, Int.toNat_natCast] at h
 split at h
 · simp only [Bool.and_eq_true] at h
   have h3 := h.2
   split at h3
   · simp only [belB, decide_eq_true_eq] at h3
     omega
   · simp only [beq_iff_eq] at h3
     omega
 · simp only [Bool.and_eq_true, beq_iff_eq] at h
   have := h.2.2.1
   omega
theorem rp_peer {g : Nat → I5} {len : Nat} {eh : Nat → E3} : ∀ {k : Nat} {S : S4}, rp g len eh k = some S → ∀ i, i < k → 0 ≤ (eh i).q
 | 0, _, _, i, hi => by omega
 | k + 1, S, h, i, hi => by
   simp only [rp] at h
   cases hr : rp g len eh k with
   | none => rw [hr] at h; cases h
   | some S0 =>
     rw [hr] at h
     simp only [Option.bind_some, rpStep] at h
     split at h
     · rename_i hd
       by_cases e : i = k
       · subst e
         exact doB_peer hd
       · exact rp_peer hr i (by omega)
     · cases h
theorem repO_some {g : Nat → I5} {n : Nat} {eh : Nat → E3} {m : Nat} {S : S4} (h : repO g n eh m = some S) : progOkB g n 4 = true ∧ m ≤ 200 ∧ rp g n eh m = some S := by
 unfold repO at h
 split at h
 · rename_i hc
   exact ⟨hc.1, hc.2, h⟩
 · cases h
structure SysG (W : World) (x : SysIn) : Prop where
 p : RowS W x.pa x.pn fun i => .slice (x.pA i) (x.pL i) (x.pC i)
 pi : ∀ i, i < x.pn → ∃ b, x.pA i = some ⟨b, 0, none⟩ ∧ b < W.heap.size ∧ InsAt W b 0 (x.pL i) (x.pH i)
 s : AllState W x.sa x.sn x.sQ
 w : RowS W x.wa x.wn fun i => .slice (x.wA i) (x.wL i) (x.wC i)
 wi : ∀ i, i < x.wn → ItL W (x.wA i) (x.wL i) (x.wH i)
 h : RowS W x.ha x.hn fun i => .slice (x.hA i) (x.hL i) (x.hC i)
 hi : ∀ i, i < x.hn → EvL W (x.hA i) (x.hL i) (x.hH i)
theorem SysG.below {w w' : World} {x : SysIn} (o : SysG w x) (hb : Below w.heap.size w w') : SysG w' x :=
 ⟨o.p.below hb, fun i hi => by
   obtain ⟨b, e, hlt, hI⟩ := o.pi i hi
   exact ⟨b, e, Nat.lt_of_lt_of_le hlt hb.size, hI.below hb hlt⟩, o.s.below hb, o.w.below hb, fun i hi => (o.wi i hi).below hb, o.h.below hb, fun i hi => (o.hi i hi).below hb⟩
structure SysIn.Len (x : SysIn) : Prop where
 p : x.pn ≤ 1048576 ∧ ∀ i, i < x.pn → x.pL i ≤ 1048576
 s : x.sn ≤ 1048576 ∧ ∀ i, i < x.sn → (x.sQ i).rs.length ≤ 1048576 ∧ (x.sQ i).os.length ≤ 1048576
 w : x.wn ≤ 1048576 ∧ ∀ i, i < x.wn → x.wL i ≤ 1048576
 h : x.hn ≤ 1048576 ∧ ∀ i, i < x.hn → x.hL i ≤ 1048576
abbrev SysIn.v (x : SysIn) : Value := sysV x.pa x.pn x.pc x.sa x.sn x.sc x.wa x.wn x.wc x.ha x.hn x.hc
end Go.Proofs.YtihilndfhlfdfaaGreatDoor
namespace Go.Proofs.YtihilndfhlfdfaaGreatDoor
open Go.ChangeShapes Go.WideShapes Go.ChangeAt Go.RowKit Go.Deep Go.Sort
theorem list_of_zi {xs ys : List Int} (hl : xs.length = ys.length) (h : ∀ j, j < xs.length → zi xs j = zi ys j) : xs = ys := by
 refine List.ext_getElem hl fun i h1 h2 => ?_
 have := h i h1
 simpa [zi, List.getD_eq_getElem?_getD, List.getElem?_eq_getElem h1, List.getElem?_eq_getElem h2] using this
set_option maxRecDepth 100000 in
set_option maxHeartbeats 1000000 in
theorem equal_any (a0 a1 : Option Addr) (c0 c1 : Nat) (xs ys : List Int) (w : World) (hx : xs.length ≤ 1048576) (hy : ys.length ≤ 1048576) (h0 : Sl w a0 xs) (h1 : Sl w a1 ys) :
   Calls Tryz.prog 123 #[.slice a0 xs.length c0, .slice a1 ys.length c1] w fun e w' => e = .returned (.bool (xs == ys)) ∧ Below w.heap.size w w' := by
 have hl' : (xs.length : Int) ≤ 1048576 := by omega
 have hl2 : (ys.length : Int) ≤ 1048576 := by omega
 by_cases hl : xs.length = ys.length
 · have H0 : Hid (Sl w a0 xs) := h0
   have H1 : Hid (Sl w a1 ys) := h1
   have HL : Hid (xs.length = ys.length) := hl
   rw [← hl]
   clear h0 h1 hl hy hl2
   go_enter Tryz.func123, Tryz.ntmps123
   go_wp2_with fail
   go_loopw [13] (fun i wr => ∃ k : Nat, k ≤ xs.length ∧ i = .int .i64 k ∧ Below w.heap.size w wr ∧ Hid (∀ j, j < k → zi xs j = zi ys j)) (fun i _ => xs.length - (intOf i).toNat)
   case atStart => exact ⟨0, Nat.zero_le _, rfl, Below.refl _ _, fun j hj => by omega⟩
   case round =>
     obtain ⟨k, hk, rfl, hbw, HZ⟩ := hrel
     by_cases hlt : k < xs.length
     · have hlt2 : k < ys.length := by have := HL.out; omega
       obtain ⟨b, off, rfl, hbl, ck⟩ := (H0.out.below hbw).at hlt
       obtain ⟨b', off', rfl, hbl', ck'⟩ := (H1.out.below hbw).at hlt2
       have hlt' : (k : Int) < (xs.length : Int) := by omega
       clear hlt2
       rcases Bool.eq_false_or_eq_true (zi xs k != zi ys k) with t | t
       · have HN : Hid ((xs == ys) = false) := by
           show (xs == ys) = false
           rw [beq_eq_false_iff_ne]
           intro e
           rw [e] at t
           simp at t
         go_wp2_with fail
         go_quiet (fail)
         go_wp2
         go_ret
         rw [HN.out]
         exact ⟨rfl, below_drewN hbw _⟩
       · have HZ' : Hid (∀ j, j < k + 1 → zi xs j = zi ys j) := fun j hj => by
           by_cases e : j = k
           · subst e
             simpa using t
           · exact HZ.out j (by omega)
         clear HZ
         go_wp2_with fail
         go_quiet (fail)
         go_wp2
         go_roundw
         case rel => exact ⟨k + 1, by omega, by go_num, below_drewN hbw _, HZ'.out⟩
         case measure => simp [intOf]; omega
     · have HE : Hid ((xs == ys) = true) := by
         show (xs == ys) = true
         rw [beq_iff_eq]
         exact list_of_zi HL.out fun j hj => HZ.out j (by omega)
       clear HZ
       go_wp2
       go_ret
       rw [HE.out]
       exact ⟨rfl, hbw⟩
 · have hne : ((xs.length : Int) != (ys.length : Int)) = true := by simp; omega
   have HN : Hid ((xs == ys) = false) := by
     show (xs == ys) = false
     rw [beq_eq_false_iff_ne]
     intro e
     exact hl (by rw [e])
   clear h0 h1 hl
   go_enter Tryz.func123, Tryz.ntmps123
   go_wp2
   go_ret
   rw [HN.out]
   exact ⟨rfl, Below.refl _ _⟩
def eqS (S T : S4) : Bool := (S.p == T.p) && (S.c == T.c) && (S.rs == T.rs) && (S.os == T.os)
theorem eqS_iff {S T : S4} : eqS S T = true ↔ S = T := by
 obtain ⟨a, b, c, d⟩ := S
 obtain ⟨a', b', c', d'⟩ := T
 simp only [eqS, Bool.and_eq_true, beq_iff_eq, S4.mk.injEq]
 exact ⟨fun ⟨⟨⟨h1, h2⟩, h3⟩, h4⟩ => ⟨h1, h3, h4, h2⟩, fun ⟨h1, h3, h4, h2⟩ => ⟨⟨⟨h1, h2⟩, h3⟩, h4⟩⟩
set_option maxRecDepth 100000 in
set_option maxHeartbeats 2000000 in
theorem implSameState_any (S T : S4) (ra oa ra' oa' : Option Addr) (rc oc rc' oc' : Nat) (w : World) (l1 : S.rs.length ≤ 1048576) (l2 : S.os.length ≤ 1048576) (l3 : T.rs.length ≤ 1048576) (l4 : T.os.length ≤ 1048576) (h1 : Sl w ra S.rs) (h2 : Sl w oa S.os) (h3 : Sl w ra' T.rs) (h4 : Sl w oa' T.os) :
   Calls Tryz.prog 121 #[stV S.p ra S.rs.length rc oa S.os.length oc S.c, stV T.p ra' T.rs.length rc' oa' T.os.length oc' T.c] w fun e w' => e = .returned (.bool (eqS S T)) ∧ Below w.heap.size w w' := by
 have H1 : Hid (Sl w ra S.rs ∧ Sl w ra' T.rs) := ⟨h1, h3⟩
 have H2 : Hid (Sl w oa S.os ∧ Sl w oa' T.os) := ⟨h2, h4⟩
 clear h1 h2 h3 h4
 rcases Bool.eq_false_or_eq_true (S.p == T.p) with t1 | t1
 case inr =>
   have HE : Hid (eqS S T = false) := by
     show eqS S T = false
     simp [eqS, t1]
   go_enter Tryz.func121, Tryz.ntmps121
   go_wp2
   go_ret
   rw [HE.out]
   exact ⟨rfl, by go_grown⟩
 rcases Bool.eq_false_or_eq_true (S.c == T.c) with t2 | t2
 case inr =>
   have HE : Hid (eqS S T = false) := by
     show eqS S T = false
     simp [eqS, t2]
   go_enter Tryz.func121, Tryz.ntmps121
   go_wp2
   go_ret
   rw [HE.out]
   exact ⟨rfl, by go_grown⟩
 rcases Bool.eq_false_or_eq_true (S.rs == T.rs) with t3 | t3
 case inr =>
   have HE : Hid (eqS S T = false) := by
     show eqS S T = false
     simp [eqS, t3]
   have T3 : Hid ((S.rs == T.rs) = false) := t3
   clear t3
   go_enter Tryz.func121, Tryz.ntmps121
   go_wp2_with fail
   refine (equal_any _ _ _ _ _ _ _ l1 l3 (H1.out.1.below (by go_grown)) (H1.out.2.below (by go_grown))).mono ?_
   rintro e w1 ⟨rfl, b1⟩
   rw [T3.out]
   have B1 : Hid (Below w.heap.size w w1) := below_up (by go_grown) b1 (by simp; omega)
   clear b1
   go_wp2
   go_ret
   rw [HE.out]
   exact ⟨rfl, B1.out⟩
 have HE : Hid (eqS S T = (S.os == T.os)) := by
   show eqS S T = (S.os == T.os)
   simp [eqS, t1, t2, t3]
 have T3 : Hid ((S.rs == T.rs) = true) := t3
 clear t3
 go_enter Tryz.func121, Tryz.ntmps121
 go_wp2_with fail
 refine (equal_any _ _ _ _ _ _ _ l1 l3 (H1.out.1.below (by go_grown)) (H1.out.2.below (by go_grown))).mono ?_
 rintro e w1 ⟨rfl, b1⟩
 rw [T3.out]
 have B1 : Hid (Below w.heap.size w w1) := below_up (by go_grown) b1 (by simp; omega)
 obtain ⟨hc1, hf1⟩ := bcell b1
 clear b1
 go_wp2_with fail
 refine (equal_any _ _ _ _ _ _ _ l2 l4 (H2.out.1.below B1.out) (H2.out.2.below B1.out)).mono ?_
 rintro e w2 ⟨rfl, b2⟩
 have B2 : Hid (Below w.heap.size w w2) := B1.out.trans (b2.mono B1.out.size)
 clear b2 hc1 hf1
 go_wp2
 go_ret
 rw [HE.out]
 exact ⟨rfl, B2.out⟩
set_option maxHeartbeats 1000000 in
theorem itemOk_any (m : Bool) (v : Int) (w : World) :
   Calls Tryz.prog 155 #[itV m v] w fun e w' => e = .returned (.bool (itemB ⟨m, v⟩)) ∧ Below w.heap.size w w' := by
 rcases Bool.eq_false_or_eq_true m with rfl | rfl
 · have HE : Hid (itemB ⟨true, v⟩ = (v == 0)) := by
     show itemB ⟨true, v⟩ = (v == 0)
     simp only [itemB, Bool.not_true, Bool.false_or]
     by_cases e : v = 0
     · subst e
       rfl
     · have : (v == 0) = false := by simpa using e
       rw [this, Bool.and_false]
   go_enter Tryz.func155, Tryz.ntmps155
   go_wp2
   go_ret
   rw [HE.out]
   exact ⟨rfl, by go_grown⟩
 · have HE : Hid (itemB ⟨false, v⟩ = inB v (-1000000000) 1000000000) := by
     show itemB ⟨false, v⟩ = inB v (-1000000000) 1000000000
     simp [itemB, numB]
   go_enter Tryz.func155, Tryz.ntmps155
   go_wp2_with fail
   refine (isNum_any _ _).mono ?_
   rintro e w1 ⟨rfl, rfl⟩
   go_wp2
   go_ret
   rw [HE.out]
   exact ⟨rfl, by go_grown⟩
def itemsB (h : Nat → I2) (n : Nat) : Bool := (List.range n).all fun i => itemB (h i)
theorem itemsB_iff {h : Nat → I2} {n : Nat} : itemsB h n = true ↔ ∀ i, i < n → itemB (h i) = true := by
 simp [itemsB]
theorem itemsB_no {h : Nat → I2} {n k : Nat} (hk : k < n) (hf : itemB (h k) = false) : itemsB h n = false := by
 rcases Bool.eq_false_or_eq_true (itemsB h n) with t | t
 · have := itemsB_iff.1 t k hk
   rw [hf] at this
   cases this
 · exact t
set_option maxRecDepth 100000 in
set_option maxHeartbeats 1000000 in
theorem wayOk_any (a : Option Addr) (len cap : Nat) (h : Nat → I2) (w : World) (hlen : len ≤ 1048576) (hc : ItL w a len h) :
   Calls Tryz.prog 122 #[.slice a len cap] w fun e w' => e = .returned (.bool (decide (len ≤ 12) && itemsB h len)) ∧ Below w.heap.size w w' := by
 have hl' : (len : Int) ≤ 1048576 := by omega
 have HC : Hid (ItL w a len h) := hc
 clear hc
 by_cases h12 : len ≤ 12
 case neg =>
   have h12' : (12 : Int) < (len : Int) := by omega
   have HE : Hid ((decide (len ≤ 12) && itemsB h len) = false) := by
     show (decide (len ≤ 12) && itemsB h len) = false
     simp [h12]
   go_enter Tryz.func122, Tryz.ntmps122
   go_wp2
   go_ret
   rw [HE.out]
   exact ⟨rfl, Below.refl _ _⟩
 have h12' : ¬ (12 : Int) < (len : Int) := by omega
 have HE : Hid ((decide (len ≤ 12) && itemsB h len) = itemsB h len) := by
   show (decide (len ≤ 12) && itemsB h len) = itemsB h len
   simp [h12]
 clear h12
 go_enter Tryz.func122, Tryz.ntmps122
 go_wp2_with fail
 go_loopw [10] (fun i wr => ∃ k : Nat, k ≤ len ∧ i = .int .i64 k ∧ Below w.heap.size w wr ∧ Hid (∀ j, j < k → itemB (h j) = true)) (fun i _ => len - (intOf i).toNat)
 case atStart => exact ⟨0, Nat.zero_le _, rfl, Below.refl _ _, fun j hj => by omega⟩
 case round =>
   obtain ⟨k, hk, rfl, hbw, HZ⟩ := hrel
   by_cases hlt : k < len
   · have hlt' : (k : Int) < (len : Int) := by omega
     obtain ⟨b, off, rfl, -, c0, c1⟩ := (HC.out.below hbw).at hlt
     go_wp2_with fail
     refine (itemOk_any _ _ _).mono ?_
     rintro e w1 ⟨rfl, b1⟩
     have B1 : Hid (Below w.heap.size w w1) := hbw.trans (((below_alloc wr _).trans (b1.mono (by simp))).mono hbw.size)
     clear b1
     rcases Bool.eq_false_or_eq_true (itemB (h k)) with t | t
     · have HZ' : Hid (∀ j, j < k + 1 → itemB (h j) = true) := fun j hj => by
         by_cases e : j = k
         · subst e
           exact t
         · exact HZ.out j (by omega)
       rw [show itemB { m := (h k).m, v := (h k).v } = true from t]
       clear HZ t
       go_wp2
       go_roundw
       case rel => exact ⟨k + 1, by omega, by go_num, B1.out, HZ'.out⟩
       case measure => simp [intOf]; omega
     · have HN : Hid (itemsB h len = false) := itemsB_no hlt t
       rw [show itemB { m := (h k).m, v := (h k).v } = false from t]
       clear HZ t
       go_wp2
       go_ret
       rw [HE.out, HN.out]
       exact ⟨rfl, B1.out⟩
   · have HN : Hid (itemsB h len = true) := itemsB_iff.2 fun j hj => HZ.out j (by omega)
     clear HZ
     go_wp2
     go_ret
     rw [HE.out, HN.out]
     exact ⟨rfl, hbw⟩
end Go.Proofs.YtihilndfhlfdfaaGreatDoor
namespace Go.Proofs.YtihilndfhlfdfaaGreatDoor
open Go.ChangeShapes Go.WideShapes Go.ChangeAt Go.RowKit Go.Deep Go.Sort
noncomputable def pB (p : Prop) : Bool := @decide p (Classical.propDecidable _)
theorem pB_true {p : Prop} (h : p) : pB p = true := by simp [pB, h]
theorem pB_false {p : Prop} (h : ¬ p) : pB p = false := by simp [pB, h]
set_option maxRecDepth 100000 in
set_option maxHeartbeats 2000000 in
theorem specSameState_any (S T : S4) (ra oa ra' oa' : Option Addr) (rc oc rc' oc' : Nat) (w : World) (l1 : S.rs.length ≤ 1048576) (l2 : S.os.length ≤ 1048576) (_l3 : T.rs.length ≤ 1048576) (_l4 : T.os.length ≤ 1048576) (h1 : Sl w ra S.rs) (h2 : Sl w oa S.os) (h3 : Sl w ra' T.rs) (h4 : Sl w oa' T.os) :
   Calls Tryz.prog 66 #[stV S.p ra S.rs.length rc oa S.os.length oc S.c, stV T.p ra' T.rs.length rc' oa' T.os.length oc' T.c] w fun e w' => e = .returned (.bool (eqS S T)) ∧ Below w.heap.size w w' := by
 have l1' : (S.rs.length : Int) ≤ 1048576 := by omega
 have l2' : (S.os.length : Int) ≤ 1048576 := by omega
 have H1 : Hid (Sl w ra S.rs ∧ Sl w ra' T.rs) := ⟨h1, h3⟩
 have H2 : Hid (Sl w oa S.os ∧ Sl w oa' T.os) := ⟨h2, h4⟩
 clear h1 h2 h3 h4 l1 l2
 rcases Bool.eq_false_or_eq_true (S.p != T.p) with t1 | t1
 case inl =>
   have HE : Hid (eqS S T = false) := by
     show eqS S T = false
     have : (S.p == T.p) = false := by simpa using t1
     simp [eqS, this]
   go_enter Tryz.func66, Tryz.ntmps66
   go_wp2
   go_ret
   rw [HE.out]
   exact ⟨rfl, by go_grown⟩
 rcases Bool.eq_false_or_eq_true (S.c != T.c) with t2 | t2
 case inl =>
   have HE : Hid (eqS S T = false) := by
     show eqS S T = false
     have : (S.c == T.c) = false := by simpa using t2
     simp [eqS, this]
   go_enter Tryz.func66, Tryz.ntmps66
   go_wp2
   go_ret
   rw [HE.out]
   exact ⟨rfl, by go_grown⟩
 rcases Bool.eq_false_or_eq_true ((S.rs.length : Int) != (T.rs.length : Int)) with t3 | t3
 case inl =>
   have HE : Hid (eqS S T = false) := by
     show eqS S T = false
     have : (S.rs == T.rs) = false := by
       rw [beq_eq_false_iff_ne]
       intro e
       rw [e] at t3
       simp at t3
     simp [eqS, this]
   go_enter Tryz.func66, Tryz.ntmps66
   go_wp2
   go_ret
   rw [HE.out]
   exact ⟨rfl, by go_grown⟩
 rcases Bool.eq_false_or_eq_true ((S.os.length : Int) != (T.os.length : Int)) with t4 | t4
 case inl =>
   have HE : Hid (eqS S T = false) := by
     show eqS S T = false
     have : (S.os == T.os) = false := by
       rw [beq_eq_false_iff_ne]
       intro e
       rw [e] at t4
       simp at t4
     simp [eqS, this]
   go_enter Tryz.func66, Tryz.ntmps66
   go_wp2
   go_ret
   rw [HE.out]
   exact ⟨rfl, by go_grown⟩
 have HE : Hid (eqS S T = ((S.rs == T.rs) && (S.os == T.os)) ∧ S.rs.length = T.rs.length ∧ S.os.length = T.os.length) := by
   have e1 : (S.p == T.p) = true := by simpa using t1
   have e2 : (S.c == T.c) = true := by simpa using t2
   have e3 : S.rs.length = T.rs.length := by simp at t3; omega
   have e4 : S.os.length = T.os.length := by simp at t4; omega
   refine ⟨?_, e3, e4⟩
   show eqS S T = _
   simp [eqS, e1, e2]
 have N1 : Hid (BoxC ((w.alloc (.cells #[.int .i64 S.p, .slice ra S.rs.length rc, .slice oa S.os.length oc, .int .i64 S.c] 77)).alloc (.cells #[.int .i64 T.p, .slice ra' T.rs.length rc', .slice oa' T.os.length oc', .int .i64 T.c] 77)) w.heap.size (.int .i64 S.p) (.slice ra S.rs.length rc) (.slice oa S.os.length oc) (.int .i64 S.c)) := (BoxC.new w _ _ _ _ _).below (below_alloc _ _)
 have N2 : Hid (BoxC ((w.alloc (.cells #[.int .i64 S.p, .slice ra S.rs.length rc, .slice oa S.os.length oc, .int .i64 S.c] 77)).alloc (.cells #[.int .i64 T.p, .slice ra' T.rs.length rc', .slice oa' T.os.length oc', .int .i64 T.c] 77)) (w.heap.size + 1) (.int .i64 T.p) (.slice ra' T.rs.length rc') (.slice oa' T.os.length oc') (.int .i64 T.c)) := by
   have h := BoxC.new (w.alloc (.cells #[.int .i64 S.p, .slice ra S.rs.length rc, .slice oa S.os.length oc, .int .i64 S.c] 77)) (.int .i64 T.p) (.slice ra' T.rs.length rc') (.slice oa' T.os.length oc') (.int .i64 T.c) 77
   rw [World.size_alloc] at h
   exact h
 have NB : Hid (Below w.heap.size w ((w.alloc (.cells #[.int .i64 S.p, .slice ra S.rs.length rc, .slice oa S.os.length oc, .int .i64 S.c] 77)).alloc (.cells #[.int .i64 T.p, .slice ra' T.rs.length rc', .slice oa' T.os.length oc', .int .i64 T.c] 77))) := by
   show Below _ _ _
   go_grown
 go_enter Tryz.func66, Tryz.ntmps66
 go_wp2_with fail
 generalize (w.alloc (.cells #[.int .i64 S.p, .slice ra S.rs.length rc, .slice oa S.os.length oc, .int .i64 S.c] 77)).alloc (.cells #[.int .i64 T.p, .slice ra' T.rs.length rc', .slice oa' T.os.length oc', .int .i64 T.c] 77) = wb at *
 go_loopw [5] (fun i wr => ∃ k : Nat, k ≤ S.rs.length ∧ i = .int .i64 k ∧ Below wb.heap.size wb wr ∧ Hid (∀ j, j < k → zi S.rs j = zi T.rs j)) (fun i _ => S.rs.length - (intOf i).toNat)
 case atStart => exact ⟨0, Nat.zero_le _, rfl, Below.refl _ _, fun j hj => by omega⟩
 case round =>
   obtain ⟨k, hk, rfl, hbw, HZ⟩ := hrel
   have hw : Below w.heap.size w wr := NB.out.trans (hbw.mono NB.out.size)
   obtain ⟨n0, n1, n2, n3⟩ := N1.out.below hbw
   obtain ⟨m0, m1, m2, m3⟩ := N2.out.below hbw
   by_cases hlt : k < S.rs.length
   · have hlt2 : k < T.rs.length := by have := HE.out; omega
     obtain ⟨b, off, rfl, hbl, ck⟩ := (H1.out.1.below hw).at hlt
     obtain ⟨b', off', rfl, hbl', ck'⟩ := (H1.out.2.below hw).at hlt2
     have hlt' : (k : Int) < (S.rs.length : Int) := by omega
     have hlt2' : (k : Int) < (T.rs.length : Int) := by omega
     clear hlt2
     rcases Bool.eq_false_or_eq_true (zi S.rs k != zi T.rs k) with t | t
     · have HN : Hid (eqS S T = false) := by
         show eqS S T = false
         rw [HE.out.1]
         have : (S.rs == T.rs) = false := by
           rw [beq_eq_false_iff_ne]
           intro e
           rw [e] at t
           simp at t
         rw [this, Bool.false_and]
       go_wp2_with fail
       go_quiet (fail)
       go_wp2
       go_ret
       rw [HN.out]
       exact ⟨rfl, below_drewN hw _⟩
     · have HZ' : Hid (∀ j, j < k + 1 → zi S.rs j = zi T.rs j) := fun j hj => by
         by_cases e : j = k
         · subst e
           simpa using t
         · exact HZ.out j (by omega)
       clear HZ
       go_wp2_with fail
       go_quiet (fail)
       go_wp2
       go_roundw
       case rel => exact ⟨k + 1, by omega, by go_num, below_drewN hbw _, HZ'.out⟩
       case measure => simp [intOf]; omega
   · have HR : Hid ((S.rs == T.rs) = true) := by
       show (S.rs == T.rs) = true
       rw [beq_iff_eq]
       exact list_of_zi HE.out.2.1 fun j hj => HZ.out j (by omega)
     have hkl : k = S.rs.length := by omega
     subst hkl
     clear HZ hlt hk
     go_wp2_with fail
     clear n0 n1 n2 n3 m0 m1 m2 m3
     go_loopw [6] (fun i wr => ∃ k : Nat, k ≤ S.os.length ∧ i = .int .i64 k ∧ Below wb.heap.size wb wr ∧ Hid (∀ j, j < k → zi S.os j = zi T.os j)) (fun i _ => S.os.length - (intOf i).toNat)
     case atStart => exact ⟨0, Nat.zero_le _, rfl, hbw, fun j hj => by omega⟩
     case round =>
       clear hbw hw
       obtain ⟨k, hk, rfl, hbw, HZ⟩ := hrel
       have hw : Below w.heap.size w wr := NB.out.trans (hbw.mono NB.out.size)
       obtain ⟨n0, n1, n2, n3⟩ := N1.out.below hbw
       obtain ⟨m0, m1, m2, m3⟩ := N2.out.below hbw
       by_cases hlt : k < S.os.length
       · have hlt2 : k < T.os.length := by have := HE.out; omega
         obtain ⟨b, off, rfl, hbl, ck⟩ := (H2.out.1.below hw).at hlt
         obtain ⟨b', off', rfl, hbl', ck'⟩ := (H2.out.2.below hw).at hlt2
         have hlt' : (k : Int) < (S.os.length : Int) := by omega
         have hlt2' : (k : Int) < (T.os.length : Int) := by omega
         clear hlt2
         rcases Bool.eq_false_or_eq_true (zi S.os k != zi T.os k) with t | t
         · have HN : Hid (eqS S T = false) := by
             show eqS S T = false
             rw [HE.out.1]
             have : (S.os == T.os) = false := by
               rw [beq_eq_false_iff_ne]
               intro e
               rw [e] at t
               simp at t
             rw [this, Bool.and_false]
           go_wp2_with fail
           go_quiet (fail)
           go_wp2
           go_ret
           rw [HN.out]
           exact ⟨rfl, below_drewN hw _⟩
         · have HZ' : Hid (∀ j, j < k + 1 → zi S.os j = zi T.os j) := fun j hj => by
             by_cases e : j = k
             · subst e
               simpa using t
             · exact HZ.out j (by omega)
           clear HZ
           go_wp2_with fail
           go_quiet (fail)
           go_wp2
           go_roundw
           case rel => exact ⟨k + 1, by omega, by go_num, below_drewN hbw _, HZ'.out⟩
           case measure => simp [intOf]; omega
       · have HN : Hid (eqS S T = true) := by
           show eqS S T = true
           rw [HE.out.1, HR.out, Bool.true_and, beq_iff_eq]
           exact list_of_zi HE.out.2.2 fun j hj => HZ.out j (by omega)
         clear HZ
         go_wp2
         go_ret
         rw [HN.out]
         exact ⟨rfl, hw⟩
structure LWay (h : Nat → I2) (len : Nat) (sent : List Int) (t : Nat) : Prop where
 it : ∀ i, i < len → itemB (h i) = true
 le : len ≤ 12
 ln : sent.length = t + (numL h len).length
 eq : ∀ j, j < (numL h len).length → zi (numL h len) j = zi sent (t + j)
theorem zi_append_left {xs ys : List Int} {j : Nat} (h : j < xs.length) : zi (xs ++ ys) j = zi xs j := by
 simp [zi, List.getD_eq_getElem?_getD, List.getElem?_append_left h]
theorem zi_append_right {xs ys : List Int} {j : Nat} : zi (xs ++ ys) (xs.length + j) = zi ys j := by
 simp [zi, List.getD_eq_getElem?_getD, List.getElem?_append_right]
theorem LWay.iff {h : Nat → I2} {len : Nat} {took sent : List Int} : (LWay h len sent took.length ∧ ∀ i, i < took.length → zi took i = zi sent i) ↔ WayP h len took sent := by
 refine ⟨fun ⟨a, b⟩ => ⟨a.it, a.le, ?_⟩, fun a => ⟨⟨a.it, a.le, by rw [← a.eq, List.length_append], fun j _ => by rw [← a.eq, zi_append_right]⟩, fun i hi => by rw [← a.eq, zi_append_left hi]⟩⟩
 refine list_of_zi (by rw [List.length_append, a.ln]) fun j hj => ?_
 by_cases hl : j < took.length
 · rw [zi_append_left hl, b j hl]
 · rw [List.length_append] at hj
   have e : j = took.length + (j - took.length) := by omega
   rw [e, zi_append_right]
   exact a.eq _ (by omega)
set_option maxRecDepth 100000 in
set_option maxHeartbeats 2000000 in
theorem l4Way_any (a : Option Addr) (len cap : Nat) (h : Nat → I2) (sa : Option Addr) (sc : Nat) (sent : List Int) (t : Nat) (w : World) (hlen : len ≤ 1048576) (hc : ItL w a len h) (hs : sent.length ≤ 1048576) (hS : Sl w sa sent) (ht : t ≤ 1048576) :
   Calls Tryz.prog 68 #[.slice a len cap, .slice sa sent.length sc, .int .i64 t] w fun e w' => e = .returned (.bool (pB (LWay h len sent t))) ∧ Below w.heap.size w w' := by
 have hl' : (len : Int) ≤ 1048576 := by omega
 have hs' : (sent.length : Int) ≤ 1048576 := by omega
 have ht' : (t : Int) ≤ 1048576 := by omega
 have HC : Hid (ItL w a len h) := hc
 have HS : Hid (Sl w sa sent) := hS
 clear hc hS
 go_enter Tryz.func68, Tryz.ntmps68
 go_wp2_with fail
 go_loopw [7] (fun i wr => ∃ k : Nat, k ≤ len ∧ i = .int .i64 k ∧ Below w.heap.size w wr ∧ Hid (∀ j, j < k → itemB (h j) = true)) (fun i _ => len - (intOf i).toNat)
 case atStart => exact ⟨0, Nat.zero_le _, rfl, Below.refl _ _, fun j hj => by omega⟩
 case round =>
   obtain ⟨k, hk, rfl, hbw, HZ⟩ := hrel
   by_cases hlt : k < len
   · have hlt' : (k : Int) < (len : Int) := by omega
     obtain ⟨b, off, rfl, -, c0, c1⟩ := (HC.out.below hbw).at hlt
     have hN : ∀ {x : Bool}, inB (h k).v (-1000000000) 1000000000 = x → numB (h k).v = x := fun e => e
     rcases Bool.eq_false_or_eq_true (inB (h k).v (-1000000000) 1000000000) with t1 | t1
     · have go_on : itemB (h k) = true → Hid (∀ j, j < k + 1 → itemB (h j) = true) := fun t j hj => by
         by_cases e : j = k
         · subst e
           exact t
         · exact HZ.out j (by omega)
       have stop : itemB (h k) = false → Hid (pB (LWay h len sent t) = false) := fun t => pB_false fun x => by
         have := x.it k hlt
         rw [t] at this
         cases this
       rcases Bool.eq_false_or_eq_true (h k).m with t2 | t2
       · rcases Bool.eq_false_or_eq_true ((h k).v != 0) with t3 | t3
         · have HN := stop (by
             have : ((h k).v == 0) = false := by simpa using t3
             simp [itemB, t2, this])
           rw [t2] at c0
           clear go_on stop HZ hN
           go_wp2_with fail
           refine (l1Num_any _ _).mono ?_
           rintro e w1 ⟨rfl, rfl⟩
           rw [t1]
           go_wp2
           go_ret
           rw [HN.out]
           exact ⟨rfl, hbw⟩
         · have HZ' := go_on (by
             have : ((h k).v == 0) = true := by simpa using t3
             simp [itemB, hN t1, this])
           rw [t2] at c0
           clear go_on stop HZ hN
           go_wp2_with fail
           refine (l1Num_any _ _).mono ?_
           rintro e w1 ⟨rfl, rfl⟩
           rw [t1]
           go_wp2
           go_roundw
           case rel => exact ⟨k + 1, by omega, by go_num, hbw, HZ'.out⟩
           case measure => simp [intOf]; omega
       · have HZ' := go_on (by simp [itemB, hN t1, t2])
         rw [t2] at c0
         clear go_on stop HZ hN
         go_wp2_with fail
         refine (l1Num_any _ _).mono ?_
         rintro e w1 ⟨rfl, rfl⟩
         rw [t1]
         go_wp2
         go_roundw
         case rel => exact ⟨k + 1, by omega, by go_num, hbw, HZ'.out⟩
         case measure => simp [intOf]; omega
     · have HN : Hid (pB (LWay h len sent t) = false) := pB_false fun x => by
         have := x.it k hlt
         simp [itemB, hN t1] at this
       clear HZ hN
       go_wp2_with fail
       refine (l1Num_any _ _).mono ?_
       rintro e w1 ⟨rfl, rfl⟩
       rw [t1]
       go_wp2
       go_ret
       rw [HN.out]
       exact ⟨rfl, hbw⟩
   · have HZ' : Hid (∀ j, j < len → itemB (h j) = true) := fun j hj => HZ.out j (by omega)
     have hkl : k = len := by omega
     subst hkl
     clear HZ hlt hk
     go_wp2_with fail
     refine (specNumbers_l a k cap h wr hlen (HC.out.below hbw)).mono ?_
     rintro e w1 ⟨v, rfl, o1, b1⟩
     obtain ⟨na, nc, rfl, s1⟩ := o1.form
     have B1 : Hid (Below w.heap.size w w1) := hbw.trans (b1.mono hbw.size)
     have S1 : Hid (Sl w1 na (numL h k)) := s1
     have hnl := numL_le h k
     have hnl' : ((numL h k).length : Int) ≤ 1048576 := by omega
     clear o1 b1 s1 hbw
     generalize hNU : numL h k = nu at *
     have HNU : Hid (numL h k = nu) := hNU
     clear hNU hnl
     by_cases h12 : k ≤ 12
     case neg =>
       have h12' : (12 : Int) < (k : Int) := by omega
       have HN : Hid (pB (LWay h k sent t) = false) := pB_false fun x => h12 x.le
       go_wp2
       go_ret
       rw [HN.out]
       exact ⟨rfl, B1.out⟩
     have h12' : ¬ (12 : Int) < (k : Int) := by omega
     rcases Bool.eq_false_or_eq_true (((sent.length : Int) - (t : Int)) != (nu.length : Int)) with t5 | t5
     · have HN : Hid (pB (LWay h k sent t) = false) := pB_false fun x => by
         have := x.ln
         rw [HNU.out] at this
         rw [this] at t5
         simp at t5
         omega
       go_wp2
       go_ret
       rw [HN.out]
       exact ⟨rfl, B1.out⟩
     have HLN : Hid (sent.length = t + nu.length) := by
       show sent.length = t + nu.length
       simp at t5
       omega
     go_wp2_with fail
     go_loopw [9] (fun i wr => ∃ j : Nat, j ≤ nu.length ∧ i = .int .i64 j ∧ Below w1.heap.size w1 wr ∧ Hid (∀ i, i < j → zi nu i = zi sent (t + i))) (fun i _ => nu.length - (intOf i).toNat)
     case atStart => exact ⟨0, Nat.zero_le _, rfl, Below.refl _ _, fun j hj => by omega⟩
     case round =>
       obtain ⟨j, hj, rfl, hbw, HZ⟩ := hrel
       have hw : Below w.heap.size w wr := B1.out.trans (hbw.mono B1.out.size)
       by_cases hlt : j < nu.length
       · have hlt2 : t + j < sent.length := by have := HLN.out; omega
         obtain ⟨b, off, rfl, hbl, ck⟩ := (S1.out.below hbw).at hlt
         obtain ⟨b', off', rfl, hbl', ck'⟩ := (HS.out.below hw).at hlt2
         have hlt' : (j : Int) < (nu.length : Int) := by omega
         have hlt2' : (t : Int) + (j : Int) < (sent.length : Int) := by omega
         have hq : ((t : Int) + (j : Int)).toNat = t + j := by omega
         clear hlt2
         rcases Bool.eq_false_or_eq_true (zi nu j != zi sent (t + j)) with t6 | t6
         · have HN : Hid (pB (LWay h k sent t) = false) := pB_false fun x => by
             have := x.eq j (by rw [HNU.out]; exact hlt)
             rw [HNU.out] at this
             rw [this] at t6
             simp at t6
           go_wp2_with fail
           go_quiet (fail)
           go_wp2
           go_ret
           rw [HN.out]
           exact ⟨rfl, below_drewN hw _⟩
         · have HZ2 : Hid (∀ i, i < j + 1 → zi nu i = zi sent (t + i)) := fun i hi => by
             by_cases e : i = j
             · subst e
               simpa using t6
             · exact HZ.out i (by omega)
           clear HZ
           go_wp2_with fail
           go_quiet (fail)
           go_wp2
           go_roundw
           case rel => exact ⟨j + 1, by omega, by go_num, below_drewN hbw _, HZ2.out⟩
           case measure => simp [intOf]; omega
       · have HN : Hid (pB (LWay h k sent t) = true) := pB_true ⟨HZ'.out, h12, by rw [HNU.out]; exact HLN.out, fun i hi => by
           rw [HNU.out] at hi ⊢
           exact HZ.out i (by omega)⟩
         clear HZ
         go_wp2
         go_ret
         rw [HN.out]
         exact ⟨rfl, hw⟩
end Go.Proofs.YtihilndfhlfdfaaGreatDoor
namespace Go.Proofs.YtihilndfhlfdfaaGreatDoor
open Go.ChangeShapes Go.WideShapes Go.ChangeAt Go.RowKit Go.Deep
structure OwnS (w : World) (B : Nat) (c : Nat → Nat) (y : Sy) (vp vs vw vh : Value) (up us uw uh : Nat → Value) : Prop where
 p : LI w (Cl B c 1) vp y.pn up y.pL y.pH
 s : LS w (Cl B c 2) vs y.sn us y.sS
 t : LT w (Cl B c 3) vw y.wn uw y.wL y.wH
 h : LE w (Cl B c 4) vh y.hn uh y.hL y.hH
theorem OwnS.below {w w' : World} {B : Nat} {c : Nat → Nat} {y : Sy} {vp vs vw vh : Value} {up us uw uh : Nat → Value} (o : OwnS w B c y vp vs vw vh up us uw uh) (hb : Below w.heap.size w w') : OwnS w' B c y vp vs vw vh up us uw uh := ⟨o.p.below hb, o.s.below hb, o.t.below hb, o.h.below hb⟩
def OwnSys (w : World) (B : Nat) (y : Sy) (v : Value) : Prop := ∃ c vp vs vw vh up us uw uh, v = .agg #[vp, vs, vw, vh] ∧ OwnS w B c y vp vs vw vh up us uw uh
end Go.Proofs.YtihilndfhlfdfaaGreatDoor
namespace Go.Proofs.YtihilndfhlfdfaaGreatDoor
open Go.ChangeShapes Go.WideShapes Go.ChangeAt Go.RowKit Go.Deep
theorem ownsRow_slice {w : World} {B : Nat} {e : TypeId} {sz : Nat} {v : Value} {n : Nat} {xs : List Value} (h : w.ownsRow B e sz v n xs) : ∃ a c, v = .slice a n c := by
 rcases h.2 with ⟨rfl, rfl⟩ | ⟨g, cap, cur, rfl, _⟩
 · exact ⟨none, 0, rfl⟩
 · exact ⟨_, _, rfl⟩
set_option maxRecDepth 100000 in
set_option maxHeartbeats 1000000 in
theorem l4Ins_any (a0 : Option Addr) (n cap : Nat) (A : Nat → Option Addr) (L C : Nat → Nat) (H : Nat → Nat → I5) (w : World) (hn : n ≤ 1048576) (hL : ∀ i, i < n → L i ≤ 1048576) (hr : RowS w a0 n fun i => .slice (A i) (L i) (C i)) (hI : ∀ i, i < n → Src w (A i) (fI (H i) (L i))) :
   Calls Tryz.prog 53 #[.slice a0 n cap] w fun e w' => ∃ v u, e = .returned v ∧ LI w' (fun k => w.heap.size ≤ k ∧ k < w'.heap.size) v n u L H ∧ Below w.heap.size w w' := by
 have hn' : (n : Int) ≤ 1048576 := by omega
 have HR : Hid (RowS w a0 n fun i => .slice (A i) (L i) (C i)) := hr
 have HI : Hid (∀ i, i < n → Src w (A i) (fI (H i) (L i))) := hI
 have HL : Hid (∀ i, i < n → L i ≤ 1048576) := hL
 clear hr hI hL
 go_enter Tryz.func53, Tryz.ntmps53
 go_wp2_with fail
 go_loopw [3, 4] (fun v i wr => ∃ k : Nat, k ≤ n ∧ i = .int .i64 k ∧ Hid ((∃ u, LI wr (fun b => w.heap.size ≤ b ∧ b < wr.heap.size) v k u L H) ∧ Below w.heap.size w wr)) (fun _ i _ => n - (intOf i).toNat)
 case atStart => exact ⟨0, Nat.zero_le _, rfl, ⟨fun _ => .slice none 0 0, LL.new _ _ _ w _ (by simp) _ _ _⟩, below_allocL _ _⟩
 case round =>
   obtain ⟨k, hk, rfl, HZ⟩ := hrel
   by_cases hlt : k < n
   · have hlt' : (k : Int) < (n : Int) := by omega
     obtain ⟨b, off, rfl, ck⟩ := (HR.out.below HZ.out.2).at hlt
     have hbl : b < wr.heap.size := World.block_lt_of_cell? wr _ ck
     have HS : Hid (Src wr (A k) (fI (H k) (L k))) := (HI.out k hlt).below HZ.out.2
     have HLk : Hid (L k ≤ 1048576) := HL.out k hlt
     have hk2 : Hid (k ≤ 2000000) := by show k ≤ 2000000; omega
     obtain ⟨⟨u, oz⟩, bz⟩ := HZ.out
     have OZ : Hid (LI wr (fun b => w.heap.size ≤ b ∧ b < wr.heap.size) u3 k u L H) := oz
     have BZ : Hid (Below w.heap.size w wr) := bz
     clear oz bz HZ
     go_wp2_with (first
       | (at_builtin; refine step_append_srcN kndI wr rfl rfl _ _ rfl (A k) (L k) (C k) (fI (H k) (L k)) rfl rfl (fI_len _ _) HS.out (fI_one _ _) (Nat.le_trans HLk.out (by omega)) ?_; intro v4 w4 o4 b4 n4; obtain ⟨a4, c4, rfl⟩ := ownsRow_slice o4; have F4 : Hid (w4.ownsRow wr.heap.size 82 5 (.slice a4 (L k) c4) (L k) (fI (H k) (L k)) ∧ Below wr.heap.size wr w4 ∧ Value.slice a4 (L k) c4 ≠ .slice none 0 0) := ⟨o4, b4, n4⟩; clear o4 b4 n4)
       | (at_builtin; refine step_append_val kndII w4 rfl rfl _ _ rfl 0 u3 k _ rfl (OZ.out.below F4.out.2.1).row #[.slice a4 (L k) c4] rfl rfl (by intro u hu; simp at hu; subst hu; rfl) hk2.out (Nat.zero_le _) ?_; intro v5 w5 o5 g5 q5 n5; have F5 : Hid (LI w5 (fun b => w.heap.size ≤ b ∧ b < w5.heap.size) v5 (k + 1) (fun j => if j = k then .slice a4 (L k) c4 else u j) L H ∧ Below w.heap.size w w5) := ⟨OZ.out.push F4.out.2.1 F4.out.1 F4.out.2.2 o5 g5 q5 (fun j hj _ => ⟨hj.1, Nat.lt_of_lt_of_le hj.2 (Nat.le_trans F4.out.2.1.size g5.size)⟩) (fun j hj hj' => ⟨Nat.le_trans BZ.out.size hj, hj'⟩), Below.grown (BZ.out.trans (F4.out.2.1.mono BZ.out.size)) g5 (Nat.le_trans BZ.out.size F4.out.2.1.size) (fun j hj => (OZ.out.rb j hj).1)⟩; clear o5 g5 q5 n5))
     go_roundw
     case rel => exact ⟨k + 1, by omega, by go_num, ⟨_, F5.out.1⟩, F5.out.2⟩
     case measure => simp [intOf]; omega
   · have hkn : k = n := by omega
     subst hkn
     go_wp2
     go_ret
     obtain ⟨⟨u, oz⟩, bz⟩ := HZ.out
     exact ⟨_, u, rfl, oz, bz⟩
set_option maxRecDepth 100000 in
set_option maxHeartbeats 1000000 in
theorem l4Events_any (a0 : Option Addr) (n cap : Nat) (A : Nat → Option Addr) (L C : Nat → Nat) (H : Nat → Nat → E3) (w : World) (hn : n ≤ 1048576) (hL : ∀ i, i < n → L i ≤ 1048576) (hr : RowS w a0 n fun i => .slice (A i) (L i) (C i)) (hI : ∀ i, i < n → Src w (A i) (fE (H i) (L i))) :
   Calls Tryz.prog 87 #[.slice a0 n cap] w fun e w' => ∃ v u, e = .returned v ∧ LE w' (fun k => w.heap.size ≤ k ∧ k < w'.heap.size) v n u L H ∧ Below w.heap.size w w' := by
 have hn' : (n : Int) ≤ 1048576 := by omega
 have HR : Hid (RowS w a0 n fun i => .slice (A i) (L i) (C i)) := hr
 have HI : Hid (∀ i, i < n → Src w (A i) (fE (H i) (L i))) := hI
 have HL : Hid (∀ i, i < n → L i ≤ 1048576) := hL
 clear hr hI hL
 go_enter Tryz.func87, Tryz.ntmps87
 go_wp2_with fail
 go_loopw [3, 4] (fun v i wr => ∃ k : Nat, k ≤ n ∧ i = .int .i64 k ∧ Hid ((∃ u, LE wr (fun b => w.heap.size ≤ b ∧ b < wr.heap.size) v k u L H) ∧ Below w.heap.size w wr)) (fun _ i _ => n - (intOf i).toNat)
 case atStart => exact ⟨0, Nat.zero_le _, rfl, ⟨fun _ => .slice none 0 0, LL.new _ _ _ w _ (by simp) _ _ _⟩, below_allocL _ _⟩
 case round =>
   obtain ⟨k, hk, rfl, HZ⟩ := hrel
   by_cases hlt : k < n
   · have hlt' : (k : Int) < (n : Int) := by omega
     obtain ⟨b, off, rfl, ck⟩ := (HR.out.below HZ.out.2).at hlt
     have hbl : b < wr.heap.size := World.block_lt_of_cell? wr _ ck
     have HS : Hid (Src wr (A k) (fE (H k) (L k))) := (HI.out k hlt).below HZ.out.2
     have HLk : Hid (L k ≤ 1048576) := HL.out k hlt
     have hk2 : Hid (k ≤ 2000000) := by show k ≤ 2000000; omega
     obtain ⟨⟨u, oz⟩, bz⟩ := HZ.out
     have OZ : Hid (LE wr (fun b => w.heap.size ≤ b ∧ b < wr.heap.size) u3 k u L H) := oz
     have BZ : Hid (Below w.heap.size w wr) := bz
     clear oz bz HZ
     go_wp2_with (first
       | (at_builtin; refine step_append_srcN kndE wr rfl rfl _ _ rfl (A k) (L k) (C k) (fE (H k) (L k)) rfl rfl (fE_len _ _) HS.out (fE_one _ _) (Nat.le_trans HLk.out (by omega)) ?_; intro v4 w4 o4 b4 n4; obtain ⟨a4, c4, rfl⟩ := ownsRow_slice o4; have F4 : Hid (w4.ownsRow wr.heap.size 69 3 (.slice a4 (L k) c4) (L k) (fE (H k) (L k)) ∧ Below wr.heap.size wr w4 ∧ Value.slice a4 (L k) c4 ≠ .slice none 0 0) := ⟨o4, b4, n4⟩; clear o4 b4 n4)
       | (at_builtin; refine step_append_val kndEE w4 rfl rfl _ _ rfl 0 u3 k _ rfl (OZ.out.below F4.out.2.1).row #[.slice a4 (L k) c4] rfl rfl (by intro u hu; simp at hu; subst hu; rfl) hk2.out (Nat.zero_le _) ?_; intro v5 w5 o5 g5 q5 n5; have F5 : Hid (LE w5 (fun b => w.heap.size ≤ b ∧ b < w5.heap.size) v5 (k + 1) (fun j => if j = k then .slice a4 (L k) c4 else u j) L H ∧ Below w.heap.size w w5) := ⟨OZ.out.push F4.out.2.1 F4.out.1 F4.out.2.2 o5 g5 q5 (fun j hj _ => ⟨hj.1, Nat.lt_of_lt_of_le hj.2 (Nat.le_trans F4.out.2.1.size g5.size)⟩) (fun j hj hj' => ⟨Nat.le_trans BZ.out.size hj, hj'⟩), Below.grown (BZ.out.trans (F4.out.2.1.mono BZ.out.size)) g5 (Nat.le_trans BZ.out.size F4.out.2.1.size) (fun j hj => (OZ.out.rb j hj).1)⟩; clear o5 g5 q5 n5))
     go_roundw
     case rel => exact ⟨k + 1, by omega, by go_num, ⟨_, F5.out.1⟩, F5.out.2⟩
     case measure => simp [intOf]; omega
   · have hkn : k = n := by omega
     subst hkn
     go_wp2
     go_ret
     obtain ⟨⟨u, oz⟩, bz⟩ := HZ.out
     exact ⟨_, u, rfl, oz, bz⟩
end Go.Proofs.YtihilndfhlfdfaaGreatDoor
namespace Go.Proofs.YtihilndfhlfdfaaGreatDoor
open Go.ChangeShapes Go.WideShapes Go.ChangeAt Go.RowKit Go.Deep
theorem stepR_append_src {ops : Array Oper} {o : Oper} {a : Act} {K : Act → World → Prop} {Q : Exit → Act → World → Prop} {E : Prop} {t e : TypeId} {size bytes : Nat} (KK : Kind t e size bytes) (w : World) (hg : o.guard = none) (s x : Operand)
   (ho : o.op = .call { callee := .builtin .append, args := #[s, x], argTypes := #[t, t] })
   (B : Nat) (v : Value) (n : Nat) (xs : List Value) (hs : a.eval s = v) (hown : w.ownsRow B e size v n xs) (a0 : Option Addr) (m c : Nat) (news : List Value) (hx : a.eval x = .slice a0 m c) (hl : news.length = m * size) (hsrc : Src w a0 news) (h1 : ∀ u ∈ news, u.oneCell' = true) (hnm : n + m ≤ 4000000) (hB : B ≤ w.heap.size)
   (h : ∀ v' w', w'.ownsRow B e size v' (n + m) (xs ++ news) → w.grownBy w' v.ownBlock → (v'.ownBlock = v.ownBlock ∨ v'.ownBlock = some w.heap.size) → (v ≠ .slice none 0 0 ∨ 0 < m → v' ≠ .slice none 0 0) → K (a.put o.dst v') w') :
   if Region.wanted o (yielded ops a.tmps) = true then Oper.wp Tryz.prog o a w K Q else E := by
 obtain ⟨v', w', r1, r2, r3, r4, r5⟩ := run_append_src KK w o.type B v n xs hown a0 m c news hl hsrc h1 hnm hB
 have hw : Region.wanted o (yielded ops a.tmps) = true := by simp [Region.wanted, hg]
 rw [if_pos hw]
 unfold Oper.wp execOp
 simp only [ho, resolve, invoke, builtin, Sem.run_bind, Sem.run_pure, Result.andThen_ok, List.map_toArray, List.map_cons, List.map_nil, hs, hx, r1]
 exact h v' w' r2 r3 r4 r5
theorem stepR_append_srcN {ops : Array Oper} {o : Oper} {a : Act} {K : Act → World → Prop} {Q : Exit → Act → World → Prop} {E : Prop} {t e : TypeId} {size bytes : Nat} (KK : Kind t e size bytes) (w : World) {N : Nat} (hN : N = w.heap.size) (hg : o.guard = none) (s x : Operand)
   (ho : o.op = .call { callee := .builtin .append, args := #[s, x], argTypes := #[t, t] })
   (a0 : Option Addr) (m c : Nat) (news : List Value) (hs : a.eval s = .slice (some ⟨N, 0, none⟩) 0 0) (hx : a.eval x = .slice a0 m c) (hl : news.length = m * size) (hsrc : Src w a0 news) (h1 : ∀ u ∈ news, u.oneCell' = true) (hnm : m ≤ 4000000)
   (h : ∀ v' w', w'.ownsRow w.heap.size e size v' m news → Below w.heap.size w w' → v' ≠ .slice none 0 0 → K (a.put o.dst v') w') :
   if Region.wanted o (yielded ops a.tmps) = true then Oper.wp Tryz.prog o a (w.alloc (.cells #[] e)) K Q else E := by
 subst hN
 have hb : Below w.heap.size w (w.alloc (.cells #[] e)) := below_allocL _ _
 refine stepR_append_src KK _ hg s x ho w.heap.size (.slice (some ⟨w.heap.size, 0, none⟩) 0 0) 0 [] hs (World.ownsRow_made (base := w.heap.size) (e := e) (size := size) w #[] 0 (Nat.le_refl _) (by unfold maxLen; omega) (by simp)) a0 m c news hx hl (hsrc.below hb) h1 (by omega) (by simp) ?_
 intro v' w' o g _ hne
 rw [Nat.zero_add, List.nil_append] at o
 exact h v' w' o (hb.grown g (by simp) (fun k hk => by cases hk; exact Nat.le_refl _)) (hne (.inl (by simp)))
theorem stepR_append_val {ops : Array Oper} {o : Oper} {a : Act} {K : Act → World → Prop} {Q : Exit → Act → World → Prop} {E : Prop} {t e : TypeId} {size bytes : Nat} (KK : Kind t e size bytes) (w : World) {N : Nat} (hN : N = w.heap.size) (hg : o.guard = none) (s x : Operand)
   (ho : o.op = .call { callee := .builtin .append, args := #[s, x], argTypes := #[t, t] })
   (B : Nat) (v : Value) (n : Nat) (xs : List Value) (hs : a.eval s = v) (hown : w.ownsRow B e size v n xs) (cs : Array Value) (hx : a.eval x = .slice (some ⟨N, 0, none⟩) 1 1) (hl : cs.size = size) (h1 : ∀ u ∈ cs.toList, u.oneCell' = true) (hn : n ≤ 2000000) (hB : B ≤ w.heap.size)
   (h : ∀ v' w', w'.ownsRow B e size v' (n + 1) (xs ++ cs.toList) → w.grownBy w' v.ownBlock → (∀ j, v'.ownBlock = some j → v.ownBlock = some j ∨ w.heap.size ≤ j) → v' ≠ .slice none 0 0 → K (a.put o.dst v') w') :
   if Region.wanted o (yielded ops a.tmps) = true then Oper.wp Tryz.prog o a (w.alloc (.cells cs e)) K Q else E := by
 subst hN
 have hb : Below w.heap.size w (w.alloc (.cells cs e)) := below_allocL _ _
 refine stepR_append_src KK _ hg s x ho B v n xs hs (hown.alloc _) (some ⟨w.heap.size, 0, none⟩) 1 1 cs.toList hx (by simp [hl]) (.inr ⟨w.heap.size, 0, rfl, by simp, fun j u hj => ?_⟩) h1 (by omega) (by simp; omega) ?_
 · rw [Nat.zero_add, new_cell _ _ _ j rfl]
   simpa using hj
 · intro v' w' o g hbk hne
   refine h v' w' o ⟨g.os, g.tape, g.output, Nat.le_trans hb.size g.size, fun j hj hne => (g.block j (Nat.lt_of_lt_of_le hj hb.size) hne).trans (hb.block j hj)⟩ (fun j hj => ?_) (hne (.inr (by omega)))
   rcases hbk with a | a
   · exact .inl (a.symm.trans hj)
   · rw [hj] at a
     simp only [Option.some.injEq] at a
     right
     rw [a]
     simp
theorem stepR_call {ops : Array Oper} {o : Oper} {a : Act} {w : World} {K : Act → World → Prop} {Q : Exit → Act → World → Prop} {E : Prop} (hg : o.guard = none) (f : FuncId) (args : Array Operand) (ts : Array TypeId)
   (ho : o.op = .call { callee := .value (.func f), args := args, argTypes := ts }) (vals : Array Value) (hv : args.map a.eval = vals) (hen : ∀ vs wx, (callFunc f vs).run Tryz.prog wx = .ok (.enter f vs) wx) {post : Ending → World → Prop} (hc : Calls Tryz.prog f vals w post)
   (h : ∀ e w', post e w' → ∃ v, e = .returned v ∧ K (a.put o.dst v) w') :
   if Region.wanted o (yielded ops a.tmps) = true then Oper.wp Tryz.prog o a w K Q else E := by
 have hw : Region.wanted o (yielded ops a.tmps) = true := by simp [Region.wanted, hg]
 rw [if_pos hw]
 have hr : (execOp a.eval o).run Tryz.prog w = .ok (.enter f vals) w := by
   unfold execOp
   simp [ho, resolve, invoke, hv, hen, Act.eval, Deferred.ofValue]
 unfold Oper.wp
 rw [hr, Oper.upon_enter]
 refine hc.mono fun e w' hp => ?_
 obtain ⟨v, rfl, hk⟩ := h e w' hp
 exact hk
end Go.Proofs.YtihilndfhlfdfaaGreatDoor
namespace Go.Proofs.YtihilndfhlfdfaaGreatDoor
open Go.ChangeShapes Go.WideShapes Go.ChangeAt Go.RowKit Go.Deep
def rcol (c : Nat → Nat) (n q : Nat) : Nat → Nat := fun k => if k < n then c k else q
theorem rcol_old {c : Nat → Nat} {n q k : Nat} (h : k < n) : rcol c n q k = c k := if_pos h
theorem rcol_new {c : Nat → Nat} {n q k : Nat} (h : n ≤ k) : rcol c n q k = q := if_neg (by omega)
theorem Cl.old {B : Nat} {c : Nat → Nat} {n q i k : Nat} (h : Cl B c i k) (hk : k < n) : Cl B (rcol c n q) i k := ⟨h.1, (rcol_old hk).trans h.2⟩
structure CpB (B N : Nat) (c : Nat → Nat) (y : Sy) (ks kw : Nat) (wx : World) (vp vs vw vh : Value) (up us uw uh : Nat → Value) : Prop where
 bx : BoxC wx N vp vs vw vh
 fr : ∀ j, wx.frozen? ⟨N, j, none⟩ = false
 cN : c N = 0
 bN : B ≤ N
 o : OwnS wx B c { y with sn := ks, wn := kw } vp vs vw vh up us uw uh
section
variable {B N : Nat} {c : Nat → Nat} {y : Sy} {ks kw : Nat} {wr : World} {vp vs vw vh : Value} {up us uw uh : Nat → Value}
theorem CpB.lt (h : CpB B N c y ks kw wr vp vs vw vh up us uw uh) : N < wr.heap.size := World.block_lt_of_cell? wr _ h.bx.1
theorem CpB.state (h : CpB B N c y ks kw wr vp vs vw vh up us uw uh) {w1 w3 : World} {u' v' : Value} (b1 : Below wr.heap.size wr w1) (hu : StOwn w1 wr.heap.size u' (y.sS ks).p (y.sS ks).rs (y.sS ks).os (y.sS ks).c) (hv : w3.ownsRow 0 77 4 v' (ks + 1) (flat (fun i => cellsL (us i)) ks ++ cellsL u')) (g : w1.grownBy w3 vs.ownBlock) (hv' : ∀ j, v'.ownBlock = some j → vs.ownBlock = some j ∨ w1.heap.size ≤ j) :
   CpB B N (rcol c wr.heap.size 2) y (ks + 1) kw (w3.setCell ⟨N, 1, none⟩ v') vp v' vw vh up (fun j => if j = ks then u' else us j) uw uh := by
 have hN := h.lt
 have hkeep : ∀ k, k < wr.heap.size → c k ≠ 2 → w3.heap[k]? = wr.heap[k]? := fun k hk hc => (g.block k (Nat.lt_of_lt_of_le hk b1.size) fun e => hc (h.o.s.rb k e.symm).2).trans (b1.block k hk)
 have hset : ∀ k, k ≠ N → (w3.setCell ⟨N, 1, none⟩ v').heap[k]? = w3.heap[k]? := fun k hk => Below.heap_setCell _ _ _ _ hk
 have hcN : rcol c wr.heap.size 2 N = 0 := (rcol_old hN).trans h.cN
 have hBN : w3.heap[N]? = wr.heap[N]? := hkeep N hN (by rw [h.cN]; decide)
 have hkk : ∀ i, i ≠ 2 → i ≠ 0 → ∀ k, Cl B (rcol c wr.heap.size 2) i k → k < wr.heap.size → (w3.setCell ⟨N, 1, none⟩ v').heap[k]? = wr.heap[k]? := fun i h2 h0 k hk hl => by
   have e : c k = i := (rcol_old hl).symm.trans hk.2
   exact (hset k fun en => h0 (by rw [← e, en, h.cN])).trans (hkeep k hl (by rw [e]; exact h2))
 have hP : ∀ i k, Cl B c i k → k < wr.heap.size → Cl B (rcol c wr.heap.size 2) i k := fun i k hk hl => hk.old hl
 have hP' : ∀ k, wr.heap.size ≤ k → k < w3.heap.size → Cl B (rcol c wr.heap.size 2) 2 k := fun k hk _ => ⟨Nat.le_trans h.bN (Nat.le_trans (Nat.le_of_lt hN) hk), rcol_new hk⟩
 obtain ⟨x0, x1, x2, x3⟩ := h.bx
 have hc : ∀ j, w3.cell? ⟨N, j, none⟩ = wr.cell? ⟨N, j, none⟩ := fun j => World.cell?_of_block hBN
 have hnew : ∀ k, Cl B (rcol c wr.heap.size 2) 2 k → k < w3.heap.size → (w3.setCell ⟨N, 1, none⟩ v').heap[k]? = w3.heap[k]? := fun k hk _ => hset k fun e => by
   have e2 := hk.2
   rw [e, hcN] at e2
   cases e2
 refine ⟨⟨?_, ?_, ?_, ?_⟩, fun j => ?_, hcN, h.bN, ⟨?_, ?_, ?_, ?_⟩⟩
 · rw [World.cell?_setCell_other _ _ _ _ (by simp), hc]; exact x0
 · exact World.cell?_setCell_same _ _ _ ((hc 1).trans x1)
 · rw [World.cell?_setCell_other _ _ _ _ (by simp), hc]; exact x2
 · rw [World.cell?_setCell_other _ _ _ _ (by simp), hc]; exact x3
 · rw [World.frozen?_setCell, World.frozen?_of_block hBN]; exact h.fr j
 · exact (h.o.p.mono (hP 1)).keep (hkk 1 (by decide) (by decide))
 · exact (h.o.s.push b1 hu hv g hv' (hP 2) hP').keep hnew
 · exact (h.o.t.mono (hP 3)).keep (hkk 3 (by decide) (by decide))
 · exact (h.o.h.mono (hP 4)).keep (hkk 4 (by decide) (by decide))
theorem CpB.way (h : CpB B N c y ks kw wr vp vs vw vh up us uw uh) {w1 w3 : World} {u' v' : Value} (b1 : Below wr.heap.size wr w1) (hu : w1.ownsRow wr.heap.size 118 2 u' (y.wL kw) (fT (y.wH kw) (y.wL kw))) (hne : u' ≠ .slice none 0 0) (hv : w3.ownsRow 0 99 1 v' (kw + 1) ((List.range kw).map uw ++ [u'])) (g : w1.grownBy w3 vw.ownBlock) (hv' : ∀ j, v'.ownBlock = some j → vw.ownBlock = some j ∨ w1.heap.size ≤ j) :
   CpB B N (rcol c wr.heap.size 3) y ks (kw + 1) (w3.setCell ⟨N, 2, none⟩ v') vp vs v' vh up us (fun j => if j = kw then u' else uw j) uh := by
 have hN := h.lt
 have hkeep : ∀ k, k < wr.heap.size → c k ≠ 3 → w3.heap[k]? = wr.heap[k]? := fun k hk hc => (g.block k (Nat.lt_of_lt_of_le hk b1.size) fun e => hc (h.o.t.rb k e.symm).2).trans (b1.block k hk)
 have hset : ∀ k, k ≠ N → (w3.setCell ⟨N, 2, none⟩ v').heap[k]? = w3.heap[k]? := fun k hk => Below.heap_setCell _ _ _ _ hk
 have hcN : rcol c wr.heap.size 3 N = 0 := (rcol_old hN).trans h.cN
 have hBN : w3.heap[N]? = wr.heap[N]? := hkeep N hN (by rw [h.cN]; decide)
 have hkk : ∀ i, i ≠ 3 → i ≠ 0 → ∀ k, Cl B (rcol c wr.heap.size 3) i k → k < wr.heap.size → (w3.setCell ⟨N, 2, none⟩ v').heap[k]? = wr.heap[k]? := fun i h2 h0 k hk hl => by
   have e : c k = i := (rcol_old hl).symm.trans hk.2
   exact (hset k fun en => h0 (by rw [← e, en, h.cN])).trans (hkeep k hl (by rw [e]; exact h2))
 have hP : ∀ i k, Cl B c i k → k < wr.heap.size → Cl B (rcol c wr.heap.size 3) i k := fun i k hk hl => hk.old hl
 have hP' : ∀ k, wr.heap.size ≤ k → k < w3.heap.size → Cl B (rcol c wr.heap.size 3) 3 k := fun k hk _ => ⟨Nat.le_trans h.bN (Nat.le_trans (Nat.le_of_lt hN) hk), rcol_new hk⟩
 obtain ⟨x0, x1, x2, x3⟩ := h.bx
 have hc : ∀ j, w3.cell? ⟨N, j, none⟩ = wr.cell? ⟨N, j, none⟩ := fun j => World.cell?_of_block hBN
 have hnew : ∀ k, Cl B (rcol c wr.heap.size 3) 3 k → k < w3.heap.size → (w3.setCell ⟨N, 2, none⟩ v').heap[k]? = w3.heap[k]? := fun k hk _ => hset k fun e => by
   have e2 := hk.2
   rw [e, hcN] at e2
   cases e2
 refine ⟨⟨?_, ?_, ?_, ?_⟩, fun j => ?_, hcN, h.bN, ⟨?_, ?_, ?_, ?_⟩⟩
 · rw [World.cell?_setCell_other _ _ _ _ (by simp), hc]; exact x0
 · rw [World.cell?_setCell_other _ _ _ _ (by simp), hc]; exact x1
 · exact World.cell?_setCell_same _ _ _ ((hc 2).trans x2)
 · rw [World.cell?_setCell_other _ _ _ _ (by simp), hc]; exact x3
 · rw [World.frozen?_setCell, World.frozen?_of_block hBN]; exact h.fr j
 · exact (h.o.p.mono (hP 1)).keep (hkk 1 (by decide) (by decide))
 · exact (h.o.s.mono (hP 2)).keep (hkk 2 (by decide) (by decide))
 · exact (h.o.t.push b1 hu hne hv g hv' (hP 3) hP').keep hnew
 · exact (h.o.h.mono (hP 4)).keep (hkk 4 (by decide) (by decide))
end
end Go.Proofs.YtihilndfhlfdfaaGreatDoor
