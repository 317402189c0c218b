/- Marks of a system that came in: how many at most. -/
import Derived.Test.YtcplnkhdclcgfaaGreatDoorGc0
import Derived.Test.YtcplnkhdclcgfaaGreatDoorGc32
import Derived.Test.YtcplnkhdclcgfaaGreatDoorGc27
import Derived.Lib.QuietBelow
import Derived.Test.YtcplnkhdclcgfaaGreatDoorGc35
import Derived.Test.YtcplnkhdclcgfaaGreatDoorGc34
import Derived.Laws.CopyRow
import Derived.Deep.Cut
import Derived.Test.YtcplnkhdclcgfaaGreatDoorGc33
namespace Go.Proofs.YtcplnkhdclcgfaaGreatDoor
set_option maxRecDepth 100000
set_option maxHeartbeats 4000000
open Go.ChangeShapes Go.WideShapes Go.ChangeAt Go.RowKit Go.Deep Go.Sort
theorem list_of_zi {xs ys : List Int} (hl : xs.length = ys.length) (h : ∀ j, j < xs.length → zi xs j = zi ys j) : xs = ys := by
 refine List.ext_getElem hl fun i h1 h2 => ?_
 have := h i h1
 simpa [zi, List.getD_eq_getElem?_getD, List.getElem?_eq_getElem h1, List.getElem?_eq_getElem h2] using this
theorem equal_any (a0 a1 : Option Addr) (c0 c1 : Nat) (xs ys : List Int) (w : World) (hx : xs.length ≤ 1048576) (hy : ys.length ≤ 1048576) (h0 : Sl w a0 xs) (h1 : Sl w a1 ys) :
  Calls Tryz.prog 126 #[.slice a0 xs.length c0, .slice a1 ys.length c1] w fun e w' => e = .returned (.bool (xs == ys)) ∧ Below w.heap.size w w' := by
 have hl' : (xs.length : Int) ≤ 1048576 := by omega
 have hl2 : (ys.length : Int) ≤ 1048576 := by omega
 by_cases hl : xs.length = ys.length
 ·have H0 : Hid (Sl w a0 xs) := h0
  have H1 : Hid (Sl w a1 ys) := h1
  have HL : Hid (xs.length = ys.length) := hl
  rw [← hl]
  clear h0 h1 hl hy hl2
  go_enter Tryz.func126, Tryz.ntmps126
  go_wp2_with fail
  go_loopw [13] (fun i wr => ∃ k : Nat, k ≤ xs.length ∧ i = .int .i64 k ∧ Below w.heap.size w wr ∧ Hid (∀ j, j < k → zi xs j = zi ys j)) (fun i _ => xs.length - (intOf i).toNat)
  case atStart => exact ⟨0, Nat.zero_le _, rfl, Below.refl _ _, fun j hj => by omega⟩
  case round =>
   obtain ⟨k, hk, rfl, hbw, HZ⟩ := hrel
   by_cases hlt : k < xs.length
   ·have hlt2 : k < ys.length := by have := HL.out; omega
    obtain ⟨b, off, rfl, hbl, ck⟩ := (H0.out.below hbw).at hlt
    obtain ⟨b', off', rfl, hbl', ck'⟩ := (H1.out.below hbw).at hlt2
    have hlt' : (k : Int) < (xs.length : Int) := by omega
    clear hlt2
    rcases Bool.eq_false_or_eq_true (zi xs k != zi ys k) with t | t
    ·have HN : Hid ((xs == ys) = false) := by
      show (xs == ys) = false
      rw [beq_eq_false_iff_ne]
      intro e
      rw [e] at t
      simp at t
     go_wp2_with fail
     go_quiet (fail)
     go_wp2
     go_ret
     rw [HN.out]
     exact ⟨rfl, below_drewN hbw _⟩
    ·have HZ' : Hid (∀ j, j < k + 1 → zi xs j = zi ys j) := fun j hj => by
      by_cases e : j = k
      ·subst e
       simpa using t
      ·exact HZ.out j (by omega)
     clear HZ
     go_wp2_with fail
     go_quiet (fail)
     go_wp2
     go_roundw
     case rel => exact ⟨k + 1, by omega, by go_num, below_drewN hbw _, HZ'.out⟩
     case measure => simp [intOf]; omega
   ·have HE : Hid ((xs == ys) = true) := by
     show (xs == ys) = true
     rw [beq_iff_eq]
     exact list_of_zi HL.out fun j hj => HZ.out j (by omega)
    clear HZ
    go_wp2
    go_ret
    rw [HE.out]
    exact ⟨rfl, hbw⟩
 ·have hne : ((xs.length : Int) != (ys.length : Int)) = true := by simp; omega
  have HN : Hid ((xs == ys) = false) := by
   show (xs == ys) = false
   rw [beq_eq_false_iff_ne]
   intro e
   exact hl (by rw [e])
  clear h0 h1 hl
  go_enter Tryz.func126, Tryz.ntmps126
  go_wp2
  go_ret
  rw [HN.out]
  exact ⟨rfl, Below.refl _ _⟩
def eqS (S T : S4) : Bool := (S.p == T.p) && (S.c == T.c) && (S.rs == T.rs) && (S.os == T.os)
theorem eqS_iff {S T : S4} : eqS S T = true ↔ S = T := by
 obtain ⟨a, b, c, d⟩ := S
 obtain ⟨a', b', c', d'⟩ := T
 simp only [eqS, Bool.and_eq_true, beq_iff_eq, S4.mk.injEq]
 exact ⟨fun ⟨⟨⟨h1, h2⟩, h3⟩, h4⟩ => ⟨h1, h3, h4, h2⟩, fun ⟨h1, h3, h4, h2⟩ => ⟨⟨⟨h1, h2⟩, h3⟩, h4⟩⟩
theorem implSameState_any (S T : S4) (ra oa ra' oa' : Option Addr) (rc oc rc' oc' : Nat) (w : World) (l1 : S.rs.length ≤ 1048576) (l2 : S.os.length ≤ 1048576) (l3 : T.rs.length ≤ 1048576) (l4 : T.os.length ≤ 1048576) (h1 : Sl w ra S.rs) (h2 : Sl w oa S.os) (h3 : Sl w ra' T.rs) (h4 : Sl w oa' T.os) :
  Calls Tryz.prog 124 #[stV S.p ra S.rs.length rc oa S.os.length oc S.c, stV T.p ra' T.rs.length rc' oa' T.os.length oc' T.c] w fun e w' => e = .returned (.bool (eqS S T)) ∧ Below w.heap.size w w' := by
 have H1 : Hid (Sl w ra S.rs ∧ Sl w ra' T.rs) := ⟨h1, h3⟩
 have H2 : Hid (Sl w oa S.os ∧ Sl w oa' T.os) := ⟨h2, h4⟩
 clear h1 h2 h3 h4
 rcases Bool.eq_false_or_eq_true (S.p == T.p) with t1 | t1
 case inr =>
  have HE : Hid (eqS S T = false) := by
   show eqS S T = false
   simp [eqS, t1]
  go_enter Tryz.func124, Tryz.ntmps124
  go_wp2
  go_ret
  rw [HE.out]
  exact ⟨rfl, by go_grown⟩
 rcases Bool.eq_false_or_eq_true (S.c == T.c) with t2 | t2
 case inr =>
  have HE : Hid (eqS S T = false) := by
   show eqS S T = false
   simp [eqS, t2]
  go_enter Tryz.func124, Tryz.ntmps124
  go_wp2
  go_ret
  rw [HE.out]
  exact ⟨rfl, by go_grown⟩
 rcases Bool.eq_false_or_eq_true (S.rs == T.rs) with t3 | t3
 case inr =>
  have HE : Hid (eqS S T = false) := by
   show eqS S T = false
   simp [eqS, t3]
  have T3 : Hid ((S.rs == T.rs) = false) := t3
  clear t3
  go_enter Tryz.func124, Tryz.ntmps124
  go_wp2_with fail
  refine (equal_any _ _ _ _ _ _ _ l1 l3 (H1.out.1.below (by go_grown)) (H1.out.2.below (by go_grown))).mono ?_
  rintro e w1 ⟨rfl, b1⟩
  rw [T3.out]
  have B1 : Hid (Below w.heap.size w w1) := below_up (by go_grown) b1 (by simp; omega)
  clear b1
  go_wp2
  go_ret
  rw [HE.out]
  exact ⟨rfl, B1.out⟩
 have HE : Hid (eqS S T = (S.os == T.os)) := by
  show eqS S T = (S.os == T.os)
  simp [eqS, t1, t2, t3]
 have T3 : Hid ((S.rs == T.rs) = true) := t3
 clear t3
 go_enter Tryz.func124, Tryz.ntmps124
 go_wp2_with fail
 refine (equal_any _ _ _ _ _ _ _ l1 l3 (H1.out.1.below (by go_grown)) (H1.out.2.below (by go_grown))).mono ?_
 rintro e w1 ⟨rfl, b1⟩
 rw [T3.out]
 have B1 : Hid (Below w.heap.size w w1) := below_up (by go_grown) b1 (by simp; omega)
 obtain ⟨hc1, hf1⟩ := bcell b1
 clear b1
 go_wp2_with fail
 refine (equal_any _ _ _ _ _ _ _ l2 l4 (H2.out.1.below B1.out) (H2.out.2.below B1.out)).mono ?_
 rintro e w2 ⟨rfl, b2⟩
 have B2 : Hid (Below w.heap.size w w2) := B1.out.trans (b2.mono B1.out.size)
 clear b2 hc1 hf1
 go_wp2
 go_ret
 rw [HE.out]
 exact ⟨rfl, B2.out⟩
theorem itemOk_any (m : Bool) (v : Int) (w : World) :
  Calls Tryz.prog 199 #[itV m v] w fun e w' => e = .returned (.bool (itemB ⟨m, v⟩)) ∧ Below w.heap.size w w' := by
 rcases Bool.eq_false_or_eq_true m with rfl | rfl
 ·have HE : Hid (itemB ⟨true, v⟩ = (v == 0)) := by
   show itemB ⟨true, v⟩ = (v == 0)
   simp only [itemB, Bool.not_true, Bool.false_or]
   by_cases e : v = 0
   ·subst e
    rfl
   ·have : (v == 0) = false := by simpa using e
    rw [this, Bool.and_false]
  go_enter Tryz.func199, Tryz.ntmps199
  go_wp2
  go_ret
  rw [HE.out]
  exact ⟨rfl, by go_grown⟩
 ·have HE : Hid (itemB ⟨false, v⟩ = inB v (-1000000000) 1000000000) := by
   show itemB ⟨false, v⟩ = inB v (-1000000000) 1000000000
   simp [itemB, numB]
  go_enter Tryz.func199, Tryz.ntmps199
  go_wp2_with fail
  refine (isNum_any _ _).mono ?_
  rintro e w1 ⟨rfl, rfl⟩
  go_wp2
  go_ret
  rw [HE.out]
  exact ⟨rfl, by go_grown⟩
def itemsB (h : Nat → I2) (n : Nat) : Bool := (List.range n).all fun i => itemB (h i)
theorem itemsB_iff {h : Nat → I2} {n : Nat} : itemsB h n = true ↔ ∀ i, i < n → itemB (h i) = true := by
 simp [itemsB]
theorem itemsB_no {h : Nat → I2} {n k : Nat} (hk : k < n) (hf : itemB (h k) = false) : itemsB h n = false := by
 rcases Bool.eq_false_or_eq_true (itemsB h n) with t | t
 ·have := itemsB_iff.1 t k hk
  rw [hf] at this
  cases this
 ·exact t
theorem wayOk_any (a : Option Addr) (len cap : Nat) (h : Nat → I2) (w : World) (hlen : len ≤ 1048576) (hc : ItL w a len h) :
  Calls Tryz.prog 125 #[.slice a len cap] w fun e w' => e = .returned (.bool (decide (len ≤ 12) && itemsB h len)) ∧ Below w.heap.size w w' := by
 have hl' : (len : Int) ≤ 1048576 := by omega
 have HC : Hid (ItL w a len h) := hc
 clear hc
 by_cases h12 : len ≤ 12
 case neg =>
  have h12' : (12 : Int) < (len : Int) := by omega
  have HE : Hid ((decide (len ≤ 12) && itemsB h len) = false) := by
   show (decide (len ≤ 12) && itemsB h len) = false
   simp [h12]
  go_enter Tryz.func125, Tryz.ntmps125
  go_wp2
  go_ret
  rw [HE.out]
  exact ⟨rfl, Below.refl _ _⟩
 have h12' : ¬ (12 : Int) < (len : Int) := by omega
 have HE : Hid ((decide (len ≤ 12) && itemsB h len) = itemsB h len) := by
  show (decide (len ≤ 12) && itemsB h len) = itemsB h len
  simp [h12]
 clear h12
 go_enter Tryz.func125, Tryz.ntmps125
 go_wp2_with fail
 go_loopw [10] (fun i wr => ∃ k : Nat, k ≤ len ∧ i = .int .i64 k ∧ Below w.heap.size w wr ∧ Hid (∀ j, j < k → itemB (h j) = true)) (fun i _ => len - (intOf i).toNat)
 case atStart => exact ⟨0, Nat.zero_le _, rfl, Below.refl _ _, fun j hj => by omega⟩
 case round =>
  obtain ⟨k, hk, rfl, hbw, HZ⟩ := hrel
  by_cases hlt : k < len
  ·have hlt' : (k : Int) < (len : Int) := by omega
   obtain ⟨b, off, rfl, -, c0, c1⟩ := (HC.out.below hbw).at hlt
   go_wp2_with fail
   refine (itemOk_any _ _ _).mono ?_
   rintro e w1 ⟨rfl, b1⟩
   have B1 : Hid (Below w.heap.size w w1) := hbw.trans (((below_alloc wr _).trans (b1.mono (by simp))).mono hbw.size)
   clear b1
   rcases Bool.eq_false_or_eq_true (itemB (h k)) with t | t
   ·have HZ' : Hid (∀ j, j < k + 1 → itemB (h j) = true) := fun j hj => by
     by_cases e : j = k
     ·subst e
      exact t
     ·exact HZ.out j (by omega)
    rw [show itemB { m := (h k).m, v := (h k).v } = true from t]
    clear HZ t
    go_wp2
    go_roundw
    case rel => exact ⟨k + 1, by omega, by go_num, B1.out, HZ'.out⟩
    case measure => simp [intOf]; omega
   ·have HN : Hid (itemsB h len = false) := itemsB_no hlt t
    rw [show itemB { m := (h k).m, v := (h k).v } = false from t]
    clear HZ t
    go_wp2
    go_ret
    rw [HE.out, HN.out]
    exact ⟨rfl, B1.out⟩
  ·have HN : Hid (itemsB h len = true) := itemsB_iff.2 fun j hj => HZ.out j (by omega)
   clear HZ
   go_wp2
   go_ret
   rw [HE.out, HN.out]
   exact ⟨rfl, hbw⟩
open Go.RowKit Go.Extern.Stop Go.Stop Go.Extern
theorem as_hit (x : Int) (t : Addr) (old : Value) (w : World) (hg : w.cell? ⟨0, 0, none⟩ = some (.iface 272 (.agg #[.pointer (some ⟨1, 172, none⟩)]))) (ht0 : w.cell? t = some old) (hf0 : w.frozen? t = false) :
  Calls Tryz.prog 150 #[.iface 176 (.agg #[.int .i64 x]), .iface 178 (.pointer (some t))] w fun ev w' => ev = .returned (.bool true) ∧ ∃ o1 o2 o3 o4, w' = ((((w.alloc o1).alloc o2).alloc o3).alloc o4).setCell t (.int .i64 x) := by
 have h6 := @run_callFunc_extern Tryz.prog 209 _ (fun args => ReflectliteValue.unpack (args.getD 0 (.tuple #[]))) Tryz.func209 (by kernel_rfl) (by kernel_rfl) (by kernel_rfl) (by kernel_rfl)
 have h7 := @run_callFunc_extern Tryz.prog 210 _ (ReflectliteValue.methodAny (ReflectliteValue.valueError "reflectlite.Value.Type" 0) (fun t _ _ _ => ReflectliteType.toType t)) Tryz.func210 (by kernel_rfl) (by kernel_rfl) (by kernel_rfl) (by kernel_rfl)
 have h8 := @run_callFunc_extern Tryz.prog 211 _ (ReflectliteValue.method (ReflectliteValue.valueError "reflectlite.Value.IsNil" 0) ReflectliteValue.isNil) Tryz.func211 (by kernel_rfl) (by kernel_rfl) (by kernel_rfl) (by kernel_rfl)
 have h27 := @run_callFunc_extern Tryz.prog 262 _ (ReflectliteType.abiMethod fun t => do pure (.int .u8 (← Rtype.kind t))) Tryz.func262 (by kernel_rfl) (by kernel_rfl) (by kernel_rfl) (by kernel_rfl)
 have h37 := @run_callFunc_extern Tryz.prog 282 _ (ReflectliteType.method ReflectliteType.elem) Tryz.func282 (by kernel_rfl) (by kernel_rfl) (by kernel_rfl) (by kernel_rfl)
 have h38 := @run_callFunc_extern Tryz.prog 283 _ (ReflectliteType.relation "Implements" ReflectliteType.implements_) Tryz.func283 (by kernel_rfl) (by kernel_rfl) (by kernel_rfl) (by kernel_rfl)
 have h10 := @run_callFunc_extern Tryz.prog 241 _ ReflectliteType.typeOf Tryz.func241 (by kernel_rfl) (by kernel_rfl) (by kernel_rfl) (by kernel_rfl)
 have h35 := @run_callFunc_extern Tryz.prog 280 _ (ReflectliteType.relation "AssignableTo" ReflectliteType.assignableTo) Tryz.func280 (by kernel_rfl) (by kernel_rfl) (by kernel_rfl) (by kernel_rfl)
 have h11 := @run_callFunc_extern Tryz.prog 242 _ (ReflectliteValue.method (ReflectliteValue.valueError "reflectlite.Value.Elem" 0) ReflectliteValue.elem) Tryz.func242 (by kernel_rfl) (by kernel_rfl) (by kernel_rfl) (by kernel_rfl)
 have h12 := @run_callFunc_extern Tryz.prog 243 _ ReflectliteValue.set Tryz.func243 (by kernel_rfl) (by kernel_rfl) (by kernel_rfl) (by kernel_rfl)
 have tO := typeOfE
 have a25 := assignableE
 have v25 := valueOfE
 have f6 := valueOfT
 have f7 := typeT
 have k27 := kindT
 have k25 := kindE
 have e27 := elemT
 have i25 := implementsE
 have n8 := isNilT ⟨w.heap.size, 0, none⟩ t ((w.alloc (.cells #[.pointer (some t)] 178)).alloc (.cells #[.pointer (some ⟨1, 178, none⟩), .pointer (some ⟨w.heap.size, 0, none⟩), .int .u64 150] 232)) (by simp)
 have hlt : 0 < w.heap.size := by
  rcases Nat.eq_zero_or_pos w.heap.size with h0 | h
  ·simp [World.cell?, h0] at hg
  ·exact h
 have hg2 : ((w.alloc (.cells #[.pointer (some t)] 178)).alloc (.cells #[.pointer (some ⟨1, 178, none⟩), .pointer (some ⟨w.heap.size, 0, none⟩), .int .u64 150] 232)).cell? ⟨0, 0, none⟩ = some (.iface 272 (.agg #[.pointer (some ⟨1, 172, none⟩)])) := by
  rw [World.cell?_alloc_lt _ _ ⟨0, 0, none⟩ (by simp), World.cell?_alloc_lt _ _ ⟨0, 0, none⟩ hlt]; exact hg
 have htl : t.block < w.heap.size := by
  rcases Nat.lt_or_ge t.block w.heap.size with h | h
  ·exact h
  ·simp [World.cell?, Array.getElem?_eq_none h] at ht0
 have el := elemVT ⟨w.heap.size, 0, none⟩ t (((w.alloc (.cells #[.pointer (some t)] 178)).alloc (.cells #[.pointer (some ⟨1, 178, none⟩), .pointer (some ⟨w.heap.size, 0, none⟩), .int .u64 150] 232)).alloc (.cells #[.pointer (some ⟨1, 178, none⟩), .pointer (some ⟨w.heap.size, 0, none⟩), .int .u64 150] 232)) (by
  rw [World.cell?_alloc_lt _ _ _ (by simp; omega), World.cell?_alloc_lt _ _ _ (by simp), World.cell?_alloc_at _ _ _ _ rfl]; rfl)
 have st := setE t ⟨w.heap.size + 1 + 1 + 1, 0, none⟩ x old ((((w.alloc (.cells #[.pointer (some t)] 178)).alloc (.cells #[.pointer (some ⟨1, 178, none⟩), .pointer (some ⟨w.heap.size, 0, none⟩), .int .u64 150] 232)).alloc (.cells #[.pointer (some ⟨1, 178, none⟩), .pointer (some ⟨w.heap.size, 0, none⟩), .int .u64 150] 232)).alloc (.cells #[.int .i64 x] 176))
  (by rw [World.cell?_alloc_at _ _ _ _ (by simp)]; rfl)
  (by rw [World.cell?_alloc_lt _ _ t (by simp; omega), World.cell?_alloc_lt _ _ t (by simp; omega), World.cell?_alloc_lt _ _ t (by simp; omega), World.cell?_alloc_lt _ _ t htl]; exact ht0)
  (by rw [World.frozen?_alloc_old _ _ t (by simp; omega), World.frozen?_alloc_old _ _ t (by simp; omega), World.frozen?_alloc_old _ _ t (by simp; omega), World.frozen?_alloc_old _ _ t (Nat.ne_of_lt htl)]; exact hf0)
 go_enter Tryz.func150, Tryz.ntmps150
 go_wp2
 refine wp_loop_rounds 1 ?_
 rw [rounds_succ]
 go_wp2
 go_ret
 exact ⟨rfl, _, _, _, _, rfl⟩
theorem Sy.Ok.hl200 {y : Sy} (h : y.Ok) {p : Nat} (hp : p < y.pn) : y.hL p ≤ 200 := (repO_some (h.rp p hp)).2.1
structure Sy.Done (y : Sy) (p : Nat) (f : Int) : Prop where
 run : (y.sS p).c = 0
 room : y.hL p < 200
 peer : 0 ≤ y.eq p f ∧ y.eq p f < (y.pn : Int)
 send : y.nk p = 2 → y.wL (p * y.pn + (y.eq p f).toNat) < 12 ∧ numB (y.ev p f) = true
 take : y.nk p = 3 → 0 < y.wL ((y.eq p f).toNat * y.pn + p) ∧ (y.wH ((y.eq p f).toNat * y.pn + p) 0).m = false ∧ (y.wH ((y.eq p f).toNat * y.pn + p) 0).v = y.ev p f ∧ numB (y.ev p f) = true
 can : doB (y.pH p) (y.pL p) (y.sS p).p (y.sS p).rs (y.sS p).os (y.sS p).c (y.nk p) (y.eq p f) (y.ev p f) = true
structure AtP (z : Bool) (B N : Nat) (c : Nat → Nat) (y : Sy) (wx : World) (vp vs vw vh : Value) (up us uw uh : Nat → Value) : Prop where
 bx : BoxC wx N vp vs vw vh
 fr : ∀ j, wx.frozen? ⟨N, j, none⟩ = false
 cN : c N = 0
 bN : B ≤ N
 o : OwnS z wx B c y vp vs vw vh up us uw uh
section
variable {z : Bool} {B N : Nat} {c : Nat → Nat} {y : Sy} {wr : World} {vp vs vw vh : Value} {up us uw uh : Nat → Value}
theorem AtP.lt (h : AtP z B N c y wr vp vs vw vh up us uw uh) : N < wr.heap.size := World.block_lt_of_cell? wr _ h.bx.1
theorem AtP.below (h : AtP z B N c y wr vp vs vw vh up us uw uh) {w' : World} (hb : Below wr.heap.size wr w') : AtP z B N c y w' vp vs vw vh up us uw uh :=
 ⟨h.bx.below hb, fun j => by rw [World.frozen?_of_block (hb.block N h.lt)]; exact h.fr j, h.cN, h.bN, h.o.below hb⟩
theorem AtP.state (h : AtP z B N c y wr vp vs vw vh up us uw uh) {w1 w3 : World} {u' v' : Value} (b1 : Below wr.heap.size wr w1) (hu : StOwn w1 wr.heap.size u' (y.sS y.sn).p (y.sS y.sn).rs (y.sS y.sn).os (y.sS y.sn).c) (hv : w3.ownsRow 0 39 4 v' (y.sn + 1) (flat (fun i => cellsL (us i)) y.sn ++ cellsL u')) (g : w1.grownBy w3 vs.ownBlock) (hv' : ∀ j, v'.ownBlock = some j → vs.ownBlock = some j ∨ w1.heap.size ≤ j) :
  AtP z B N (rcol c wr.heap.size 2) { y with sn := y.sn + 1 } (w3.setCell ⟨N, 1, none⟩ v') vp v' vw vh up (fun j => if j = y.sn then u' else us j) uw uh := by
 have hN := h.lt
 have hkeep : ∀ k, k < wr.heap.size → c k ≠ 2 → w3.heap[k]? = wr.heap[k]? := fun k hk hc => (g.block k (Nat.lt_of_lt_of_le hk b1.size) fun e => hc (h.o.s.rb k e.symm).2).trans (b1.block k hk)
 have hset : ∀ k, k ≠ N → (w3.setCell ⟨N, 1, none⟩ v').heap[k]? = w3.heap[k]? := fun k hk => Below.heap_setCell _ _ _ _ hk
 have hcN : rcol c wr.heap.size 2 N = 0 := (rcol_old hN).trans h.cN
 have hBN : w3.heap[N]? = wr.heap[N]? := hkeep N hN (by rw [h.cN]; decide)
 have hkk : ∀ i, i ≠ 2 → i ≠ 0 → ∀ k, Cl B (rcol c wr.heap.size 2) i k → k < wr.heap.size → (w3.setCell ⟨N, 1, none⟩ v').heap[k]? = wr.heap[k]? := fun i h2 h0 k hk hl => by
  have e : c k = i := (rcol_old hl).symm.trans hk.2
  exact (hset k fun en => h0 (by rw [← e, en, h.cN])).trans (hkeep k hl (by rw [e]; exact h2))
 have hP : ∀ i k, Cl B c i k → k < wr.heap.size → Cl B (rcol c wr.heap.size 2) i k := fun i k hk hl => hk.old hl
 have hP' : ∀ k, wr.heap.size ≤ k → k < w3.heap.size → Cl B (rcol c wr.heap.size 2) 2 k := fun k hk _ => ⟨Nat.le_trans h.bN (Nat.le_trans (Nat.le_of_lt hN) hk), rcol_new hk⟩
 obtain ⟨x0, x1, x2, x3⟩ := h.bx
 have hc : ∀ j, w3.cell? ⟨N, j, none⟩ = wr.cell? ⟨N, j, none⟩ := fun j => World.cell?_of_block hBN
 have hnew : ∀ k, Cl B (rcol c wr.heap.size 2) 2 k → k < w3.heap.size → (w3.setCell ⟨N, 1, none⟩ v').heap[k]? = w3.heap[k]? := fun k hk _ => hset k fun e => by
  have e2 := hk.2
  rw [e, hcN] at e2
  cases e2
 refine ⟨⟨?_, ?_, ?_, ?_⟩, fun j => ?_, hcN, h.bN, ⟨?_, ?_, ?_, ?_⟩⟩
 ·rw [World.cell?_setCell_other _ _ _ _ (by simp), hc]; exact x0
 ·exact World.cell?_setCell_same _ _ _ ((hc 1).trans x1)
 ·rw [World.cell?_setCell_other _ _ _ _ (by simp), hc]; exact x2
 ·rw [World.cell?_setCell_other _ _ _ _ (by simp), hc]; exact x3
 ·rw [World.frozen?_setCell, World.frozen?_of_block hBN]; exact h.fr j
 ·exact (h.o.p.mono (hP 1)).keep (hkk 1 (by decide) (by decide))
 ·exact (h.o.s.push b1 hu hv g hv' (hP 2) hP').keep hnew
 ·exact (h.o.t.mono (hP 3)).keep (hkk 3 (by decide) (by decide))
 ·exact (h.o.h.mono (hP 4)).keep (hkk 4 (by decide) (by decide))
theorem AtP.hist (h : AtP z B N c y wr vp vs vw vh up us uw uh) {w1 w3 : World} {u' v' : Value} (b1 : Below wr.heap.size wr w1) (hu : w1.ownsRow wr.heap.size 71 3 u' (y.hL y.hn) (fE (y.hH y.hn) (y.hL y.hn))) (hne : u' ≠ .slice none 0 0) (hv : w3.ownsRow 0 35 1 v' (y.hn + 1) ((List.range y.hn).map uh ++ [u'])) (g : w1.grownBy w3 vh.ownBlock) (hv' : ∀ j, v'.ownBlock = some j → vh.ownBlock = some j ∨ w1.heap.size ≤ j) :
  AtP z B N (rcol c wr.heap.size 4) { y with hn := y.hn + 1 } (w3.setCell ⟨N, 3, none⟩ v') vp vs vw v' up us uw (fun j => if j = y.hn then u' else uh j) := by
 have hN := h.lt
 have hkeep : ∀ k, k < wr.heap.size → c k ≠ 4 → w3.heap[k]? = wr.heap[k]? := fun k hk hc => (g.block k (Nat.lt_of_lt_of_le hk b1.size) fun e => hc (h.o.h.rb k e.symm).2).trans (b1.block k hk)
 have hset : ∀ k, k ≠ N → (w3.setCell ⟨N, 3, none⟩ v').heap[k]? = w3.heap[k]? := fun k hk => Below.heap_setCell _ _ _ _ hk
 have hcN : rcol c wr.heap.size 4 N = 0 := (rcol_old hN).trans h.cN
 have hBN : w3.heap[N]? = wr.heap[N]? := hkeep N hN (by rw [h.cN]; decide)
 have hkk : ∀ i, i ≠ 4 → i ≠ 0 → ∀ k, Cl B (rcol c wr.heap.size 4) i k → k < wr.heap.size → (w3.setCell ⟨N, 3, none⟩ v').heap[k]? = wr.heap[k]? := fun i h2 h0 k hk hl => by
  have e : c k = i := (rcol_old hl).symm.trans hk.2
  exact (hset k fun en => h0 (by rw [← e, en, h.cN])).trans (hkeep k hl (by rw [e]; exact h2))
 have hP : ∀ i k, Cl B c i k → k < wr.heap.size → Cl B (rcol c wr.heap.size 4) i k := fun i k hk hl => hk.old hl
 have hP' : ∀ k, wr.heap.size ≤ k → k < w3.heap.size → Cl B (rcol c wr.heap.size 4) 4 k := fun k hk _ => ⟨Nat.le_trans h.bN (Nat.le_trans (Nat.le_of_lt hN) hk), rcol_new hk⟩
 obtain ⟨x0, x1, x2, x3⟩ := h.bx
 have hc : ∀ j, w3.cell? ⟨N, j, none⟩ = wr.cell? ⟨N, j, none⟩ := fun j => World.cell?_of_block hBN
 have hnew : ∀ k, Cl B (rcol c wr.heap.size 4) 4 k → k < w3.heap.size → (w3.setCell ⟨N, 3, none⟩ v').heap[k]? = w3.heap[k]? := fun k hk _ => hset k fun e => by
  have e2 := hk.2
  rw [e, hcN] at e2
  cases e2
 refine ⟨⟨?_, ?_, ?_, ?_⟩, fun j => ?_, hcN, h.bN, ⟨?_, ?_, ?_, ?_⟩⟩
 ·rw [World.cell?_setCell_other _ _ _ _ (by simp), hc]; exact x0
 ·rw [World.cell?_setCell_other _ _ _ _ (by simp), hc]; exact x1
 ·rw [World.cell?_setCell_other _ _ _ _ (by simp), hc]; exact x2
 ·exact World.cell?_setCell_same _ _ _ ((hc 3).trans x3)
 ·rw [World.frozen?_setCell, World.frozen?_of_block hBN]; exact h.fr j
 ·exact (h.o.p.mono (hP 1)).keep (hkk 1 (by decide) (by decide))
 ·exact (h.o.s.mono (hP 2)).keep (hkk 2 (by decide) (by decide))
 ·exact (h.o.t.mono (hP 3)).keep (hkk 3 (by decide) (by decide))
 ·exact (h.o.h.push b1 hu (fun _ => hne) hv g hv' (hP 4) hP').keep hnew
end
theorem AtP.box {z : Bool} {B N : Nat} {c : Nat → Nat} {y : Sy} {wr w1 w3 : World} {vp vs vw vh : Value} {up us uw uh : Nat → Value} (h : AtP z B N c y wr vp vs vw vh up us uw uh) (b1 : Below wr.heap.size wr w1) {ob : Option Nat} (g : w1.grownBy w3 ob) (hob : ∀ k, ob = some k → c k ≠ 0) : BoxC w3 N vp vs vw vh ∧ ∀ j, w3.frozen? ⟨N, j, none⟩ = false := by
 have hN := h.lt
 have e : w3.heap[N]? = wr.heap[N]? := (g.block N (Nat.lt_of_lt_of_le hN b1.size) fun e => hob N e.symm h.cN).trans (b1.block N hN)
 obtain ⟨x0, x1, x2, x3⟩ := h.bx
 exact ⟨⟨(World.cell?_of_block e).trans x0, (World.cell?_of_block e).trans x1, (World.cell?_of_block e).trans x2, (World.cell?_of_block e).trans x3⟩, fun j => (World.frozen?_of_block e).trans (h.fr j)⟩
theorem AtP.gS {z : Bool} {B N : Nat} {c : Nat → Nat} {y : Sy} {wr : World} {vp vs vw vh : Value} {up us uw uh : Nat → Value} (h : AtP z B N c y wr vp vs vw vh up us uw uh) : ∀ k, vs.ownBlock = some k → B ≤ k ∧ c k ≠ 0 := fun k hk => ⟨(h.o.s.rb k hk).1, by rw [(h.o.s.rb k hk).2]; decide⟩
theorem AtP.gH {z : Bool} {B N : Nat} {c : Nat → Nat} {y : Sy} {wr : World} {vp vs vw vh : Value} {up us uw uh : Nat → Value} (h : AtP z B N c y wr vp vs vw vh up us uw uh) : ∀ k, vh.ownBlock = some k → B ≤ k ∧ c k ≠ 0 := fun k hk => ⟨(h.o.h.rb k hk).1, by rw [(h.o.h.rb k hk).2]; decide⟩
theorem run_copy_src {t e : TypeId} {size bytes : Nat} (K : Kind t e size bytes) (w : World) (ty : TypeId) (a0 : Option Addr) (m c : Nat) (news : List Value) (hl : news.length = m * size) (hsrc : Src w a0 news) (h1 : ∀ u ∈ news, u.oneCell' = true) (cs : Array Value) (hz : cs.size = m * size) :
  (Builtin.copy_ #[t, t] ty #[.slice (some ⟨w.heap.size, 0, none⟩) m m, .slice a0 m c]).run Tryz.prog (w.alloc (.cells cs e)) = .ok (goInt m) (w.alloc (.cells news.toArray e)) := by
 obtain ⟨i, z, hi, -, hs, -, -⟩ := K.inf
 have hg : (w.alloc (.cells cs e)).heap[w.heap.size]? = some (.cells cs e (0, 0)) := heap_alloc_new w _
 have hst := run_storeCells_at Tryz.prog w.heap.size 0 e news 0 cs (w.alloc (.cells cs e)) hg (by rw [hl, hz]; omega) h1
 have hmin : Nat.min m m = m := Nat.min_self m
 cases a0 with
 | none =>
  have hn0 : news = [] := by
   rcases hsrc with h | ⟨b, off, e, _⟩
   ·exact h
   ·cases e
  subst hn0
  have hm : m = 0 := by
   simp only [List.length_nil] at hl
   rcases Nat.eq_zero_or_pos m with h | h
   ·exact h
   ·have := Nat.mul_pos h K.pos
    omega
  subst hm
  have hc : cs = #[] := by
   have : cs.size = 0 := by omega
   exact Array.eq_empty_of_size_eq_zero this
  subst hc
  simp [Builtin.copy_, run_underlying K.und, Builtin.lenOf, Builtin.firstCells, sizeOf, typeInfo, hi, storeCells]
 | some a =>
  have hnews : ∀ j u, news[j]? = some u → (w.alloc (.cells cs e)).cell? (a.add j) = some u := by
   rcases hsrc with h0 | ⟨b, off, e, hlt, hc⟩
   ·subst h0
    intro j u hj
    simp at hj
   ·cases e
    intro j u hj
    have ha : Addr.add ⟨b, off, none⟩ j = ⟨b, off + j, none⟩ := by unfold Addr.add; split <;> simp_all
    rw [ha]
    exact ((below_allocL w _).cell (p := ⟨b, off + j, none⟩) hlt).trans (hc j u hj)
  have hld := run_loadCells_list (P := Tryz.prog) (w.alloc (.cells cs e)) a news hnews
  rw [hl] at hld
  simp only [List.take_zero, List.nil_append, Nat.zero_add] at hst
  rw [List.drop_of_length_le (by simp [hl, hz]), List.append_nil, setRow_alloc] at hst
  simp [Builtin.copy_, run_underlying K.und, Builtin.lenOf, Builtin.firstCells, sizeOf, typeInfo, hi, hs, hld, hst]
theorem run_make_full {t e : TypeId} {size bytes : Nat} (K : Kind t e size bytes) (n : Nat) (hn : n ≤ 1048576) : ∃ cs : Array Value, cs.size = n * size ∧ ∀ w : World, (Instr.makeSlice t (.int .i64 (n : Int)) (.int .i64 (n : Int))).run Tryz.prog w = .ok (.slice (some ⟨w.heap.size, 0, none⟩) n n) (w.alloc (.cells cs e)) := by
 obtain ⟨i, z, hi, hz, hs, hb, hzs⟩ := K.inf
 refine ⟨madeCells z.cells (n * size), size_madeCells _ _, fun w => ?_⟩
 have hby : i.bytes * n ≤ 281474976710656 := by
  rw [hb]
  exact Nat.le_trans (Nat.mul_le_mul K.sml hn) (by omega)
 have hby' : (i.bytes : Int) * (n : Int) ≤ 281474976710656 := by rw [← Int.natCast_mul]; exact Int.ofNat_le.2 hby
 have h := run_make (P := Tryz.prog) w t e i z K.und hi hz .i64 .i64 (n : Int) (n : Int) (by omega) (by omega) hby' (by omega)
 rw [hs, Int.toNat_natCast] at h
 exact h
theorem copyOfEvent_any (ea : Option Addr) (n cap : Nat) (H : Nat → E3) (w : World) (hn : n ≤ 1048576) (hS : Src w ea (fE H n)) :
  Calls Tryz.prog 70 #[.slice ea n cap] w fun e w' => ∃ a1 c1, e = .returned (.slice a1 n c1) ∧ w'.ownsRow w.heap.size 71 3 (.slice a1 n c1) n (fE H n) ∧ Value.slice a1 n c1 ≠ .slice none 0 0 ∧ Below w.heap.size w w' := by
 have hn' : (n : Int) ≤ 1048576 := by omega
 obtain ⟨cs, hcs, hmk⟩ := run_make_full kndE n hn
 have hcp := run_copy_src kndE w 3 ea n cap (fE H n) (fE_len _ _) hS (fE_one _ _) cs hcs
 have HO : Hid ((w.alloc (.cells (fE H n).toArray 71)).ownsRow w.heap.size 71 3 (.slice (some ⟨w.heap.size, 0, none⟩) n n) n (fE H n) ∧ Below w.heap.size w (w.alloc (.cells (fE H n).toArray 71))) := by
  refine ⟨?_, below_allocL _ _⟩
  have := World.ownsRow_lit (base := w.heap.size) (e := 71) (size := 3) w (fE H n).toArray n (Nat.le_refl _) (by unfold maxLen; omega) (by simp [fE_len])
  exact this
 clear hS hcs
 go_enter Tryz.func70, Tryz.ntmps70
 go_wp2
 go_ret
 exact ⟨_, _, rfl, HO.out.1, by simp, HO.out.2⟩
variable {z : Bool}
def adOf : Value → Option Addr
 | .slice a _ _ => a
 | _ => none
def cpOf : Value → Nat
 | .slice _ _ c => c
 | _ => 0
def fdOf (v : Value) (i : Nat) : Value := (cellsL v).getD i (.slice none 0 0)
def Sy.sysIn (y : Sy) (vp vs vw vh : Value) (up us uw uh : Nat → Value) : SysIn :=
 ⟨adOf vp, y.pn, cpOf vp, fun i => adOf (up i), y.pL, fun i => cpOf (up i), y.pH,
  adOf vs, y.sn, cpOf vs, fun i => ⟨(y.sS i).p, adOf (fdOf (us i) 1), cpOf (fdOf (us i) 1), (y.sS i).rs, adOf (fdOf (us i) 2), cpOf (fdOf (us i) 2), (y.sS i).os, (y.sS i).c⟩,
  adOf vw, y.wn, cpOf vw, fun i => adOf (uw i), y.wL, fun i => cpOf (uw i), y.wH,
  adOf vh, y.hn, cpOf vh, fun i => adOf (uh i), y.hL, fun i => cpOf (uh i), y.hH⟩
theorem markSys_le (x : SysIn) (lo hi : Nat) (v : Value) (w : World) (hs : x.size ≤ 1048576) (o : IsSys w lo hi x v) :
  Calls Tryz.prog 24 #[v, .int .i64 1] w fun e w' => (∃ z : Int, e = .returned (.int .i64 z) ∧ ¬ z < 0 ∧ z ≤ 30000000) ∧ Touch (fun b => lo ≤ b ∧ b < hi) w w' := by
 obtain ⟨D1, D2, D3, D4, b1, vs, b3, b4, h1, h2, h3, o⟩ := o
 have HS : Hid (x.size ≤ 1048576) := hs
 obtain ⟨q1, q2, q3, q4, -⟩ := o.hi
 have OO : Hid (OutSys w lo hi x v D1 D2 D3 D4 b1 vs b3 b4 h1 h2 h3) := o
 have QQ : Hid (h1 ≤ hi ∧ h2 ≤ hi ∧ h3 ≤ hi ∧ hi ≤ w.heap.size) := ⟨q1, q2, q3, q4⟩
 obtain ⟨rfl, p1, s1, w1, i1, y1, y2, y3, y4⟩ := o
 have Y : Hid (lo ≤ D1 ∧ h1 ≤ D2 ∧ h2 ≤ D3 ∧ h3 ≤ D4 ∧ D1 < h1 ∧ D2 < h2 ∧ D3 < h3 ∧ D4 < hi) := ⟨y1, y2, y3, y4, p1.lt, s1.lt, w1.lt, i1.lt⟩
 have P1 : Hid (OutIns w D1 h1 x.pn x.pL b1 x.pH) := p1
 have S1 : Hid (OutState w D2 h2 x.sn x.sS vs) := s1
 have W1 : Hid (OutItem w D3 h3 x.wn x.wL b3 x.wH) := w1
 have I1 : Hid (OutEvent w D4 hi x.hn x.hL b4 x.hH) := i1
 clear p1 s1 w1 i1 y1 y2 y3 y4 q1 q2 q3 q4 hs OO
 have X0 : Hid (MkY w (w.alloc (oQ4 (some ⟨D1, 0, none⟩) x.pn x.pn (some ⟨D2, 0, none⟩) x.sn x.sn (some ⟨D3, 0, none⟩) x.wn x.wn (some ⟨D4, 0, none⟩) x.hn x.hn)) lo hi D1 D2 D3 D4 x) := ⟨Touch.of_below (below_allocS _ _), BoxC.new w (.slice (some ⟨D1, 0, none⟩) x.pn x.pn) (.slice (some ⟨D2, 0, none⟩) x.sn x.sn) (.slice (some ⟨D3, 0, none⟩) x.wn x.wn) (.slice (some ⟨D4, 0, none⟩) x.hn x.hn) 29, by simp⟩
 have BA : Hid (Below w.heap.size w (w.alloc (oQ4 (some ⟨D1, 0, none⟩) x.pn x.pn (some ⟨D2, 0, none⟩) x.sn x.sn (some ⟨D3, 0, none⟩) x.wn x.wn (some ⟨D4, 0, none⟩) x.hn x.hn))) := below_allocS _ _
 go_enter Tryz.func24, Tryz.ntmps24
 go_wp2_with fail
 generalize w.alloc (oQ4 (some ⟨D1, 0, none⟩) x.pn x.pn (some ⟨D2, 0, none⟩) x.sn x.sn (some ⟨D3, 0, none⟩) x.wn x.wn (some ⟨D4, 0, none⟩) x.hn x.hn) = wA at *
 refine (markInsSS_any D1 h1 x.pn x.pn x.pL b1 x.pH 1 wA (SysIn.lens HS.out).1.1 (SysIn.lens HS.out).1.2 (by omega) (by omega) (P1.out.below BA.out (by have := QQ.out; omega))).mono ?_
 rintro e w1 ⟨rfl, t1⟩
 have X1 : Hid (MkY w w1 lo hi D1 D2 D3 D4 x) := X0.out.step (by have := QQ.out; omega) t1 fun b hb => by have := QQ.out; have := Y.out; omega
 have KS : Hid (OutState w1 D2 h2 x.sn x.sS vs) := (S1.out.below BA.out (by have := QQ.out; omega)).keep t1.size fun k hk1 hk2 => t1.block k (by have := BA.out.size; have := QQ.out; omega) (fun e => by have := Y.out; omega)
 have KW : Hid (OutItem w1 D3 h3 x.wn x.wL b3 x.wH) := (W1.out.below BA.out (by have := QQ.out; omega)).keep t1.size fun k hk1 hk2 => t1.block k (by have := BA.out.size; have := QQ.out; omega) (fun e => by have := Y.out; omega)
 have KI : Hid (OutEvent w1 D4 hi x.hn x.hL b4 x.hH) := (I1.out.below BA.out (by have := QQ.out; omega)).keep t1.size fun k hk1 hk2 => t1.block k (by have := BA.out.size; have := QQ.out; omega) (fun e => by have := Y.out; omega)
 have z1 : 0 ≤ (1 : Int) + 5 * (sumL x.pL x.pn : Nat) ∧ (1 : Int) + 5 * (sumL x.pL x.pn : Nat) ≤ 6000000 := by have := (SysIn.lens HS.out).1.2; omega
 generalize (1 : Int) + 5 * (sumL x.pL x.pn : Nat) = Z1 at *
 have HZ1 : Hid (0 ≤ Z1 ∧ Z1 ≤ 6000000) := z1
 clear t1 X0 P1 S1 W1 I1 BA z1
 obtain ⟨-, ⟨p0, p1, p2, p3⟩, lt⟩ := X1.out
 go_wp2_with fail
 clear p0 p1 p2 p3 lt
 refine (markStateS_any D2 h2 x.sn x.sn x.sS vs Z1 w1 (SysIn.lens HS.out).2.1.1 (SysIn.lens HS.out).2.1.2 HZ1.out.1 (by have := HZ1.out; omega) KS.out).mono ?_
 rintro e w2 ⟨rfl, t2⟩
 have X2 : Hid (MkY w w2 lo hi D1 D2 D3 D4 x) := X1.out.step (by have := QQ.out; omega) t2 fun b hb => by have := QQ.out; have := Y.out; omega
 have KW2 : Hid (OutItem w2 D3 h3 x.wn x.wL b3 x.wH) := KW.out.keep t2.size fun k hk1 hk2 => t2.block k (Nat.lt_of_lt_of_le hk2 KW.out.le) (fun e => by have := Y.out; omega)
 have KI2 : Hid (OutEvent w2 D4 hi x.hn x.hL b4 x.hH) := KI.out.keep t2.size fun k hk1 hk2 => t2.block k (Nat.lt_of_lt_of_le hk2 KI.out.le) (fun e => by have := Y.out; omega)
 have z2 : 0 ≤ Z1 + (2 * x.sn + sumL (lenS x.sS) x.sn : Nat) ∧ Z1 + (2 * x.sn + sumL (lenS x.sS) x.sn : Nat) ≤ 12000000 := by have := (SysIn.lens HS.out).2.1; have := HZ1.out; omega
 generalize Z1 + (2 * x.sn + sumL (lenS x.sS) x.sn : Nat) = Z2 at *
 have HZ2 : Hid (0 ≤ Z2 ∧ Z2 ≤ 12000000) := z2
 clear t2 X1 KS KW KI z2 HZ1
 obtain ⟨-, ⟨p0, p1, p2, p3⟩, lt⟩ := X2.out
 go_wp2_with fail
 clear p0 p1 p2 p3 lt
 refine (markItemSS_any D3 h3 x.wn x.wn x.wL b3 x.wH Z2 w2 (SysIn.lens HS.out).2.2.1.1 (SysIn.lens HS.out).2.2.1.2 HZ2.out.1 (by have := HZ2.out; omega) KW2.out).mono ?_
 rintro e w3 ⟨rfl, t3⟩
 have X3 : Hid (MkY w w3 lo hi D1 D2 D3 D4 x) := X2.out.step (by have := QQ.out; omega) t3 fun b hb => by have := QQ.out; have := Y.out; omega
 have KI3 : Hid (OutEvent w3 D4 hi x.hn x.hL b4 x.hH) := KI2.out.keep t3.size fun k hk1 hk2 => t3.block k (Nat.lt_of_lt_of_le hk2 KI2.out.le) (fun e => by have := Y.out; omega)
 have z3 : 0 ≤ Z2 + 2 * (sumL x.wL x.wn : Nat) ∧ Z2 + 2 * (sumL x.wL x.wn : Nat) ≤ 18000000 := by have := (SysIn.lens HS.out).2.2.1; have := HZ2.out; omega
 generalize Z2 + 2 * (sumL x.wL x.wn : Nat) = Z3 at *
 have HZ3 : Hid (0 ≤ Z3 ∧ Z3 ≤ 18000000) := z3
 clear t3 X2 KW2 KI2 z3 HZ2
 obtain ⟨-, ⟨p0, p1, p2, p3⟩, lt⟩ := X3.out
 go_wp2_with fail
 clear p0 p1 p2 p3 lt
 refine (markEventSS_any D4 hi x.hn x.hn x.hL b4 x.hH Z3 w3 (SysIn.lens HS.out).2.2.2.1 (SysIn.lens HS.out).2.2.2.2 HZ3.out.1 (by have := HZ3.out; omega) KI3.out).mono ?_
 rintro e w4 ⟨rfl, t4⟩
 have X4 : Hid (MkY w w4 lo hi D1 D2 D3 D4 x) := X3.out.step (by have := QQ.out; omega) t4 fun b hb => by have := QQ.out; have := Y.out; omega
 have HZ4 : Hid (¬ Z3 + 3 * (sumL x.hL x.hn : Nat) < 0 ∧ Z3 + 3 * (sumL x.hL x.hn : Nat) ≤ 30000000) := by
  show ¬ Z3 + 3 * (sumL x.hL x.hn : Nat) < 0 ∧ Z3 + 3 * (sumL x.hL x.hn : Nat) ≤ 30000000
  have := HZ3.out
  have := (SysIn.lens HS.out).2.2.2.2
  omega
 generalize Z3 + 3 * (sumL x.hL x.hn : Nat) = Z4 at *
 clear t4 X3 KI3 HZ3
 go_wp2
 go_ret
 exact ⟨⟨_, rfl, HZ4.out⟩, X4.out.tch⟩
end Go.Proofs.YtcplnkhdclcgfaaGreatDoor
