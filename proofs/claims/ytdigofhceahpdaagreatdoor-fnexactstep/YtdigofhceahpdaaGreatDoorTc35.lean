/- The walk of the program's copySys. -/
import Derived.Test.YtdigofhceahpdaaGreatDoorTc0
import Derived.Test.YtdigofhceahpdaaGreatDoorTc32
import Derived.Test.YtdigofhceahpdaaGreatDoorTc33
import Derived.Lib.QuietBelow
import Derived.LaidEql
import Derived.Stop.Asserts
import Derived.RowKitTokens
import Derived.Test.YtdigofhceahpdaaGreatDoorTc34
namespace Go.Proofs.YtdigofhceahpdaaGreatDoor
set_option maxRecDepth 100000
set_option maxHeartbeats 4000000
open Go.ChangeShapes Go.WideShapes Go.ChangeAt Go.RowKit Go.Deep Go.Sort
theorem list_of_zi {xs ys : List Int} (hl : xs.length = ys.length) (h : ∀ j, j < xs.length → zi xs j = zi ys j) : xs = ys := by
 refine List.ext_getElem hl fun i h1 h2 => ?_
 have := h i h1
 simpa [zi, List.getD_eq_getElem?_getD, List.getElem?_eq_getElem h1, List.getElem?_eq_getElem h2] using this
theorem equal_any (a0 a1 : Option Addr) (c0 c1 : Nat) (xs ys : List Int) (w : World) (hx : xs.length ≤ 1048576) (hy : ys.length ≤ 1048576) (h0 : Sl w a0 xs) (h1 : Sl w a1 ys) :
  Calls Tryz.prog 119 #[.slice a0 xs.length c0, .slice a1 ys.length c1] w fun e w' => e = .returned (.bool (xs == ys)) ∧ Below w.heap.size w w' := by
 have hl' : (xs.length : Int) ≤ 1048576 := by omega
 have hl2 : (ys.length : Int) ≤ 1048576 := by omega
 by_cases hl : xs.length = ys.length
 ·have H0 : Hid (Sl w a0 xs) := h0
  have H1 : Hid (Sl w a1 ys) := h1
  have HL : Hid (xs.length = ys.length) := hl
  rw [← hl]
  clear h0 h1 hl hy hl2
  go_enter Tryz.func119, Tryz.ntmps119
  go_wp2_with fail
  go_loopw [13] (fun i wr => ∃ k : Nat, k ≤ xs.length ∧ i = .int .i64 k ∧ Below w.heap.size w wr ∧ Hid (∀ j, j < k → zi xs j = zi ys j)) (fun i _ => xs.length - (intOf i).toNat)
  case atStart => exact ⟨0, Nat.zero_le _, rfl, Below.refl _ _, fun j hj => by omega⟩
  case round =>
   obtain ⟨k, hk, rfl, hbw, HZ⟩ := hrel
   by_cases hlt : k < xs.length
   ·have hlt2 : k < ys.length := by have := HL.out; omega
    obtain ⟨b, off, rfl, hbl, ck⟩ := (H0.out.below hbw).at hlt
    obtain ⟨b', off', rfl, hbl', ck'⟩ := (H1.out.below hbw).at hlt2
    have hlt' : (k : Int) < (xs.length : Int) := by omega
    clear hlt2
    rcases Bool.eq_false_or_eq_true (zi xs k != zi ys k) with t | t
    ·have HN : Hid ((xs == ys) = false) := by
      show (xs == ys) = false
      rw [beq_eq_false_iff_ne]
      intro e
      rw [e] at t
      simp at t
     go_wp2_with fail
     go_quiet (fail)
     go_wp2
     go_ret
     rw [HN.out]
     exact ⟨rfl, below_drewN hbw _⟩
    ·have HZ' : Hid (∀ j, j < k + 1 → zi xs j = zi ys j) := fun j hj => by
      by_cases e : j = k
      ·subst e
       simpa using t
      ·exact HZ.out j (by omega)
     clear HZ
     go_wp2_with fail
     go_quiet (fail)
     go_wp2
     go_roundw
     case rel => exact ⟨k + 1, by omega, by go_num, below_drewN hbw _, HZ'.out⟩
     case measure => simp [intOf]; omega
   ·have HE : Hid ((xs == ys) = true) := by
     show (xs == ys) = true
     rw [beq_iff_eq]
     exact list_of_zi HL.out fun j hj => HZ.out j (by omega)
    clear HZ
    go_wp2
    go_ret
    rw [HE.out]
    exact ⟨rfl, hbw⟩
 ·have hne : ((xs.length : Int) != (ys.length : Int)) = true := by simp; omega
  have HN : Hid ((xs == ys) = false) := by
   show (xs == ys) = false
   rw [beq_eq_false_iff_ne]
   intro e
   exact hl (by rw [e])
  clear h0 h1 hl
  go_enter Tryz.func119, Tryz.ntmps119
  go_wp2
  go_ret
  rw [HN.out]
  exact ⟨rfl, Below.refl _ _⟩
def eqS (S T : S4) : Bool := (S.p == T.p) && (S.c == T.c) && (S.rs == T.rs) && (S.os == T.os)
theorem eqS_iff {S T : S4} : eqS S T = true ↔ S = T := by
 obtain ⟨a, b, c, d⟩ := S
 obtain ⟨a', b', c', d'⟩ := T
 simp only [eqS, Bool.and_eq_true, beq_iff_eq, S4.mk.injEq]
 exact ⟨fun ⟨⟨⟨h1, h2⟩, h3⟩, h4⟩ => ⟨h1, h3, h4, h2⟩, fun ⟨h1, h3, h4, h2⟩ => ⟨⟨⟨h1, h2⟩, h3⟩, h4⟩⟩
theorem implSameState_any (S T : S4) (ra oa ra' oa' : Option Addr) (rc oc rc' oc' : Nat) (w : World) (l1 : S.rs.length ≤ 1048576) (l2 : S.os.length ≤ 1048576) (l3 : T.rs.length ≤ 1048576) (l4 : T.os.length ≤ 1048576) (h1 : Sl w ra S.rs) (h2 : Sl w oa S.os) (h3 : Sl w ra' T.rs) (h4 : Sl w oa' T.os) :
  Calls Tryz.prog 117 #[stV S.p ra S.rs.length rc oa S.os.length oc S.c, stV T.p ra' T.rs.length rc' oa' T.os.length oc' T.c] w fun e w' => e = .returned (.bool (eqS S T)) ∧ Below w.heap.size w w' := by
 have H1 : Hid (Sl w ra S.rs ∧ Sl w ra' T.rs) := ⟨h1, h3⟩
 have H2 : Hid (Sl w oa S.os ∧ Sl w oa' T.os) := ⟨h2, h4⟩
 clear h1 h2 h3 h4
 rcases Bool.eq_false_or_eq_true (S.p == T.p) with t1 | t1
 case inr =>
  have HE : Hid (eqS S T = false) := by
   show eqS S T = false
   simp [eqS, t1]
  go_enter Tryz.func117, Tryz.ntmps117
  go_wp2
  go_ret
  rw [HE.out]
  exact ⟨rfl, by go_grown⟩
 rcases Bool.eq_false_or_eq_true (S.c == T.c) with t2 | t2
 case inr =>
  have HE : Hid (eqS S T = false) := by
   show eqS S T = false
   simp [eqS, t2]
  go_enter Tryz.func117, Tryz.ntmps117
  go_wp2
  go_ret
  rw [HE.out]
  exact ⟨rfl, by go_grown⟩
 rcases Bool.eq_false_or_eq_true (S.rs == T.rs) with t3 | t3
 case inr =>
  have HE : Hid (eqS S T = false) := by
   show eqS S T = false
   simp [eqS, t3]
  have T3 : Hid ((S.rs == T.rs) = false) := t3
  clear t3
  go_enter Tryz.func117, Tryz.ntmps117
  go_wp2_with fail
  refine (equal_any _ _ _ _ _ _ _ l1 l3 (H1.out.1.below (by go_grown)) (H1.out.2.below (by go_grown))).mono ?_
  rintro e w1 ⟨rfl, b1⟩
  rw [T3.out]
  have B1 : Hid (Below w.heap.size w w1) := below_up (by go_grown) b1 (by simp; omega)
  clear b1
  go_wp2
  go_ret
  rw [HE.out]
  exact ⟨rfl, B1.out⟩
 have HE : Hid (eqS S T = (S.os == T.os)) := by
  show eqS S T = (S.os == T.os)
  simp [eqS, t1, t2, t3]
 have T3 : Hid ((S.rs == T.rs) = true) := t3
 clear t3
 go_enter Tryz.func117, Tryz.ntmps117
 go_wp2_with fail
 refine (equal_any _ _ _ _ _ _ _ l1 l3 (H1.out.1.below (by go_grown)) (H1.out.2.below (by go_grown))).mono ?_
 rintro e w1 ⟨rfl, b1⟩
 rw [T3.out]
 have B1 : Hid (Below w.heap.size w w1) := below_up (by go_grown) b1 (by simp; omega)
 obtain ⟨hc1, hf1⟩ := bcell b1
 clear b1
 go_wp2_with fail
 refine (equal_any _ _ _ _ _ _ _ l2 l4 (H2.out.1.below B1.out) (H2.out.2.below B1.out)).mono ?_
 rintro e w2 ⟨rfl, b2⟩
 have B2 : Hid (Below w.heap.size w w2) := B1.out.trans (b2.mono B1.out.size)
 clear b2 hc1 hf1
 go_wp2
 go_ret
 rw [HE.out]
 exact ⟨rfl, B2.out⟩
theorem itemOk_any (m : Bool) (v : Int) (w : World) :
  Calls Tryz.prog 158 #[itV m v] w fun e w' => e = .returned (.bool (itemB ⟨m, v⟩)) ∧ Below w.heap.size w w' := by
 rcases Bool.eq_false_or_eq_true m with rfl | rfl
 ·have HE : Hid (itemB ⟨true, v⟩ = (v == 0)) := by
   show itemB ⟨true, v⟩ = (v == 0)
   simp only [itemB, Bool.not_true, Bool.false_or]
   by_cases e : v = 0
   ·subst e
    rfl
   ·have : (v == 0) = false := by simpa using e
    rw [this, Bool.and_false]
  go_enter Tryz.func158, Tryz.ntmps158
  go_wp2
  go_ret
  rw [HE.out]
  exact ⟨rfl, by go_grown⟩
 ·have HE : Hid (itemB ⟨false, v⟩ = inB v (-1000000000) 1000000000) := by
   show itemB ⟨false, v⟩ = inB v (-1000000000) 1000000000
   simp [itemB, numB]
  go_enter Tryz.func158, Tryz.ntmps158
  go_wp2_with fail
  refine (isNum_any _ _).mono ?_
  rintro e w1 ⟨rfl, rfl⟩
  go_wp2
  go_ret
  rw [HE.out]
  exact ⟨rfl, by go_grown⟩
def itemsB (h : Nat → I2) (n : Nat) : Bool := (List.range n).all fun i => itemB (h i)
theorem itemsB_iff {h : Nat → I2} {n : Nat} : itemsB h n = true ↔ ∀ i, i < n → itemB (h i) = true := by
 simp [itemsB]
theorem itemsB_no {h : Nat → I2} {n k : Nat} (hk : k < n) (hf : itemB (h k) = false) : itemsB h n = false := by
 rcases Bool.eq_false_or_eq_true (itemsB h n) with t | t
 ·have := itemsB_iff.1 t k hk
  rw [hf] at this
  cases this
 ·exact t
theorem wayOk_any (a : Option Addr) (len cap : Nat) (h : Nat → I2) (w : World) (hlen : len ≤ 1048576) (hc : ItL w a len h) :
  Calls Tryz.prog 118 #[.slice a len cap] w fun e w' => e = .returned (.bool (decide (len ≤ 12) && itemsB h len)) ∧ Below w.heap.size w w' := by
 have hl' : (len : Int) ≤ 1048576 := by omega
 have HC : Hid (ItL w a len h) := hc
 clear hc
 by_cases h12 : len ≤ 12
 case neg =>
  have h12' : (12 : Int) < (len : Int) := by omega
  have HE : Hid ((decide (len ≤ 12) && itemsB h len) = false) := by
   show (decide (len ≤ 12) && itemsB h len) = false
   simp [h12]
  go_enter Tryz.func118, Tryz.ntmps118
  go_wp2
  go_ret
  rw [HE.out]
  exact ⟨rfl, Below.refl _ _⟩
 have h12' : ¬ (12 : Int) < (len : Int) := by omega
 have HE : Hid ((decide (len ≤ 12) && itemsB h len) = itemsB h len) := by
  show (decide (len ≤ 12) && itemsB h len) = itemsB h len
  simp [h12]
 clear h12
 go_enter Tryz.func118, Tryz.ntmps118
 go_wp2_with fail
 go_loopw [10] (fun i wr => ∃ k : Nat, k ≤ len ∧ i = .int .i64 k ∧ Below w.heap.size w wr ∧ Hid (∀ j, j < k → itemB (h j) = true)) (fun i _ => len - (intOf i).toNat)
 case atStart => exact ⟨0, Nat.zero_le _, rfl, Below.refl _ _, fun j hj => by omega⟩
 case round =>
  obtain ⟨k, hk, rfl, hbw, HZ⟩ := hrel
  by_cases hlt : k < len
  ·have hlt' : (k : Int) < (len : Int) := by omega
   obtain ⟨b, off, rfl, -, c0, c1⟩ := (HC.out.below hbw).at hlt
   go_wp2_with fail
   refine (itemOk_any _ _ _).mono ?_
   rintro e w1 ⟨rfl, b1⟩
   have B1 : Hid (Below w.heap.size w w1) := hbw.trans (((below_alloc wr _).trans (b1.mono (by simp))).mono hbw.size)
   clear b1
   rcases Bool.eq_false_or_eq_true (itemB (h k)) with t | t
   ·have HZ' : Hid (∀ j, j < k + 1 → itemB (h j) = true) := fun j hj => by
     by_cases e : j = k
     ·subst e
      exact t
     ·exact HZ.out j (by omega)
    rw [show itemB { m := (h k).m, v := (h k).v } = true from t]
    clear HZ t
    go_wp2
    go_roundw
    case rel => exact ⟨k + 1, by omega, by go_num, B1.out, HZ'.out⟩
    case measure => simp [intOf]; omega
   ·have HN : Hid (itemsB h len = false) := itemsB_no hlt t
    rw [show itemB { m := (h k).m, v := (h k).v } = false from t]
    clear HZ t
    go_wp2
    go_ret
    rw [HE.out, HN.out]
    exact ⟨rfl, B1.out⟩
  ·have HN : Hid (itemsB h len = true) := itemsB_iff.2 fun j hj => HZ.out j (by omega)
   clear HZ
   go_wp2
   go_ret
   rw [HE.out, HN.out]
   exact ⟨rfl, hbw⟩
open Go.RowKit Go.Extern.Stop Go.Stop Go.Extern
theorem as_nil (t : Value) (w : World) :
  Calls Tryz.prog 157 #[.nilIface, t] w fun e w' => e = .returned (.bool false) ∧ w' = w := by
 go_enter Tryz.func157, Tryz.ntmps157
 go_wp2
 go_ret
 exact ⟨rfl, rfl⟩
theorem valueOfT (t : Addr) (w : World) : (ReflectliteValue.unpack (.iface 191 (.pointer (some t)))).run Tryz.prog w
  = .ok (.agg #[.pointer (some ⟨1, 191, none⟩), .pointer (some ⟨w.heap.size, 0, none⟩), .int .u64 150]) (w.alloc (.cells #[.pointer (some t)] 191)) := by kernel_rfl
theorem typeT (a : Addr) (w : World) : (ReflectliteValue.methodAny (ReflectliteValue.valueError "reflectlite.Value.Type" 0) (fun t _ _ _ => ReflectliteType.toType t) #[.agg #[.pointer (some ⟨1, 191, none⟩), .pointer (some a), .int .u64 150]]).run Tryz.prog w
  = .ok (.iface 236 (.agg #[.pointer (some ⟨1, 191, none⟩)])) w := by kernel_rfl
theorem kindT (w : World) : ((ReflectliteType.abiMethod fun t => (fun a : Nat => Value.int IntKind.u8 (a : Int)) <$> Rtype.kind t) #[.pointer (some ⟨1, 191, none⟩)]).run Tryz.prog w = .ok (.int .u8 22) w := by kernel_rfl
theorem kindE (w : World) : ((ReflectliteType.abiMethod fun t => (fun a : Nat => Value.int IntKind.u8 (a : Int)) <$> Rtype.kind t) #[.pointer (some ⟨1, 189, none⟩)]).run Tryz.prog w = .ok (.int .u8 25) w := by kernel_rfl
theorem rlm (z : Sem Value) (f : TypeId → Addr → Nat → Nat → Sem Value) (v : Value) :
  ReflectliteValue.method z f #[v] = (do match ← ReflectliteValue.parts v with | none => z | some (t, a, fl) => f t a fl (fl % 32)) := rfl
theorem partsT (a : Addr) (w : World) : (ReflectliteValue.parts (.agg #[.pointer (some ⟨1, 191, none⟩), .pointer (some a), .int .u64 150])).run Tryz.prog w = .ok (some (191, a, 150)) w := by kernel_rfl
theorem isNilT (a p : Addr) (W : World) (ha : W.cell? a = some (.pointer (some p))) :
  (ReflectliteValue.method (ReflectliteValue.valueError "reflectlite.Value.IsNil" 0) ReflectliteValue.isNil #[.agg #[.pointer (some ⟨1, 191, none⟩), .pointer (some a), .int .u64 150]]).run Tryz.prog W = .ok (.bool false) W := by
 rw [rlm]
 simp only [Sem.run_bind, partsT, Result.andThen]
 simp [ReflectliteValue.isNil, loadVar, isAgg, underlying, Tryz.underlying191, ha, Result.andThen]
theorem elemT (w : World) : (ReflectliteType.method ReflectliteType.elem #[.agg #[.pointer (some ⟨1, 191, none⟩)]]).run Tryz.prog w = .ok (.iface 236 (.agg #[.pointer (some ⟨1, 189, none⟩)])) w := by kernel_rfl
theorem implementsE (w : World) : (ReflectliteType.relation "Implements" ReflectliteType.implements_ #[.agg #[.pointer (some ⟨1, 189, none⟩)], .iface 236 (.agg #[.pointer (some ⟨1, 185, none⟩)])]).run Tryz.prog w = .ok (.bool true) w := by kernel_rfl
theorem typeOfE (v : Value) (w : World) : (ReflectliteType.typeOf #[.iface 189 v]).run Tryz.prog w = .ok (.iface 236 (.agg #[.pointer (some ⟨1, 189, none⟩)])) w := by kernel_rfl
theorem assignableE (w : World) : (ReflectliteType.relation "AssignableTo" ReflectliteType.assignableTo #[.agg #[.pointer (some ⟨1, 189, none⟩)], .iface 236 (.agg #[.pointer (some ⟨1, 189, none⟩)])]).run Tryz.prog w = .ok (.bool true) w := by kernel_rfl
theorem valueOfE (x : Int) (w : World) : (ReflectliteValue.unpack (.iface 189 (.agg #[.int .i64 x]))).run Tryz.prog w
  = .ok (.agg #[.pointer (some ⟨1, 189, none⟩), .pointer (some ⟨w.heap.size, 0, none⟩), .int .u64 153]) (w.alloc (.cells #[.int .i64 x] 189)) := by kernel_rfl
theorem elemOfT (w : World) : (Rtype.elem? 191).run Tryz.prog w = .ok (some 189) w := by kernel_rfl
theorem mkE (p : Addr) (w : World) : (ReflectliteValue.mk 189 p ReflectliteValue.flagAddr).run Tryz.prog w = .ok (.agg #[.pointer (some ⟨1, 189, none⟩), .pointer (some p), .int .u64 409]) w := by kernel_rfl
structure SysIn.Nn (x : SysIn) : Prop where
 w : ∀ i, i < x.wn → ∃ b off, x.wA i = some ⟨b, off, none⟩
 h : ∀ i, i < x.hn → ∃ b off, x.hA i = some ⟨b, off, none⟩
theorem run_make_states (n : Nat) (hn : n ≤ 1048576) : ∃ cs : Array Value, cs.size = n * 4 ∧ ∀ w : World, (Instr.makeSlice 25 (.int .i64 0) (.int .i64 (n : Int))).run Tryz.prog w = .ok (.slice (some ⟨w.heap.size, 0, none⟩) 0 n) (w.alloc (.cells cs 54)) := by
 obtain ⟨i, z, hi, hz, hs, hb, hzs⟩ := kndS.inf
 refine ⟨madeCells z.cells (n * 4), size_madeCells _ _, fun w => ?_⟩
 have hby : i.bytes * n ≤ 281474976710656 := by
  rw [hb]
  omega
 have hby' : (i.bytes : Int) * (n : Int) ≤ 281474976710656 := by rw [← Int.natCast_mul]; exact Int.ofNat_le.2 hby
 have h := run_make (P := Tryz.prog) w 25 54 i z kndS.und hi hz .i64 .i64 0 (n : Int) (by omega) (by omega) hby' (by omega)
 rw [hs, Int.toNat_natCast] at h
 exact h
theorem LS.made (w : World) (cs : Array Value) (n : Nat) (hn : n ≤ 1048576) (hc : cs.size = n * 4) (P : Nat → Prop) (hP : P w.heap.size) (vs : Nat → Value) (S : Nat → S4) {N : Nat} (hN : N = w.heap.size) : LS (w.alloc (.cells cs 54)) P (.slice (some ⟨N, 0, none⟩) 0 n) 0 vs S := by
 subst hN
 exact ⟨World.ownsRow_made (base := 0) (e := 54) (size := 4) w cs n (Nat.zero_le _) (by unfold maxLen; omega) hc, fun i hi => (by omega), fun k hk => (by cases hk; exact hP), fun i hi => (by omega), fun i hi => (by omega), fun i j hi => (by omega)⟩
theorem OwnS.four {B m1 m2 m3 m4 : Nat} {w1 w2 w3 w4 wf : World} {y : Sy} {vp vs vw vh : Value} {up us uw uh : Nat → Value} (h1 : m1 ≤ w1.heap.size) (h2 : w1.heap.size ≤ m2) (h3 : w2.heap.size ≤ m3) (h4 : w3.heap.size ≤ m4) (hB : B ≤ m1)
  (o1 : LS w1 (fun k => m1 ≤ k ∧ k < w1.heap.size) vs y.sn us y.sS) (o2 : LI w2 (fun k => m2 ≤ k ∧ k < w2.heap.size) vp y.pn up y.pL y.pH) (o3 : LT w3 (fun k => m3 ≤ k ∧ k < w3.heap.size) vw y.wn uw y.wL y.wH) (o4 : LE w4 (fun k => m4 ≤ k ∧ k < w4.heap.size) vh y.hn uh y.hL y.hH)
  (b2 : Below w1.heap.size w1 w2) (b3 : Below w2.heap.size w2 w3) (b4 : Below w3.heap.size w3 w4) (hf : ∀ k, m1 ≤ k → k < w4.heap.size → wf.heap[k]? = w4.heap[k]?) :
  ∃ c, OwnS wf B c y vp vs vw vh up us uw uh := by
 have z2 := b2.size
 have z3 := b3.size
 have z4 := b4.size
 refine ⟨fun k => if k < w1.heap.size then 2 else if k < w2.heap.size then 1 else if k < w3.heap.size then 3 else 4, ?_, ?_, ?_, ?_⟩
 ·refine (o2.keep (w' := wf) fun k hk hl => (hf k (by omega) (by omega)).trans ((b4.block k (by omega)).trans (b3.block k hl))).mono fun k hk _ => ⟨by omega, ?_⟩
  show (if k < w1.heap.size then 2 else if k < w2.heap.size then 1 else if k < w3.heap.size then 3 else 4) = 1
  rw [if_neg (by omega), if_pos (by omega)]
 ·refine (o1.keep (w' := wf) fun k hk hl => (hf k (by omega) (by omega)).trans ((b4.block k (by omega)).trans ((b3.block k (by omega)).trans (b2.block k hl)))).mono fun k hk _ => ⟨by omega, ?_⟩
  show (if k < w1.heap.size then 2 else if k < w2.heap.size then 1 else if k < w3.heap.size then 3 else 4) = 2
  rw [if_pos (by omega)]
 ·refine (o3.keep (w' := wf) fun k hk hl => (hf k (by omega) (by omega)).trans (b4.block k hl)).mono fun k hk _ => ⟨by omega, ?_⟩
  show (if k < w1.heap.size then 2 else if k < w2.heap.size then 1 else if k < w3.heap.size then 3 else 4) = 3
  rw [if_neg (by omega), if_neg (by omega), if_pos (by omega)]
 ·refine (o4.keep (w' := wf) fun k hk hl => hf k (by omega) hl).mono fun k hk _ => ⟨by omega, ?_⟩
  show (if k < w1.heap.size then 2 else if k < w2.heap.size then 1 else if k < w3.heap.size then 3 else 4) = 4
  rw [if_neg (by omega), if_neg (by omega), if_neg (by omega)]
theorem copySys_any (x : SysIn) (w : World) (hG : SysG w x) (hL : x.Len) (hN : x.Nn) :
  Calls Tryz.prog 49 #[x.v] w fun e w' => ∃ v, e = .returned v ∧ OwnSys w' w.heap.size x.y v ∧ Below w.heap.size w w' := by
 have HG : Hid (SysG w x) := hG
 have HL : Hid x.Len := hL
 have hsn' : (x.sn : Int) ≤ 1048576 := by have := hL.s.1; omega
 obtain ⟨cs, hcs, hmk⟩ := run_make_states x.sn hL.s.1
 have HCS : Hid (cs.size = x.sn * 4) := hcs
 have BW : Hid (Below w.heap.size w ((w.alloc (oQ4 x.pa x.pn x.pc x.sa x.sn x.sc x.wa x.wn x.wc x.ha x.hn x.hc)).alloc (zQ3))) := (below_allocL _ _).trans ((below_allocL _ _).mono (by simp))
 have NB : Hid (BoxC ((w.alloc (oQ4 x.pa x.pn x.pc x.sa x.sn x.sc x.wa x.wn x.wc x.ha x.hn x.hc)).alloc (zQ3)) w.heap.size (.slice x.pa x.pn x.pc) (.slice x.sa x.sn x.sc) (.slice x.wa x.wn x.wc) (.slice x.ha x.hn x.hc)) := (BoxC.new w _ _ _ _ _).below (below_allocL _ _)
 have RB : Hid (BoxC ((w.alloc (oQ4 x.pa x.pn x.pc x.sa x.sn x.sc x.wa x.wn x.wc x.ha x.hn x.hc)).alloc (zQ3)) (w.heap.size + 1) (.slice none 0 0) (.slice none 0 0) (.slice none 0 0) (.slice none 0 0) ∧ ∀ j, ((w.alloc (oQ4 x.pa x.pn x.pc x.sa x.sn x.sc x.wa x.wn x.wc x.ha x.hn x.hc)).alloc (zQ3)).frozen? ⟨w.heap.size + 1, j, none⟩ = false) := ⟨⟨new_cell _ _ _ 0 (by simp), new_cell _ _ _ 1 (by simp), new_cell _ _ _ 2 (by simp), new_cell _ _ _ 3 (by simp)⟩, fun j => new_frozen _ _ _ _ (by simp)⟩
 have hz : ((w.alloc (oQ4 x.pa x.pn x.pc x.sa x.sn x.sc x.wa x.wn x.wc x.ha x.hn x.hc)).alloc (zQ3)).heap.size = w.heap.size + 2 := by simp
 have hl0 : w.heap.size < ((w.alloc (oQ4 x.pa x.pn x.pc x.sa x.sn x.sc x.wa x.wn x.wc x.ha x.hn x.hc)).alloc (zQ3)).heap.size := by omega
 have hl1 : w.heap.size + 1 < ((w.alloc (oQ4 x.pa x.pn x.pc x.sa x.sn x.sc x.wa x.wn x.wc x.ha x.hn x.hc)).alloc (zQ3)).heap.size := by omega
 have Hp : Hid (∀ wx, Below ((w.alloc (oQ4 x.pa x.pn x.pc x.sa x.sn x.sc x.wa x.wn x.wc x.ha x.hn x.hc)).alloc (zQ3)).heap.size ((w.alloc (oQ4 x.pa x.pn x.pc x.sa x.sn x.sc x.wa x.wn x.wc x.ha x.hn x.hc)).alloc (zQ3)) wx → (RowS wx x.pa x.pn fun i => .slice (x.pA i) (x.pL i) (x.pC i)) ∧ ∀ i, i < x.pn → ∃ b off, x.pA i = some ⟨b, off, none⟩ ∧ Src wx (x.pA i) (fI (x.pH i) (x.pL i))) := fun wx hb => ⟨(HG.out.below (BW.out.trans (hb.mono BW.out.size))).p, fun i hi => by
  obtain ⟨b, e, hlt, hI⟩ := (HG.out.below (BW.out.trans (hb.mono BW.out.size))).pi i hi
  exact ⟨b, 0, e, by rw [e]; exact srcI hlt hI⟩⟩
 have Hw : Hid (∀ wx, Below ((w.alloc (oQ4 x.pa x.pn x.pc x.sa x.sn x.sc x.wa x.wn x.wc x.ha x.hn x.hc)).alloc (zQ3)).heap.size ((w.alloc (oQ4 x.pa x.pn x.pc x.sa x.sn x.sc x.wa x.wn x.wc x.ha x.hn x.hc)).alloc (zQ3)) wx → (RowS wx x.wa x.wn fun i => .slice (x.wA i) (x.wL i) (x.wC i)) ∧ ∀ i, i < x.wn → ∃ b off, x.wA i = some ⟨b, off, none⟩ ∧ Src wx (x.wA i) (fT (x.wH i) (x.wL i))) := fun wx hb => ⟨(HG.out.below (BW.out.trans (hb.mono BW.out.size))).w, fun i hi => by
  obtain ⟨b, off, e⟩ := hN.w i hi
  exact ⟨b, off, e, srcT ((HG.out.below (BW.out.trans (hb.mono BW.out.size))).wi i hi)⟩⟩
 have Hh : Hid (∀ wx, Below ((w.alloc (oQ4 x.pa x.pn x.pc x.sa x.sn x.sc x.wa x.wn x.wc x.ha x.hn x.hc)).alloc (zQ3)).heap.size ((w.alloc (oQ4 x.pa x.pn x.pc x.sa x.sn x.sc x.wa x.wn x.wc x.ha x.hn x.hc)).alloc (zQ3)) wx → (RowS wx x.ha x.hn fun i => .slice (x.hA i) (x.hL i) (x.hC i)) ∧ ∀ i, i < x.hn → ∃ b off, x.hA i = some ⟨b, off, none⟩ ∧ Src wx (x.hA i) (fE (x.hH i) (x.hL i))) := fun wx hb => ⟨(HG.out.below (BW.out.trans (hb.mono BW.out.size))).h, fun i hi => by
  obtain ⟨b, off, e⟩ := hN.h i hi
  exact ⟨b, off, e, srcE ((HG.out.below (BW.out.trans (hb.mono BW.out.size))).hi i hi)⟩⟩
 have HZ2 : Hid (((w.alloc (oQ4 x.pa x.pn x.pc x.sa x.sn x.sc x.wa x.wn x.wc x.ha x.hn x.hc)).alloc (zQ3)).heap.size = w.heap.size + 1 + 1) := hz
 clear hG hL hcs hz
 go_enter Tryz.func49, Tryz.ntmps49
 go_wp2_with fail
 clear hmk
 generalize hW2 : (w.alloc (oQ4 x.pa x.pn x.pc x.sa x.sn x.sc x.wa x.wn x.wc x.ha x.hn x.hc)).alloc (zQ3) = W2 at *
 clear hW2
 go_loopw [3, 13] (fun v i wr => ∃ k : Nat, k ≤ x.sn ∧ i = .int .i64 k ∧ Hid ((∃ us, LS wr (fun b => W2.heap.size ≤ b ∧ b < wr.heap.size) v k us x.sS) ∧ Below W2.heap.size W2 wr)) (fun _ i _ => x.sn - (intOf i).toNat)
 case atStart => exact ⟨0, Nat.zero_le _, rfl, ⟨fun _ => .slice none 0 0, LS.made W2 cs x.sn HL.out.s.1 HCS.out (fun b => W2.heap.size ≤ b ∧ b < (W2.alloc (.cells cs 54)).heap.size) ⟨Nat.le_refl _, by simp⟩ _ _ HZ2.out.symm⟩, below_allocL _ _⟩
 case round =>
  obtain ⟨k, hk, rfl, HZ⟩ := hrel
  by_cases hlt : k < x.sn
  ·have hlt' : (k : Int) < (x.sn : Int) := by omega
   obtain ⟨⟨us, oz⟩, bz⟩ := HZ.out
   obtain ⟨bs, os, es, s0, s1, s2, s3⟩ := (HG.out.below (BW.out.trans (bz.mono BW.out.size))).s.at hlt
   have hls := (HG.out.below (BW.out.trans (bz.mono BW.out.size))).s.lst k hlt
   have hbs : bs < wr.heap.size := World.block_lt_of_cell? wr _ s0
   have HLk := HL.out.s.2 k hlt
   rw [es]
   have OZ : Hid (LS wr (fun b => W2.heap.size ≤ b ∧ b < wr.heap.size) u3 k us x.sS) := oz
   have BZ : Hid (Below W2.heap.size W2 wr) := bz
   have LSt : Hid (Sl wr (x.sQ k).ra (x.sQ k).rs ∧ Sl wr (x.sQ k).oa (x.sQ k).os) := hls
   clear oz bz hls HZ es
   go_wp2_with fail
   have ba := below_allocL wr (oQ2 (x.sQ k).p (x.sQ k).ra (x.sQ k).rs.length (x.sQ k).rc (x.sQ k).oa (x.sQ k).os.length (x.sQ k).oc (x.sQ k).c)
   refine (copyState_any _ _ _ _ _ _ (x.sQ k).rs (x.sQ k).os _ HLk.1 HLk.2 (LSt.out.1.below ba) (LSt.out.2.below ba)).mono ?_
   rintro e w1 ⟨v1, rfl, o1, d1⟩
   obtain ⟨ra1, rc1, oa1, oc1, rfl, -, -⟩ := o1.read
   have q1 : Below wr.heap.size wr w1 := ba.trans (d1.mono ba.size)
   have F1 : Hid (StOwn w1 wr.heap.size (stV (x.sQ k).p ra1 (x.sQ k).rs.length rc1 oa1 (x.sQ k).os.length oc1 (x.sQ k).c) (x.sQ k).p (x.sQ k).rs (x.sQ k).os (x.sQ k).c ∧ Below wr.heap.size wr w1) := ⟨o1.mono (by simp), q1⟩
   clear o1 d1 q1 ba s0 s1 s2 s3
   go_wp2_with (at_builtin; refine step_append_val kndS w1 rfl rfl _ _ rfl 0 u3 k _ rfl (OZ.out.below F1.out.2).row #[.int .i64 (x.sQ k).p, .slice ra1 (x.sQ k).rs.length rc1, .slice oa1 (x.sQ k).os.length oc1, .int .i64 (x.sQ k).c] rfl rfl (by intro u hu; simp at hu; rcases hu with rfl | rfl | rfl | rfl <;> rfl) (by omega) (Nat.zero_le _) ?_; intro v5 w5 o5 g5 q5 n5; have F5 : Hid ((∃ us, LS w5 (fun b => W2.heap.size ≤ b ∧ b < w5.heap.size) v5 (k + 1) us x.sS) ∧ Below W2.heap.size W2 w5) := ⟨⟨_, OZ.out.push F1.out.2 F1.out.1 o5 g5 q5 (fun j hj _ => ⟨hj.1, Nat.lt_of_lt_of_le hj.2 (Nat.le_trans F1.out.2.size g5.size)⟩) (fun j hj hj' => ⟨Nat.le_trans BZ.out.size hj, hj'⟩)⟩, Below.grown (BZ.out.trans (F1.out.2.mono BZ.out.size)) g5 (Nat.le_trans BZ.out.size F1.out.2.size) (fun j hj => (OZ.out.rb j hj).1)⟩; clear o5 g5 q5 n5)
   go_roundw
   case rel => exact ⟨k + 1, by omega, by go_num, F5.out.1, F5.out.2⟩
   case measure => simp [intOf]; omega
  ·have hkn : k = x.sn := by omega
   subst hkn
   obtain ⟨⟨us, oz⟩, q0⟩ := HZ.out
   obtain ⟨sa, sc, rfl⟩ := ownsRow_slice oz.row
   have b0 := NB.out.below q0
   clear HZ
   go_wp2_with fail
   refine wp_region_G (fun w' => w'.cell? ⟨w.heap.size, 0, none⟩ = some (.slice x.pa x.pn x.pc) ∧ w'.cell? ⟨w.heap.size, 2, none⟩ = some (.slice x.wa x.wn x.wc) ∧ w'.cell? ⟨w.heap.size, 3, none⟩ = some (.slice x.ha x.hn x.hc)) (fun i => i == 11) (by kernel_rfl) ?_
   have hHeld : (fun w' => w'.cell? ⟨w.heap.size, 0, none⟩ = some (.slice x.pa x.pn x.pc) ∧ w'.cell? ⟨w.heap.size, 2, none⟩ = some (.slice x.wa x.wn x.wc) ∧ w'.cell? ⟨w.heap.size, 3, none⟩ = some (.slice x.ha x.hn x.hc)) wr.drew := ⟨b0.1, b0.2.2.1, b0.2.2.2⟩
   have q0 : Below W2.heap.size W2 wr.drew := q0.drew
   refine wpGT_of [0, 1, 3, 4, 5, 7, 8] ?_
   iterate 7 (refine wpGT_take rfl hHeld ?_; apply Exists.intro; refine ⟨fun wq hSw => ?_, ?_⟩; (· ((try dsimp only at hSw); go_simp; try with_reducible rfl)); (try simp only [Act.put, List.setIfInBounds_toArray, List.set_cons_zero, List.set_cons_succ]))
   refine wpGT_nil ?_
   refine wpG_one 2 rfl (by kernel_rfl) (fun K hK => ?_)
   refine stepR_call rfl 28 _ _ rfl #[.slice x.pa x.pn x.pc] (by simp [Act.eval]) (run_enter Tryz.func28 (by kernel_rfl) rfl) (copyListsIns_own x.pa x.pn x.pc x.pA x.pL x.pC x.pH wr.drew HL.out.p.1 HL.out.p.2 (Hp.out _ q0).1 (Hp.out _ q0).2) ?_
   rintro e w1 ⟨v1, u1, rfl, o1, d1⟩
   obtain ⟨a1, c1, rfl⟩ := ownsRow_slice o1.row
   refine ⟨_, rfl, ?_⟩
   have q1 : Below W2.heap.size W2 w1 := q0.trans (d1.mono q0.size)
   have b1 := NB.out.below q1
   refine hK.out _ _ (fun _ => ⟨b1.1, b1.2.2.1, b1.2.2.2⟩) ?_
   clear hHeld
   have hHeld : (fun w' => w'.cell? ⟨w.heap.size, 0, none⟩ = some (.slice x.pa x.pn x.pc) ∧ w'.cell? ⟨w.heap.size, 2, none⟩ = some (.slice x.wa x.wn x.wc) ∧ w'.cell? ⟨w.heap.size, 3, none⟩ = some (.slice x.ha x.hn x.hc)) w1 := ⟨b1.1, b1.2.2.1, b1.2.2.2⟩
   clear hK K
   (try simp only [Act.put, List.setIfInBounds_toArray, List.set_cons_zero, List.set_cons_succ])
   refine wpG_one 6 rfl (by kernel_rfl) (fun K hK => ?_)
   refine stepR_call rfl 93 _ _ rfl #[.slice x.wa x.wn x.wc] (by simp [Act.eval]) (run_enter Tryz.func93 (by kernel_rfl) rfl) (copyListsItem_own x.wa x.wn x.wc x.wA x.wL x.wC x.wH w1 HL.out.w.1 HL.out.w.2 (Hw.out _ q1).1 (Hw.out _ q1).2) ?_
   rintro e w2 ⟨v2, u2, rfl, o2, d2⟩
   obtain ⟨a2, c2, rfl⟩ := ownsRow_slice o2.row
   refine ⟨_, rfl, ?_⟩
   have q2 : Below W2.heap.size W2 w2 := q1.trans (d2.mono q1.size)
   have b2 := NB.out.below q2
   refine hK.out _ _ (fun _ => ⟨b2.1, b2.2.2.1, b2.2.2.2⟩) ?_
   clear hHeld
   have hHeld : (fun w' => w'.cell? ⟨w.heap.size, 0, none⟩ = some (.slice x.pa x.pn x.pc) ∧ w'.cell? ⟨w.heap.size, 2, none⟩ = some (.slice x.wa x.wn x.wc) ∧ w'.cell? ⟨w.heap.size, 3, none⟩ = some (.slice x.ha x.hn x.hc)) w2 := ⟨b2.1, b2.2.2.1, b2.2.2.2⟩
   clear hK K
   (try simp only [Act.put, List.setIfInBounds_toArray, List.set_cons_zero, List.set_cons_succ])
   refine wpG_one 9 rfl (by kernel_rfl) (fun K hK => ?_)
   refine stepR_call rfl 94 _ _ rfl #[.slice x.ha x.hn x.hc] (by simp [Act.eval]) (run_enter Tryz.func94 (by kernel_rfl) rfl) (copyListsEvent_own x.ha x.hn x.hc x.hA x.hL x.hC x.hH w2 HL.out.h.1 HL.out.h.2 (Hh.out _ q2).1 (Hh.out _ q2).2) ?_
   rintro e w3 ⟨v3, u3, rfl, o3, d3⟩
   obtain ⟨a3, c3, rfl⟩ := ownsRow_slice o3.row
   refine ⟨_, rfl, ?_⟩
   have q3 : Below W2.heap.size W2 w3 := q2.trans (d3.mono q2.size)
   have b3 := NB.out.below q3
   refine hK.out _ _ (fun _ => ⟨b3.1, b3.2.2.1, b3.2.2.2⟩) ?_
   clear hHeld
   have hHeld : (fun w' => w'.cell? ⟨w.heap.size, 0, none⟩ = some (.slice x.pa x.pn x.pc) ∧ w'.cell? ⟨w.heap.size, 2, none⟩ = some (.slice x.wa x.wn x.wc) ∧ w'.cell? ⟨w.heap.size, 3, none⟩ = some (.slice x.ha x.hn x.hc)) w3 := ⟨b3.1, b3.2.2.1, b3.2.2.2⟩
   clear hK K
   (try simp only [Act.put, List.setIfInBounds_toArray, List.set_cons_zero, List.set_cons_succ])
   refine wpG_take 10 rfl hHeld ?_
   apply Exists.intro
   refine ⟨fun wq hSw => ?_, ?_⟩
   ·(try dsimp only at hSw)
    go_simp
    try with_reducible rfl
   (try simp only [Act.put, List.setIfInBounds_toArray, List.set_cons_zero, List.set_cons_succ])
   obtain ⟨r0, r1, r2, r3⟩ := RB.out.1.below q3
   have rf : ∀ j, w3.frozen? ⟨w.heap.size + 1, j, none⟩ = false := fun j => ((bcell q3).2 _ j hl1).trans (RB.out.2 j)
   refine wpG_one 11 rfl (by kernel_rfl) (fun K hK => ?_)
   go_simp
   refine hK.out _ _ (fun h => ?_) ?_
   ·exact absurd h (by decide)
   clear hK K
   (try simp only [Act.put])
   refine wpG_done (by kernel_rfl) ?_ _
   go_wp2
   refine bodyPost_ret (v := sysV a1 x.pn c1 sa x.sn sc a2 x.wn c2 a3 x.hn c3) (by simp [results, Tryz.results49, go_sem, r0, r1, r2, r3]) rfl ⟨_, rfl, ?_, ?_⟩
   ·obtain ⟨cc, hcc⟩ := OwnS.four (B := w.heap.size) (m1 := W2.heap.size) (wf := (((w3.setCell ⟨w.heap.size + 1, 0, none⟩ (.slice a1 x.pn c1)).setCell ⟨w.heap.size + 1, 1, none⟩ (.slice sa x.sn sc)).setCell ⟨w.heap.size + 1, 2, none⟩ (.slice a2 x.wn c2)).setCell ⟨w.heap.size + 1, 3, none⟩ (.slice a3 x.hn c3)) (y := x.y) (by have : W2.heap.size ≤ wr.heap.size := q0.size; omega) (by simp) (Nat.le_refl _) (Nat.le_refl _) (by omega) oz o1 o2 o3 ((Below.refl wr.heap.size wr).drew.trans d1) d2 d3 (fun k h1 h2 => by repeat (rw [Below.heap_setCell _ _ _ _ (show k ≠ w.heap.size + 1 by omega)]))
    exact ⟨cc, _, _, _, _, _, _, _, _, rfl, hcc⟩
   ·have h9 := BW.out.trans (q3.mono BW.out.size)
    exact (((h9.setCell (show w.heap.size ≤ w.heap.size + 1 by omega) _).setCell (show w.heap.size ≤ w.heap.size + 1 by omega) _).setCell (show w.heap.size ≤ w.heap.size + 1 by omega) _).setCell (show w.heap.size ≤ w.heap.size + 1 by omega) _
end Go.Proofs.YtdigofhceahpdaaGreatDoor
