/- errors.As, where the error is a misfit. -/
import Derived.Test.YtbleeedbiipfnaaGreatDoorHc0
import Derived.Test.YtbleeedbiipfnaaGreatDoorHc30
import Derived.Test.YtbleeedbiipfnaaGreatDoorHc27
import Derived.Lib.QuietBelow
import Derived.Test.YtbleeedbiipfnaaGreatDoorHc29
import Derived.LaidEql
import Derived.Stop.Asserts
import Derived.RowKitTokens
namespace Go.Proofs.YtbleeedbiipfnaaGreatDoor
set_option maxRecDepth 100000
set_option maxHeartbeats 2000000
open Go.ChangeShapes Go.WideShapes Go.ChangeAt Go.RowKit Go.Deep Go.Sort
theorem list_of_zi {xs ys : List Int} (hl : xs.length = ys.length) (h : ∀ j, j < xs.length → zi xs j = zi ys j) : xs = ys := by
 refine List.ext_getElem hl fun i h1 h2 => ?_
 have := h i h1
 simpa [zi, List.getD_eq_getElem?_getD, List.getElem?_eq_getElem h1, List.getElem?_eq_getElem h2] using this
theorem equal_any (a0 a1 : Option Addr) (c0 c1 : Nat) (xs ys : List Int) (w : World) (hx : xs.length ≤ 1048576) (hy : ys.length ≤ 1048576) (h0 : Sl w a0 xs) (h1 : Sl w a1 ys) :
  Calls Tryz.prog 114 #[.slice a0 xs.length c0, .slice a1 ys.length c1] w fun e w' => e = .returned (.bool (xs == ys)) ∧ Below w.heap.size w w' := by
 have hl' : (xs.length : Int) ≤ 1048576 := by omega
 have hl2 : (ys.length : Int) ≤ 1048576 := by omega
 by_cases hl : xs.length = ys.length
 ·have H0 : Hid (Sl w a0 xs) := h0
  have H1 : Hid (Sl w a1 ys) := h1
  have HL : Hid (xs.length = ys.length) := hl
  rw [← hl]
  clear h0 h1 hl hy hl2
  go_enter Tryz.func114, Tryz.ntmps114
  go_wp2_with fail
  go_loopw [13] (fun i wr => ∃ k : Nat, k ≤ xs.length ∧ i = .int .i64 k ∧ Below w.heap.size w wr ∧ Hid (∀ j, j < k → zi xs j = zi ys j)) (fun i _ => xs.length - (intOf i).toNat)
  case atStart => exact ⟨0, Nat.zero_le _, rfl, Below.refl _ _, fun j hj => by omega⟩
  case round =>
   obtain ⟨k, hk, rfl, hbw, HZ⟩ := hrel
   by_cases hlt : k < xs.length
   ·have hlt2 : k < ys.length := by have := HL.out; omega
    obtain ⟨b, off, rfl, hbl, ck⟩ := (H0.out.below hbw).at hlt
    obtain ⟨b', off', rfl, hbl', ck'⟩ := (H1.out.below hbw).at hlt2
    have hlt' : (k : Int) < (xs.length : Int) := by omega
    clear hlt2
    rcases Bool.eq_false_or_eq_true (zi xs k != zi ys k) with t | t
    ·have HN : Hid ((xs == ys) = false) := by
      show (xs == ys) = false
      rw [beq_eq_false_iff_ne]
      intro e
      rw [e] at t
      simp at t
     go_wp2_with fail
     go_quiet (fail)
     go_wp2
     go_ret
     rw [HN.out]
     exact ⟨rfl, below_drewN hbw _⟩
    ·have HZ' : Hid (∀ j, j < k + 1 → zi xs j = zi ys j) := fun j hj => by
      by_cases e : j = k
      ·subst e
       simpa using t
      ·exact HZ.out j (by omega)
     clear HZ
     go_wp2_with fail
     go_quiet (fail)
     go_wp2
     go_roundw
     case rel => exact ⟨k + 1, by omega, by go_num, below_drewN hbw _, HZ'.out⟩
     case measure => simp [intOf]; omega
   ·have HE : Hid ((xs == ys) = true) := by
     show (xs == ys) = true
     rw [beq_iff_eq]
     exact list_of_zi HL.out fun j hj => HZ.out j (by omega)
    clear HZ
    go_wp2
    go_ret
    rw [HE.out]
    exact ⟨rfl, hbw⟩
 ·have hne : ((xs.length : Int) != (ys.length : Int)) = true := by simp; omega
  have HN : Hid ((xs == ys) = false) := by
   show (xs == ys) = false
   rw [beq_eq_false_iff_ne]
   intro e
   exact hl (by rw [e])
  clear h0 h1 hl
  go_enter Tryz.func114, Tryz.ntmps114
  go_wp2
  go_ret
  rw [HN.out]
  exact ⟨rfl, Below.refl _ _⟩
def eqS (S T : S4) : Bool := (S.p == T.p) && (S.c == T.c) && (S.rs == T.rs) && (S.os == T.os)
theorem eqS_iff {S T : S4} : eqS S T = true ↔ S = T := by
 obtain ⟨a, b, c, d⟩ := S
 obtain ⟨a', b', c', d'⟩ := T
 simp only [eqS, Bool.and_eq_true, beq_iff_eq, S4.mk.injEq]
 exact ⟨fun ⟨⟨⟨h1, h2⟩, h3⟩, h4⟩ => ⟨h1, h3, h4, h2⟩, fun ⟨h1, h3, h4, h2⟩ => ⟨⟨⟨h1, h2⟩, h3⟩, h4⟩⟩
theorem implSameState_any (S T : S4) (ra oa ra' oa' : Option Addr) (rc oc rc' oc' : Nat) (w : World) (l1 : S.rs.length ≤ 1048576) (l2 : S.os.length ≤ 1048576) (l3 : T.rs.length ≤ 1048576) (l4 : T.os.length ≤ 1048576) (h1 : Sl w ra S.rs) (h2 : Sl w oa S.os) (h3 : Sl w ra' T.rs) (h4 : Sl w oa' T.os) :
  Calls Tryz.prog 112 #[stV S.p ra S.rs.length rc oa S.os.length oc S.c, stV T.p ra' T.rs.length rc' oa' T.os.length oc' T.c] w fun e w' => e = .returned (.bool (eqS S T)) ∧ Below w.heap.size w w' := by
 have H1 : Hid (Sl w ra S.rs ∧ Sl w ra' T.rs) := ⟨h1, h3⟩
 have H2 : Hid (Sl w oa S.os ∧ Sl w oa' T.os) := ⟨h2, h4⟩
 clear h1 h2 h3 h4
 rcases Bool.eq_false_or_eq_true (S.p == T.p) with t1 | t1
 case inr =>
  have HE : Hid (eqS S T = false) := by
   show eqS S T = false
   simp [eqS, t1]
  go_enter Tryz.func112, Tryz.ntmps112
  go_wp2
  go_ret
  rw [HE.out]
  exact ⟨rfl, by go_grown⟩
 rcases Bool.eq_false_or_eq_true (S.c == T.c) with t2 | t2
 case inr =>
  have HE : Hid (eqS S T = false) := by
   show eqS S T = false
   simp [eqS, t2]
  go_enter Tryz.func112, Tryz.ntmps112
  go_wp2
  go_ret
  rw [HE.out]
  exact ⟨rfl, by go_grown⟩
 rcases Bool.eq_false_or_eq_true (S.rs == T.rs) with t3 | t3
 case inr =>
  have HE : Hid (eqS S T = false) := by
   show eqS S T = false
   simp [eqS, t3]
  have T3 : Hid ((S.rs == T.rs) = false) := t3
  clear t3
  go_enter Tryz.func112, Tryz.ntmps112
  go_wp2_with fail
  refine (equal_any _ _ _ _ _ _ _ l1 l3 (H1.out.1.below (by go_grown)) (H1.out.2.below (by go_grown))).mono ?_
  rintro e w1 ⟨rfl, b1⟩
  rw [T3.out]
  have B1 : Hid (Below w.heap.size w w1) := below_up (by go_grown) b1 (by simp; omega)
  clear b1
  go_wp2
  go_ret
  rw [HE.out]
  exact ⟨rfl, B1.out⟩
 have HE : Hid (eqS S T = (S.os == T.os)) := by
  show eqS S T = (S.os == T.os)
  simp [eqS, t1, t2, t3]
 have T3 : Hid ((S.rs == T.rs) = true) := t3
 clear t3
 go_enter Tryz.func112, Tryz.ntmps112
 go_wp2_with fail
 refine (equal_any _ _ _ _ _ _ _ l1 l3 (H1.out.1.below (by go_grown)) (H1.out.2.below (by go_grown))).mono ?_
 rintro e w1 ⟨rfl, b1⟩
 rw [T3.out]
 have B1 : Hid (Below w.heap.size w w1) := below_up (by go_grown) b1 (by simp; omega)
 obtain ⟨hc1, hf1⟩ := bcell b1
 clear b1
 go_wp2_with fail
 refine (equal_any _ _ _ _ _ _ _ l2 l4 (H2.out.1.below B1.out) (H2.out.2.below B1.out)).mono ?_
 rintro e w2 ⟨rfl, b2⟩
 have B2 : Hid (Below w.heap.size w w2) := B1.out.trans (b2.mono B1.out.size)
 clear b2 hc1 hf1
 go_wp2
 go_ret
 rw [HE.out]
 exact ⟨rfl, B2.out⟩
theorem itemOk_any (m : Bool) (v : Int) (w : World) :
  Calls Tryz.prog 171 #[itV m v] w fun e w' => e = .returned (.bool (itemB ⟨m, v⟩)) ∧ Below w.heap.size w w' := by
 rcases Bool.eq_false_or_eq_true m with rfl | rfl
 ·have HE : Hid (itemB ⟨true, v⟩ = (v == 0)) := by
   show itemB ⟨true, v⟩ = (v == 0)
   simp only [itemB, Bool.not_true, Bool.false_or]
   by_cases e : v = 0
   ·subst e
    rfl
   ·have : (v == 0) = false := by simpa using e
    rw [this, Bool.and_false]
  go_enter Tryz.func171, Tryz.ntmps171
  go_wp2
  go_ret
  rw [HE.out]
  exact ⟨rfl, by go_grown⟩
 ·have HE : Hid (itemB ⟨false, v⟩ = inB v (-1000000000) 1000000000) := by
   show itemB ⟨false, v⟩ = inB v (-1000000000) 1000000000
   simp [itemB, numB]
  go_enter Tryz.func171, Tryz.ntmps171
  go_wp2_with fail
  refine (isNum_any _ _).mono ?_
  rintro e w1 ⟨rfl, rfl⟩
  go_wp2
  go_ret
  rw [HE.out]
  exact ⟨rfl, by go_grown⟩
def itemsB (h : Nat → I2) (n : Nat) : Bool := (List.range n).all fun i => itemB (h i)
theorem itemsB_iff {h : Nat → I2} {n : Nat} : itemsB h n = true ↔ ∀ i, i < n → itemB (h i) = true := by
 simp [itemsB]
theorem itemsB_no {h : Nat → I2} {n k : Nat} (hk : k < n) (hf : itemB (h k) = false) : itemsB h n = false := by
 rcases Bool.eq_false_or_eq_true (itemsB h n) with t | t
 ·have := itemsB_iff.1 t k hk
  rw [hf] at this
  cases this
 ·exact t
theorem wayOk_any (a : Option Addr) (len cap : Nat) (h : Nat → I2) (w : World) (hlen : len ≤ 1048576) (hc : ItL w a len h) :
  Calls Tryz.prog 113 #[.slice a len cap] w fun e w' => e = .returned (.bool (decide (len ≤ 12) && itemsB h len)) ∧ Below w.heap.size w w' := by
 have hl' : (len : Int) ≤ 1048576 := by omega
 have HC : Hid (ItL w a len h) := hc
 clear hc
 by_cases h12 : len ≤ 12
 case neg =>
  have h12' : (12 : Int) < (len : Int) := by omega
  have HE : Hid ((decide (len ≤ 12) && itemsB h len) = false) := by
   show (decide (len ≤ 12) && itemsB h len) = false
   simp [h12]
  go_enter Tryz.func113, Tryz.ntmps113
  go_wp2
  go_ret
  rw [HE.out]
  exact ⟨rfl, Below.refl _ _⟩
 have h12' : ¬ (12 : Int) < (len : Int) := by omega
 have HE : Hid ((decide (len ≤ 12) && itemsB h len) = itemsB h len) := by
  show (decide (len ≤ 12) && itemsB h len) = itemsB h len
  simp [h12]
 clear h12
 go_enter Tryz.func113, Tryz.ntmps113
 go_wp2_with fail
 go_loopw [10] (fun i wr => ∃ k : Nat, k ≤ len ∧ i = .int .i64 k ∧ Below w.heap.size w wr ∧ Hid (∀ j, j < k → itemB (h j) = true)) (fun i _ => len - (intOf i).toNat)
 case atStart => exact ⟨0, Nat.zero_le _, rfl, Below.refl _ _, fun j hj => by omega⟩
 case round =>
  obtain ⟨k, hk, rfl, hbw, HZ⟩ := hrel
  by_cases hlt : k < len
  ·have hlt' : (k : Int) < (len : Int) := by omega
   obtain ⟨b, off, rfl, -, c0, c1⟩ := (HC.out.below hbw).at hlt
   go_wp2_with fail
   refine (itemOk_any _ _ _).mono ?_
   rintro e w1 ⟨rfl, b1⟩
   have B1 : Hid (Below w.heap.size w w1) := hbw.trans (((below_alloc wr _).trans (b1.mono (by simp))).mono hbw.size)
   clear b1
   rcases Bool.eq_false_or_eq_true (itemB (h k)) with t | t
   ·have HZ' : Hid (∀ j, j < k + 1 → itemB (h j) = true) := fun j hj => by
     by_cases e : j = k
     ·subst e
      exact t
     ·exact HZ.out j (by omega)
    rw [show itemB { m := (h k).m, v := (h k).v } = true from t]
    clear HZ t
    go_wp2
    go_roundw
    case rel => exact ⟨k + 1, by omega, by go_num, B1.out, HZ'.out⟩
    case measure => simp [intOf]; omega
   ·have HN : Hid (itemsB h len = false) := itemsB_no hlt t
    rw [show itemB { m := (h k).m, v := (h k).v } = false from t]
    clear HZ t
    go_wp2
    go_ret
    rw [HE.out, HN.out]
    exact ⟨rfl, B1.out⟩
  ·have HN : Hid (itemsB h len = true) := itemsB_iff.2 fun j hj => HZ.out j (by omega)
   clear HZ
   go_wp2
   go_ret
   rw [HE.out, HN.out]
   exact ⟨rfl, hbw⟩
open Go.RowKit Go.Extern.Stop Go.Stop Go.Extern
theorem as_nil (t : Value) (w : World) :
  Calls Tryz.prog 170 #[.nilIface, t] w fun e w' => e = .returned (.bool false) ∧ w' = w := by
 go_enter Tryz.func170, Tryz.ntmps170
 go_wp2
 go_ret
 exact ⟨rfl, rfl⟩
theorem valueOfT (t : Addr) (w : World) : (ReflectliteValue.unpack (.iface 190 (.pointer (some t)))).run Tryz.prog w
  = .ok (.agg #[.pointer (some ⟨1, 190, none⟩), .pointer (some ⟨w.heap.size, 0, none⟩), .int .u64 150]) (w.alloc (.cells #[.pointer (some t)] 190)) := by kernel_rfl
theorem typeT (a : Addr) (w : World) : (ReflectliteValue.methodAny (ReflectliteValue.valueError "reflectlite.Value.Type" 0) (fun t _ _ _ => ReflectliteType.toType t) #[.agg #[.pointer (some ⟨1, 190, none⟩), .pointer (some a), .int .u64 150]]).run Tryz.prog w
  = .ok (.iface 269 (.agg #[.pointer (some ⟨1, 190, none⟩)])) w := by kernel_rfl
theorem kindT (w : World) : ((ReflectliteType.abiMethod fun t => (fun a : Nat => Value.int IntKind.u8 (a : Int)) <$> Rtype.kind t) #[.pointer (some ⟨1, 190, none⟩)]).run Tryz.prog w = .ok (.int .u8 22) w := by kernel_rfl
theorem kindE (w : World) : ((ReflectliteType.abiMethod fun t => (fun a : Nat => Value.int IntKind.u8 (a : Int)) <$> Rtype.kind t) #[.pointer (some ⟨1, 188, none⟩)]).run Tryz.prog w = .ok (.int .u8 25) w := by kernel_rfl
theorem rlm (z : Sem Value) (f : TypeId → Addr → Nat → Nat → Sem Value) (v : Value) :
  ReflectliteValue.method z f #[v] = (do match ← ReflectliteValue.parts v with | none => z | some (t, a, fl) => f t a fl (fl % 32)) := rfl
theorem partsT (a : Addr) (w : World) : (ReflectliteValue.parts (.agg #[.pointer (some ⟨1, 190, none⟩), .pointer (some a), .int .u64 150])).run Tryz.prog w = .ok (some (190, a, 150)) w := by kernel_rfl
theorem isNilT (a p : Addr) (W : World) (ha : W.cell? a = some (.pointer (some p))) :
  (ReflectliteValue.method (ReflectliteValue.valueError "reflectlite.Value.IsNil" 0) ReflectliteValue.isNil #[.agg #[.pointer (some ⟨1, 190, none⟩), .pointer (some a), .int .u64 150]]).run Tryz.prog W = .ok (.bool false) W := by
 rw [rlm]
 simp only [Sem.run_bind, partsT, Result.andThen]
 simp [ReflectliteValue.isNil, loadVar, isAgg, underlying, Tryz.underlying190, ha, Result.andThen]
theorem elemT (w : World) : (ReflectliteType.method ReflectliteType.elem #[.agg #[.pointer (some ⟨1, 190, none⟩)]]).run Tryz.prog w = .ok (.iface 269 (.agg #[.pointer (some ⟨1, 188, none⟩)])) w := by kernel_rfl
theorem implementsE (w : World) : (ReflectliteType.relation "Implements" ReflectliteType.implements_ #[.agg #[.pointer (some ⟨1, 188, none⟩)], .iface 269 (.agg #[.pointer (some ⟨1, 184, none⟩)])]).run Tryz.prog w = .ok (.bool true) w := by kernel_rfl
theorem typeOfE (v : Value) (w : World) : (ReflectliteType.typeOf #[.iface 188 v]).run Tryz.prog w = .ok (.iface 269 (.agg #[.pointer (some ⟨1, 188, none⟩)])) w := by kernel_rfl
theorem assignableE (w : World) : (ReflectliteType.relation "AssignableTo" ReflectliteType.assignableTo #[.agg #[.pointer (some ⟨1, 188, none⟩)], .iface 269 (.agg #[.pointer (some ⟨1, 188, none⟩)])]).run Tryz.prog w = .ok (.bool true) w := by kernel_rfl
theorem valueOfE (x : Int) (w : World) : (ReflectliteValue.unpack (.iface 188 (.agg #[.int .i64 x]))).run Tryz.prog w
  = .ok (.agg #[.pointer (some ⟨1, 188, none⟩), .pointer (some ⟨w.heap.size, 0, none⟩), .int .u64 153]) (w.alloc (.cells #[.int .i64 x] 188)) := by kernel_rfl
theorem elemOfT (w : World) : (Rtype.elem? 190).run Tryz.prog w = .ok (some 188) w := by kernel_rfl
theorem mkE (p : Addr) (w : World) : (ReflectliteValue.mk 188 p ReflectliteValue.flagAddr).run Tryz.prog w = .ok (.agg #[.pointer (some ⟨1, 188, none⟩), .pointer (some p), .int .u64 409]) w := by kernel_rfl
open Go.RowKit Go.Extern.Stop Go.Stop Go.Extern
theorem elemVT (a p : Addr) (W : World) (ha : W.cell? a = some (.pointer (some p))) :
  (ReflectliteValue.method (ReflectliteValue.valueError "reflectlite.Value.Elem" 0) ReflectliteValue.elem #[.agg #[.pointer (some ⟨1, 190, none⟩), .pointer (some a), .int .u64 150]]).run Tryz.prog W
   = .ok (.agg #[.pointer (some ⟨1, 188, none⟩), .pointer (some p), .int .u64 409]) W := by
 rw [rlm]
 simp only [Sem.run_bind, partsT, Result.andThen]
 simp [ReflectliteValue.elem, loadVar, isAgg, underlying, Tryz.underlying190, ha, Result.andThen, elemOfT, mkE]
theorem rls (v x : Value) : ReflectliteValue.set #[v, x] = (do
  let (some (dst, a, fl), some (src, b, _)) := (← ReflectliteValue.parts v, ← ReflectliteValue.parts x)
   | unsupported (.noEntry "extern/(internal/reflectlite.Value).Set.zeroValue")
  if fl / ReflectliteValue.flagAddr % 2 == 0 then unsupported (.noEntry "extern/(internal/reflectlite.Value).Set.unaddressable")
  let val ← loadVar src b
  if ← Rtype.directlyAssignable dst src then storeVar dst a val
  else if ← Rtype.implements dst src then
   if (← Rtype.kind src) == 20 then
    match val with
    | .nilIface => unsupported (.noEntry "extern/reflectlite: a nil value of one interface type handed on as a value of another")
    | _ => storeVar dst a val
   else storeVar dst a (.iface src val)
  else panicString ("reflectlite.Set: value of type " ++ (← Rtype.spelt src) ++ " is not assignable to type " ++ (← Rtype.spelt dst))
  pure (.tuple #[])) := rfl
theorem partsEa (a : Addr) (w : World) : (ReflectliteValue.parts (.agg #[.pointer (some ⟨1, 188, none⟩), .pointer (some a), .int .u64 409])).run Tryz.prog w = .ok (some (188, a, 409)) w := by kernel_rfl
theorem partsE (a : Addr) (w : World) : (ReflectliteValue.parts (.agg #[.pointer (some ⟨1, 188, none⟩), .pointer (some a), .int .u64 153])).run Tryz.prog w = .ok (some (188, a, 153)) w := by kernel_rfl
theorem directE (w : World) : (Rtype.directlyAssignable 188 188).run Tryz.prog w = .ok true w := by kernel_rfl
theorem setE (ta b : Addr) (x : Int) (old : Value) (W : World) (hb : W.cell? b = some (.int .i64 x)) (ht : W.cell? ta = some old) (hf : W.frozen? ta = false) :
  (ReflectliteValue.set #[.agg #[.pointer (some ⟨1, 188, none⟩), .pointer (some ta), .int .u64 409], .agg #[.pointer (some ⟨1, 188, none⟩), .pointer (some b), .int .u64 153]]).run Tryz.prog W
   = .ok (.tuple #[]) (W.setCell ta (.int .i64 x)) := by
 rw [rls]
 simp only [Sem.run_bind, partsEa, partsE, Result.andThen]
 simp [ReflectliteValue.flagAddr, loadVar, loadCells, loadCellsFrom, hb, Result.andThen, directE, storeVar, Value.cells, storeCells, Addr.add]
 rw [run_store Tryz.prog W ta _ _ (by rfl)]
 simp [ht, hf]
end Go.Proofs.YtbleeedbiipfnaaGreatDoor
