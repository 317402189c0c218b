/- Marks on a system of one's own, and that they are held. -/
import Derived.Test.YtdigofhceahpdaaGreatDoorNc0
import Derived.Test.YtdigofhceahpdaaGreatDoorNc37
import Derived.Test.YtdigofhceahpdaaGreatDoorNc40
import Derived.Test.YtdigofhceahpdaaGreatDoorNc34
import Derived.Test.YtdigofhceahpdaaGreatDoorNc32
namespace Go.Proofs.YtdigofhceahpdaaGreatDoor
set_option maxRecDepth 100000
set_option maxHeartbeats 2000000
open Go.RowKit Go.Extern.Stop Go.Stop Go.Extern
theorem elemVT (a p : Addr) (W : World) (ha : W.cell? a = some (.pointer (some p))) :
  (ReflectliteValue.method (ReflectliteValue.valueError "reflectlite.Value.Elem" 0) ReflectliteValue.elem #[.agg #[.pointer (some ⟨1, 191, none⟩), .pointer (some a), .int .u64 150]]).run Tryz.prog W
   = .ok (.agg #[.pointer (some ⟨1, 189, none⟩), .pointer (some p), .int .u64 409]) W := by
 rw [rlm]
 simp only [Sem.run_bind, partsT, Result.andThen]
 simp [ReflectliteValue.elem, loadVar, isAgg, underlying, Tryz.underlying191, ha, Result.andThen, elemOfT, mkE]
theorem rls (v x : Value) : ReflectliteValue.set #[v, x] = (do
  let (some (dst, a, fl), some (src, b, _)) := (← ReflectliteValue.parts v, ← ReflectliteValue.parts x)
   | unsupported (.noEntry "extern/(internal/reflectlite.Value).Set.zeroValue")
  if fl / ReflectliteValue.flagAddr % 2 == 0 then unsupported (.noEntry "extern/(internal/reflectlite.Value).Set.unaddressable")
  let val ← loadVar src b
  if ← Rtype.directlyAssignable dst src then storeVar dst a val
  else if ← Rtype.implements dst src then
   if (← Rtype.kind src) == 20 then
    match val with
    | .nilIface => unsupported (.noEntry "extern/reflectlite: a nil value of one interface type handed on as a value of another")
    | _ => storeVar dst a val
   else storeVar dst a (.iface src val)
  else panicString ("reflectlite.Set: value of type " ++ (← Rtype.spelt src) ++ " is not assignable to type " ++ (← Rtype.spelt dst))
  pure (.tuple #[])) := rfl
theorem partsEa (a : Addr) (w : World) : (ReflectliteValue.parts (.agg #[.pointer (some ⟨1, 189, none⟩), .pointer (some a), .int .u64 409])).run Tryz.prog w = .ok (some (189, a, 409)) w := by kernel_rfl
theorem partsE (a : Addr) (w : World) : (ReflectliteValue.parts (.agg #[.pointer (some ⟨1, 189, none⟩), .pointer (some a), .int .u64 153])).run Tryz.prog w = .ok (some (189, a, 153)) w := by kernel_rfl
theorem directE (w : World) : (Rtype.directlyAssignable 189 189).run Tryz.prog w = .ok true w := by kernel_rfl
theorem setE (ta b : Addr) (x : Int) (old : Value) (W : World) (hb : W.cell? b = some (.int .i64 x)) (ht : W.cell? ta = some old) (hf : W.frozen? ta = false) :
  (ReflectliteValue.set #[.agg #[.pointer (some ⟨1, 189, none⟩), .pointer (some ta), .int .u64 409], .agg #[.pointer (some ⟨1, 189, none⟩), .pointer (some b), .int .u64 153]]).run Tryz.prog W
   = .ok (.tuple #[]) (W.setCell ta (.int .i64 x)) := by
 rw [rls]
 simp only [Sem.run_bind, partsEa, partsE, Result.andThen]
 simp [ReflectliteValue.flagAddr, loadVar, loadCells, loadCellsFrom, hb, Result.andThen, directE, storeVar, Value.cells, storeCells, Addr.add]
 rw [run_store Tryz.prog W ta _ _ (by rfl)]
 simp [ht, hf]
open Go.ChangeShapes Go.WideShapes Go.ChangeAt Go.RowKit Go.Deep
section
variable {e : TypeId} {sz : Nat} {E : TypeId} {w : World} {P : Nat → Prop} {v : Value} {n : Nat} {u : Nat → Value} {L : Nat → Nat} {c : Nat → List Value}
theorem LL.remark (o : LL e sz E w P v n u L c) {i : Nat} (hi : i < n) {w1 : World} {c' : List Value} (hu : w1.ownsRow 0 e sz (u i) (L i) c') (g : ∀ k, k < w.heap.size → (u i).ownBlock ≠ some k → w1.heap[k]? = w.heap[k]?) : LL e sz E w1 P v n u L (fun j => if j = i then c' else c j) := by
 refine ⟨ownsRow_blkL o.row fun k hk => g k (o.row.lt k hk).2 fun e => o.ra i hi k e hk, fun j hj => ?_, o.rb, o.ob, o.ra, o.oa, o.nn⟩
 by_cases ej : j = i
 ·subst ej
  simp only [if_true]
  exact hu
 ·simp only [if_neg ej]
  exact ownsRow_blkL (o.own j hj) fun k hk => g k ((o.own j hj).lt k hk).2 fun e => o.oa j i hj hi ej k hk e
theorem LL.cast (o : LL e sz E w P v n u L c) {c' : Nat → List Value} (h : ∀ i, i < n → c i = c' i) : LL e sz E w P v n u L c' :=
 ⟨o.row, fun i hi => by rw [← h i hi]; exact o.own i hi, o.rb, o.ob, o.ra, o.oa, o.nn⟩
end
theorem markInsSS_own (v : Value) (P : Nat → Prop) (n : Nat) (u : Nat → Value) (L : Nat → Nat) (H : Nat → Nat → I5) (k : Int) (w : World) (hn : n ≤ 1048576) (hl : sumL L n ≤ 1048576) (k0 : 0 ≤ k) (k1 : k ≤ 50000000) (o : LI w P v n u L H) :
  Calls Tryz.prog 12 #[v, .int .i64 k] w fun e w' => e = .returned (.int .i64 (k + 5 * (sumL L n : Nat))) ∧ LI w' P v n u L (fun i => mkI (k + 5 * (sumL L i : Nat))) ∧ Touch P w w' := by
 have hl' : (n : Int) ≤ 1048576 := by omega
 obtain ⟨a1, c1, rfl⟩ := ownsRow_slice o.row
 have O : Hid (LI w P (.slice a1 n c1) n u L H) := o
 have HL : Hid (sumL L n ≤ 1048576) := hl
 clear o hl
 go_enter Tryz.func12, Tryz.ntmps12
 go_wp2_with fail
 go_loopw [1, 5] (fun q i wr => ∃ j : Nat, j ≤ n ∧ i = .int .i64 j ∧ q = .int .i64 (k + 5 * (sumL L j : Nat)) ∧ Hid (LL 60 5 57 wr P (.slice a1 n c1) n u L (fun t => fI (if t < j then mkI (k + 5 * (sumL L t : Nat)) else H t) (L t)) ∧ Touch P w wr)) (fun _ i _ => n - (intOf i).toNat)
 case atStart => exact ⟨0, Nat.zero_le _, rfl, by simp [sumL], O.out.cast fun i _ => by rw [if_neg (by omega)], Touch.refl _ _⟩
 case round =>
  obtain ⟨j, hj, rfl, rfl, HT⟩ := hrel
  by_cases hlt : j < n
  ·have hlt' : (j : Int) < (n : Int) := by omega
   obtain ⟨g1, m1, e1, -, -, ck, -⟩ := HT.out.1.cell hlt
   obtain rfl := slice_form e1
   have how := HT.out.1.own j hlt
   rw [if_neg (by omega)] at how
   obtain ⟨b, m, f1, lb, -, -⟩ := atI how (HT.out.1.nn j hlt)
   rw [f1] at ck how
   have OW : Hid (wr.ownsRow 0 60 5 (.slice (some ⟨b, 0, none⟩) (L j) m) (L j) (fI (H j) (L j))) := how
   have HU : Hid (u j = .slice (some ⟨b, 0, none⟩) (L j) m) := f1
   have hsl := sumL_at L hlt
   have hS := HL.out
   have e1' : k + 5 * (sumL L j : Nat) + 5 * (L j : Int) = k + 5 * (sumL L (j + 1) : Nat) := by simp only [sumL]; omega
   have HE : Hid (k + 5 * (sumL L j : Nat) + 5 * (L j : Int) = k + 5 * (sumL L (j + 1) : Nat)) := e1'
   have e2 : 0 ≤ k + 5 * (sumL L j : Nat) := by omega
   have e3 : k + 5 * (sumL L j : Nat) ≤ 100000000 := by omega
   have e4 : L j ≤ 1048576 := by omega
   clear e1' hS hsl how f1 e1
   go_wp2_with fail
   refine (markInsS_own b (L j) m 0 (H j) _ wr e4 e2 e3 OW.out).mono ?_
   rintro e w1 ⟨rfl, g1', o1⟩
   rw [HE.out]
   have HT1 : Hid (LL 60 5 57 w1 P (.slice (some ⟨g1, 0, none⟩) n c1) n u L (fun t => fI (if t < j + 1 then mkI (k + 5 * (sumL L t : Nat)) else H t) (L t)) ∧ Touch P w w1) := by
    refine ⟨(HT.out.1.remark hlt (c' := fI (mkI (k + 5 * (sumL L j : Nat))) (L j)) (by rw [HU.out]; exact o1) fun q hq hne => g1'.block q hq fun e => hne (by rw [HU.out, e]; rfl)).cast fun t ht => ?_, HT.out.2.trans (Touch.of_grown g1' fun q e => HT.out.1.ob j hlt q (by rw [HU.out, ← e]; rfl))⟩
    by_cases et : t = j
    ·rw [if_pos et, if_pos (by omega), et]
    ·rw [if_neg et]
     by_cases e2 : t < j
     ·rw [if_pos e2, if_pos (by omega)]
     ·rw [if_neg e2, if_neg (by omega)]
   clear HT e2 e3 e4 g1' o1 ck
   go_wp2
   go_roundw
   case rel => exact ⟨j + 1, by omega, by go_num, rfl, HT1.out⟩
   case measure => simp [intOf]; omega
  ·have hkl : j = n := by omega
   subst hkl
   have HT1 : Hid (LI wr P (.slice a1 j c1) j u L (fun i => mkI (k + 5 * (sumL L i : Nat))) ∧ Touch P w wr) := ⟨HT.out.1.cast fun t ht => by rw [if_pos ht], HT.out.2⟩
   clear HT
   go_wp2
   go_ret
   exact ⟨rfl, HT1.out⟩
theorem heldInsSS_own (v : Value) (P : Nat → Prop) (n : Nat) (u : Nat → Value) (L : Nat → Nat) (k : Int) (w : World) (hn : n ≤ 1048576) (hl : sumL L n ≤ 1048576) (k0 : 0 ≤ k) (k1 : k ≤ 50000000) (o : LI w P v n u L (fun i => mkI (k + 5 * (sumL L i : Nat)))) :
  Calls Tryz.prog 37 #[v, .int .i64 k] w fun e w' => e = .returned (.int .i64 (k + 5 * (sumL L n : Nat))) ∧ Below w.heap.size w w' := by
 have hl' : (n : Int) ≤ 1048576 := by omega
 obtain ⟨a1, c1, rfl⟩ := ownsRow_slice o.row
 have O : Hid (LI w P (.slice a1 n c1) n u L (fun i => mkI (k + 5 * (sumL L i : Nat)))) := o
 have HL : Hid (sumL L n ≤ 1048576) := hl
 clear o hl
 go_enter Tryz.func37, Tryz.ntmps37
 go_wp2_with fail
 go_loopw [1, 5] (fun q i wr => ∃ j : Nat, j ≤ n ∧ i = .int .i64 j ∧ q = .int .i64 (k + 5 * (sumL L j : Nat)) ∧ Below w.heap.size w wr) (fun _ i _ => n - (intOf i).toNat)
 case atStart => exact ⟨0, Nat.zero_le _, rfl, by simp [sumL], Below.refl _ _⟩
 case round =>
  obtain ⟨j, hj, rfl, rfl, hbw⟩ := hrel
  by_cases hlt : j < n
  ·have hlt' : (j : Int) < (n : Int) := by omega
   have Q := O.out.below hbw
   obtain ⟨g1, m1, e1, -, -, ck, -⟩ := Q.cell hlt
   obtain rfl := slice_form e1
   obtain ⟨b, m, f1, lb, it, -⟩ := atI (Q.own j hlt) (Q.nn j hlt)
   rw [f1] at ck
   have IT : Hid (InsAt wr b 0 (L j) (mkI (k + 5 * (sumL L j : Nat))) ∧ b < wr.heap.size) := ⟨it, lb⟩
   have hsl := sumL_at L hlt
   have hS := HL.out
   have e1' : k + 5 * (sumL L j : Nat) + 5 * (L j : Int) = k + 5 * (sumL L (j + 1) : Nat) := by simp only [sumL]; omega
   have HE : Hid (k + 5 * (sumL L j : Nat) + 5 * (L j : Int) = k + 5 * (sumL L (j + 1) : Nat)) := e1'
   have e2 : 0 ≤ k + 5 * (sumL L j : Nat) := by omega
   have e3 : k + 5 * (sumL L j : Nat) ≤ 100000000 := by omega
   have e4 : L j ≤ 1048576 := by omega
   have e5 : ¬ (k + 5 * (sumL L (j + 1) : Nat) < 0) := by omega
   clear e1' hS hsl Q f1 it lb e1
   go_wp2_with fail
   refine (heldInsS_own b (L j) m _ wr e4 e2 e3 IT.out.2 IT.out.1).mono ?_
   rintro e w1 ⟨rfl, b1⟩
   rw [HE.out]
   have B1 : Hid (Below w.heap.size w w1) := hbw.trans (b1.mono hbw.size)
   clear b1 e2 e3 e4 ck hbw
   go_wp2
   go_roundw
   case rel => exact ⟨j + 1, by omega, by go_num, rfl, B1.out⟩
   case measure => simp [intOf]; omega
  ·have hkl : j = n := by omega
   subst hkl
   go_wp2
   go_ret
   exact ⟨rfl, hbw⟩
def mkS (x : Int) (s : S4) : S4 := ⟨x, marks (x + 1) s.rs.length, marks (x + 1 + s.rs.length) s.os.length, x + 1 + s.rs.length + s.os.length⟩
theorem flat_set14 {f : Nat → List Value} {n i : Nat} (hl : ∀ j, j < n → (f j).length = 4) (_hi : i < n) {a0 d0 b c : Value} (hf : f i = [a0, b, c, d0]) (a d : Value) :
  flat (fun j => if j = i then [a, b, c, d] else f j) n = ((flat f n).set (i * 4) a).set (i * 4 + 3) d := by
 have hl' : ∀ j, j < n → ((fun j => if j = i then [a, b, c, d] else f j) j).length = 4 := fun j hj => by
  by_cases e : j = i
  ·simp [e]
  ·simp [e, hl j hj]
 have n1 := flat_len hl
 have n2 := flat_len hl'
 apply List.ext_getElem?
 intro q
 by_cases hq : q < n * 4
 ·have hk : q / 4 < n := by omega
  have hr : q % 4 < 4 := by omega
  have e0 : q = q / 4 * 4 + q % 4 := by omega
  have e1 := flat_at hl' hk hr
  have e2 := flat_at hl hk hr
  rw [← e0] at e1 e2
  rw [e1]
  simp only [List.getElem?_set, List.length_set, n1]
  by_cases ei : q / 4 = i
  ·simp only [if_pos ei]
   rw [ei, hf] at e2
   have hrK : q % 4 = 0 ∨ q % 4 = 1 ∨ q % 4 = 2 ∨ q % 4 = 3 := by omega
   rcases hrK with h | h | h | h <;> rw [h] at e2 ⊢
   ·rw [if_neg (by omega), if_pos (by omega), if_pos (by omega)]
    simp
   ·rw [if_neg (by omega), if_neg (by omega), e2]
    simp
   ·rw [if_neg (by omega), if_neg (by omega), e2]
    simp
   ·rw [if_pos (by omega), if_pos (by omega)]
    simp
  ·simp only [if_neg ei]
   rw [if_neg (by omega), if_neg (by omega), e2]
 ·rw [List.getElem?_eq_none (by omega), List.getElem?_eq_none (by simp only [List.length_set]; omega)]
theorem LS.mark {w : World} {P : Nat → Prop} {n : Nat} {vs : Nat → Value} {S : Nat → S4} {g cap j : Nat} (o : LS w P (.slice (some ⟨g, 0, none⟩) n cap) n vs S) (hj : j < n) {p code : Int} {ra oa : Option Addr} {rn rc on oc : Nat} (hv : vs j = stV p ra rn rc oa on oc code) (X C : Int) {w1 w2 : World} {rs' os' : List Int}
  (g1 : (w.setCell ⟨g, j * 4, none⟩ (.int .i64 X)).grownBy w1 (Value.slice ra rn rc).ownBlock) (g2 : w1.grownBy w2 (Value.slice oa on oc).ownBlock) (r1 : OwnI w2 0 (.slice ra rn rc) rs') (r2 : OwnI w2 0 (.slice oa on oc) os') :
  LS (w2.setCell ⟨g, j * 4 + 3, none⟩ (.int .i64 C)) P (.slice (some ⟨g, 0, none⟩) n cap) n (fun t => if t = j then stV X ra rn rc oa on oc C else vs t) (fun t => if t = j then ⟨X, rs', os', C⟩ else S t) ∧ Touch P w (w2.setCell ⟨g, j * 4 + 3, none⟩ (.int .i64 C)) := by
 have hg : g < w.heap.size := (o.row.lt g rfl).2
 have hRb : ∀ k, (Value.slice ra rn rc).ownBlock = some k → hasBlock (vs j) k := fun k hk => by rw [hv]; exact (hasBlock_iff _ _ _ _ _).2 (.inl hk)
 have hOb : ∀ k, (Value.slice oa on oc).ownBlock = some k → hasBlock (vs j) k := fun k hk => by rw [hv]; exact (hasBlock_iff _ _ _ _ _).2 (.inr hk)
 have ng : ¬ hasBlock (vs j) g := fun h => o.ra j hj g h rfl
 have z1 : w.heap.size ≤ w1.heap.size := by have := g1.size; simpa using this
 have hkeep : ∀ k, k < w.heap.size → k ≠ g → ¬ hasBlock (vs j) k → w2.heap[k]? = w.heap[k]? := fun k hk hne hnb => (g2.block k (by omega) fun e => hnb (hOb k e.symm)).trans ((g1.block k (by simpa using hk) fun e => hnb (hRb k e.symm)).trans (Below.heap_setCell _ _ _ _ hne))
 have hgk : w2.heap[g]? = (w.setCell ⟨g, j * 4, none⟩ (.int .i64 X)).heap[g]? := (g2.block g (by omega) fun e => ng (hOb g e.symm)).trans (g1.block g (by simpa using hg) fun e => ng (hRb g e.symm))
 have lts : ∀ t, t < n → ∀ k, hasBlock (vs t) k → k < w.heap.size := fun t ht k hk => ((o.own t ht).lt hk).2
 have hl : ∀ t, t < n → (cellsL (vs t)).length = 4 := fun t ht => (o.own t ht).cellsL.1
 have hhb : ∀ k, hasBlock (stV X ra rn rc oa on oc C) k → hasBlock (vs j) k := fun k hk => by
  rcases (hasBlock_iff _ _ _ _ _).1 hk with h | h
  ·exact hRb k h
  ·exact hOb k h
 refine ⟨⟨?_, fun t ht => ?_, o.rb, fun t ht k hk => ?_, fun t ht k hk => ?_, fun a b ha hb hab k hk => ?_⟩, ?_⟩
 ·have e : flat (fun t => cellsL (if t = j then stV X ra rn rc oa on oc C else vs t)) n = flat (fun t => if t = j then [.int .i64 X, .slice ra rn rc, .slice oa on oc, .int .i64 C] else cellsL (vs t)) n := flat_congr fun t _ => by
   by_cases et : t = j
   ·rw [if_pos et, if_pos et]; rfl
   ·rw [if_neg et, if_neg et]
  rw [e, flat_set14 hl hj (by rw [hv]; rfl)]
  exact (World.ownsRow.stored (ownsRow_blkL (World.ownsRow.stored o.row (j * 4) (.int .i64 X)).1 fun k hk => by cases hk; exact hgk) _ _).1
 ·by_cases et : t = j
  ·subst et
   simp only [if_true]
   obtain ⟨vr, vo, ee, -, -, hap⟩ := o.own t hj
   rw [hv] at ee
   simp only [stV, Value.agg.injEq, Array.mk.injEq, List.cons.injEq, and_true] at ee
   obtain ⟨-, rfl, rfl, -⟩ := ee
   refine ⟨.slice ra rn rc, .slice oa on oc, rfl, r1.blk fun k hk => Below.heap_setCell _ _ _ _ fun (e : k = g) => ng (by rw [← e]; exact hRb k hk), r2.blk fun k hk => Below.heap_setCell _ _ _ _ fun (e : k = g) => ng (by rw [← e]; exact hOb k hk), hap⟩
  ·simp only [if_neg et]
   exact (o.own t ht).blk fun k hk => (Below.heap_setCell _ _ _ _ fun e => o.ra t ht k hk (by rw [e]; rfl)).trans (hkeep k (lts t ht k hk) (fun e => o.ra t ht k hk (by rw [e]; rfl)) fun h => o.oa t j ht hj et k hk h)
 ·by_cases et : t = j
  ·simp only [if_pos et] at hk
   exact o.ob j hj k (hhb k hk)
  ·simp only [if_neg et] at hk
   exact o.ob t ht k hk
 ·by_cases et : t = j
  ·simp only [if_pos et] at hk
   exact o.ra j hj k (hhb k hk)
  ·simp only [if_neg et] at hk
   exact o.ra t ht k hk
 ·intro hbk
  by_cases ea : a = j
  ·have eb : b ≠ j := fun e => hab (by omega)
   simp only [if_pos ea] at hk
   simp only [if_neg eb] at hbk
   exact o.oa j b hj hb (Ne.symm eb) k (hhb k hk) hbk
  ·simp only [if_neg ea] at hk
   by_cases eb : b = j
   ·simp only [if_pos eb] at hbk
    exact o.oa a j ha hj ea k hk (hhb k hbk)
   ·simp only [if_neg eb] at hbk
    exact o.oa a b ha hb hab k hk hbk
 ·have t1 : Touch P w (w.setCell ⟨g, j * 4, none⟩ (.int .i64 X)) := Touch.of_set _ (o.rb g rfl) _
  have t2 : Touch P (w.setCell ⟨g, j * 4, none⟩ (.int .i64 X)) w1 := Touch.of_grown g1 fun k e => o.ob j hj k (hRb k e)
  have t3 : Touch P w1 w2 := Touch.of_grown g2 fun k e => o.ob j hj k (hOb k e)
  exact ((t1.trans t2).trans t3).trans (Touch.of_set _ (o.rb g rfl) _)
theorem LS.cast {w : World} {P : Nat → Prop} {v : Value} {n : Nat} {vs : Nat → Value} {S S' : Nat → S4} (o : LS w P v n vs S) (h : ∀ i, i < n → S i = S' i) : LS w P v n vs S' :=
 ⟨o.row, fun i hi => by rw [← h i hi]; exact o.own i hi, o.rb, o.ob, o.ra, o.oa⟩
theorem markStateS_own (v : Value) (P : Nat → Prop) (n : Nat) (vs : Nat → Value) (S : Nat → S4) (k : Int) (w : World) (hn : n ≤ 1048576) (hl : sumL (lenS S) n ≤ 1048576) (k0 : 0 ≤ k) (k1 : k ≤ 50000000) (o : LS w P v n vs S) :
  Calls Tryz.prog 34 #[v, .int .i64 k] w fun e w' => e = .returned (.int .i64 (k + (2 * n + sumL (lenS S) n : Nat))) ∧ (∃ us, LS w' P v n us (fun i => mkS (k + (2 * i + sumL (lenS S) i : Nat)) (S i))) ∧ Touch P w w' := by
 have hl' : (n : Int) ≤ 1048576 := by omega
 obtain ⟨a1, c1, rfl⟩ := ownsRow_slice o.row
 have O : Hid (LS w P (.slice a1 n c1) n vs S) := o
 have HL : Hid (sumL (lenS S) n ≤ 1048576) := hl
 clear o hl
 go_enter Tryz.func34, Tryz.ntmps34
 go_wp2_with fail
 go_loopw [1, 5] (fun q i wr => ∃ j : Nat, j ≤ n ∧ i = .int .i64 j ∧ q = .int .i64 (k + (2 * j + sumL (lenS S) j : Nat)) ∧ Hid ((∃ us, LS wr P (.slice a1 n c1) n us (fun t => if t < j then mkS (k + (2 * t + sumL (lenS S) t : Nat)) (S t) else S t)) ∧ Touch P w wr)) (fun _ i _ => n - (intOf i).toNat)
 case atStart => exact ⟨0, Nat.zero_le _, rfl, by simp [sumL], ⟨vs, O.out.cast fun i _ => by rw [if_neg (by omega)]⟩, Touch.refl _ _⟩
 case round =>
  obtain ⟨j, hj, rfl, rfl, HT⟩ := hrel
  by_cases hlt : j < n
  ·have hlt' : (j : Int) < (n : Int) := by omega
   obtain ⟨⟨us, ol⟩, tw⟩ := HT.out
   obtain ⟨D, m1, e1, Pg, hD, cel, fz⟩ := ol.cell hlt
   obtain rfl := slice_form e1
   rw [if_neg (by omega)] at cel
   obtain ⟨ra, rc, oa, oc, ev, c0, c1', c2, c3⟩ := cel
   have how := ol.own j hlt
   rw [if_neg (by omega), ev] at how
   obtain ⟨w1r, w1o, wap⟩ := how.parts
   have OL : Hid (LS wr P (.slice (some ⟨D, 0, none⟩) n c1) n us (fun t => if t < j then mkS (k + (2 * t + sumL (lenS S) t : Nat)) (S t) else S t)) := ol
   have TW : Hid (Touch P w wr) := tw
   have OR : Hid (OwnI wr 0 (.slice ra (S j).rs.length rc) (S j).rs) := w1r
   have OO : Hid (OwnI wr 0 (.slice oa (S j).os.length oc) (S j).os) := w1o
   have AP : Hid (∀ b, (Value.slice ra (S j).rs.length rc).ownBlock = some b → (Value.slice oa (S j).os.length oc).ownBlock ≠ some b) := wap
   have HV : Hid (us j = stV (S j).p ra (S j).rs.length rc oa (S j).os.length oc (S j).c) := ev
   have nR : some D ≠ (Value.slice ra (S j).rs.length rc).ownBlock := fun e => ol.ra j hlt D (by rw [ev]; exact (hasBlock_iff _ _ _ _ _).2 (.inl e.symm)) rfl
   have nO : some D ≠ (Value.slice oa (S j).os.length oc).ownBlock := fun e => ol.ra j hlt D (by rw [ev]; exact (hasBlock_iff _ _ _ _ _).2 (.inr e.symm)) rfl
   have hsl := sumL_at (lenS S) hlt
   have hS := HL.out
   have hlk : lenS S j = (S j).rs.length + (S j).os.length := rfl
   have r1 : (S j).rs.length ≤ 1048576 := by omega
   have r2 : (S j).os.length ≤ 1048576 := by omega
   have HX : Hid (mkS (k + (2 * j + sumL (lenS S) j : Nat)) (S j) = mkS (k + (2 * j + sumL (lenS S) j : Nat)) (S j)) := rfl
   generalize hx : k + (2 * j + sumL (lenS S) j : Nat) = X at *
   have x0 : 0 ≤ X := by omega
   have x1 : X ≤ 60000000 := by omega
   have HN : Hid (X + 1 + (S j).rs.length + (S j).os.length + 1 = k + (2 * (j + 1) + sumL (lenS S) (j + 1) : Nat)) := by
    show X + 1 + (S j).rs.length + (S j).os.length + 1 = k + (2 * (j + 1) + sumL (lenS S) (j + 1) : Nat)
    simp only [sumL]
    omega
   have HJ : Hid (k + (2 * j + sumL (lenS S) j : Nat) = X) := hx
   have rI : ((S j).rs.length : Int) ≤ 1048576 := by omega
   have oI : ((S j).os.length : Int) ≤ 1048576 := by omega
   clear ev wap w1r w1o how hsl hS hlk hx ol tw e1 HT HX
   go_wp2_with fail
   refine (markIntS_any ra rc 0 (S j).rs _ _ r1 (by omega) (by omega) (OR.out.blk fun b hb => Below.heap_setCell _ _ _ _ fun e => nR (by rw [hb, e]))).mono ?_
   rintro e w1 ⟨rfl, q1, g1⟩
   obtain ⟨d1, f1⟩ := gcell g1 (b := D) (by simpa using hD) nR
   have OO1 : Hid (OwnI w1 0 (.slice oa (S j).os.length oc) (S j).os) := own_apart (OO.out.blk fun b hb => Below.heap_setCell _ _ _ _ fun e => nO (by rw [hb, e])) g1 AP.out
   have hD1 : D < w1.heap.size := by have := g1.size; simp at this; omega
   have G1 : Hid (World.grownBy (wr.setCell ⟨D, j * 4, none⟩ (.int .i64 X)) w1 (Value.slice ra (S j).rs.length rc).ownBlock) := g1
   have R1 : Hid (OwnI w1 0 (.slice ra (S j).rs.length rc) (marks (X + 1) (S j).rs.length)) := q1
   clear g1 q1
   go_wp2_with fail
   refine (markIntS_any oa oc 0 (S j).os _ _ r2 (by omega) (by omega) OO1.out).mono ?_
   rintro e w2 ⟨rfl, q2, g2⟩
   obtain ⟨d2, f2⟩ := gcell g2 (b := D) hD1 nO
   have R2 : OwnI w2 0 (.slice ra (S j).rs.length rc) (marks (X + 1) (S j).rs.length) := own_apart R1.out g2 fun b hb e => AP.out b e hb
   have HM := OL.out.mark hlt HV.out X (X + 1 + (S j).rs.length + (S j).os.length) G1.out g2 R2 q2
   have HT2 : Hid ((∃ us, LS (w2.setCell ⟨D, j * 4 + 3, none⟩ (.int .i64 (X + 1 + (S j).rs.length + (S j).os.length))) P (.slice (some ⟨D, 0, none⟩) n c1) n us (fun t => if t < j + 1 then mkS (k + (2 * t + sumL (lenS S) t : Nat)) (S t) else S t)) ∧ Touch P w (w2.setCell ⟨D, j * 4 + 3, none⟩ (.int .i64 (X + 1 + (S j).rs.length + (S j).os.length)))) := by
    refine ⟨⟨_, HM.1.cast fun t ht => ?_⟩, TW.out.trans HM.2⟩
    by_cases et : t = j
    ·rw [if_pos et, if_pos (by omega), et, HJ.out]
     rfl
    ·rw [if_neg et]
     by_cases e2 : t < j
     ·rw [if_pos e2, if_pos (by omega)]
     ·rw [if_neg e2, if_neg (by omega)]
   clear g2 G1 OO1 OO OR AP HV R1 R2 HM q2 OL TW
   go_wp2
   go_roundw
   case rel => exact ⟨j + 1, by omega, by go_num, by rw [HN.out], HT2.out⟩
   case measure => simp [intOf]; omega
  ·have hkl : j = n := by omega
   subst hkl
   have HT1 : Hid ((∃ us, LS wr P (.slice a1 j c1) j us (fun i => mkS (k + (2 * i + sumL (lenS S) i : Nat)) (S i))) ∧ Touch P w wr) := by
    obtain ⟨⟨us, ol⟩, tw⟩ := HT.out
    exact ⟨⟨us, ol.cast fun t ht => by rw [if_pos ht]⟩, tw⟩
   clear HT
   go_wp2
   go_ret
   exact ⟨rfl, HT1.out⟩
theorem heldStateS_own (v : Value) (P : Nat → Prop) (n : Nat) (us : Nat → Value) (S : Nat → S4) (k : Int) (w : World) (hn : n ≤ 1048576) (hl : sumL (lenS S) n ≤ 1048576) (k0 : 0 ≤ k) (k1 : k ≤ 50000000) (o : LS w P v n us (fun i => mkS (k + (2 * i + sumL (lenS S) i : Nat)) (S i))) :
  Calls Tryz.prog 38 #[v, .int .i64 k] w fun e w' => e = .returned (.int .i64 (k + (2 * n + sumL (lenS S) n : Nat))) ∧ Below w.heap.size w w' := by
 have hl' : (n : Int) ≤ 1048576 := by omega
 obtain ⟨a1, c1, rfl⟩ := ownsRow_slice o.row
 have O : Hid (LS w P (.slice a1 n c1) n us (fun i => mkS (k + (2 * i + sumL (lenS S) i : Nat)) (S i))) := o
 have HL : Hid (sumL (lenS S) n ≤ 1048576) := hl
 clear o hl
 go_enter Tryz.func38, Tryz.ntmps38
 go_wp2_with fail
 go_loopw [1, 5] (fun q i wr => ∃ j : Nat, j ≤ n ∧ i = .int .i64 j ∧ q = .int .i64 (k + (2 * j + sumL (lenS S) j : Nat)) ∧ Below w.heap.size w wr) (fun _ i _ => n - (intOf i).toNat)
 case atStart => exact ⟨0, Nat.zero_le _, rfl, by simp [sumL], Below.refl _ _⟩
 case round =>
  obtain ⟨j, hj, rfl, rfl, hbw⟩ := hrel
  by_cases hlt : j < n
  ·have hlt' : (j : Int) < (n : Int) := by omega
   have Q := O.out.below hbw
   obtain ⟨D, m1, e1, -, hD, ⟨ra, rc, oa, oc, ev, c0, c1', c2, c3⟩, -⟩ := Q.cell hlt
   obtain rfl := slice_form e1
   have how := Q.own j hlt
   rw [ev] at how
   have hs1 := how.parts.1.slOf
   have hs2 := how.parts.2.1.slOf
   simp only [mkS, marks_length] at c0 c1' c2 c3 hs1 hs2
   have hsl := sumL_at (lenS S) hlt
   have hS := HL.out
   have hlk : lenS S j = (S j).rs.length + (S j).os.length := rfl
   have r1 : (S j).rs.length ≤ 1048576 := by omega
   have r2 : (S j).os.length ≤ 1048576 := by omega
   generalize hx : k + (2 * j + sumL (lenS S) j : Nat) = X at *
   have x0 : 0 ≤ X := by omega
   have x1 : X ≤ 60000000 := by omega
   have HN : Hid (X + 1 + (S j).rs.length + (S j).os.length + 1 = k + (2 * (j + 1) + sumL (lenS S) (j + 1) : Nat)) := by
    show X + 1 + (S j).rs.length + (S j).os.length + 1 = k + (2 * (j + 1) + sumL (lenS S) (j + 1) : Nat)
    simp only [sumL]
    omega
   have SA : Hid (Sl wr ra (marks (X + 1) (S j).rs.length) ∧ Sl wr oa (marks (X + 1 + (S j).rs.length) (S j).os.length)) := ⟨hs1, hs2⟩
   have rI : ((S j).rs.length : Int) ≤ 1048576 := by omega
   have oI : ((S j).os.length : Int) ≤ 1048576 := by omega
   have n1 : ¬ (X + 1 + ((S j).rs.length : Int) < 0) := by omega
   have n2 : ¬ (X + 1 + ((S j).rs.length : Int) + ((S j).os.length : Int) < 0) := by omega
   clear hs1 hs2 how Q ev hsl hS hlk hx e1
   go_wp2_with fail
   refine (heldIntS_marks ra rc (S j).rs.length (X + 1) wr r1 (by omega) (by omega) SA.out.1).mono ?_
   rintro e w1 ⟨rfl, hw1⟩
   rw [hw1]
   clear hw1 w1
   go_wp2_with fail
   refine (heldIntS_marks oa oc (S j).os.length (X + 1 + (S j).rs.length) wr r2 (by omega) (by omega) SA.out.2).mono ?_
   rintro e w1 ⟨rfl, hw1⟩
   rw [hw1]
   clear hw1 w1
   go_wp2
   go_roundw
   case rel => exact ⟨j + 1, by omega, by go_num, by rw [HN.out], hbw⟩
   case measure => simp [intOf]; omega
  ·have hkl : j = n := by omega
   subst hkl
   go_wp2
   go_ret
   exact ⟨rfl, hbw⟩
end Go.Proofs.YtdigofhceahpdaaGreatDoor
