/- Lists of states of one's own; what the cells of lists are. -/
import Derived.Test.YtcmmlklanjhfoaaGreatDoorGa30
import Derived.LaidEql
import Derived.Stop.Asserts
import Derived.RowKitTokens
import Derived.Test.YtcmmlklanjhfoaaGreatDoorGa24
import Derived.Test.YtcmmlklanjhfoaaGreatDoorGa23
namespace Go.Proofs.YtcmmlklanjhfoaaGreatDoor
open Go.RowKit Go.Extern.Stop Go.Stop Go.Extern

set_option maxHeartbeats 1000000 in
/-- errors.As of no error. -/
theorem as_nil (t : Value) (w : World) :
    Calls Tryz.prog 23 #[.nilIface, t] w fun e w' => e = .returned (.bool false) ∧ w' = w := by
  go_enter Tryz.func23, Tryz.ntmps23
  go_wp2
  go_ret
  exact ⟨rfl, rfl⟩

theorem valueOfT (t : Addr) (w : World) : (ReflectliteValue.unpack (.iface 56 (.pointer (some t)))).run Tryz.prog w
    = .ok (.agg #[.pointer (some ⟨1, 56, none⟩), .pointer (some ⟨w.heap.size, 0, none⟩), .int .u64 150]) (w.alloc (.cells #[.pointer (some t)] 56)) := by kernel_rfl
theorem typeT (a : Addr) (w : World) : (ReflectliteValue.methodAny (ReflectliteValue.valueError "reflectlite.Value.Type" 0) (fun t _ _ _ => ReflectliteType.toType t) #[.agg #[.pointer (some ⟨1, 56, none⟩), .pointer (some a), .int .u64 150]]).run Tryz.prog w
    = .ok (.iface 120 (.agg #[.pointer (some ⟨1, 56, none⟩)])) w := by kernel_rfl
theorem kindT (w : World) : ((ReflectliteType.abiMethod fun t => (fun a : Nat => Value.int IntKind.u8 (a : Int)) <$> Rtype.kind t) #[.pointer (some ⟨1, 56, none⟩)]).run Tryz.prog w = .ok (.int .u8 22) w := by kernel_rfl
theorem kindE (w : World) : ((ReflectliteType.abiMethod fun t => (fun a : Nat => Value.int IntKind.u8 (a : Int)) <$> Rtype.kind t) #[.pointer (some ⟨1, 54, none⟩)]).run Tryz.prog w = .ok (.int .u8 25) w := by kernel_rfl
theorem rlm (z : Sem Value) (f : TypeId → Addr → Nat → Nat → Sem Value) (v : Value) :
    ReflectliteValue.method z f #[v] = (do match ← ReflectliteValue.parts v with | none => z | some (t, a, fl) => f t a fl (fl % 32)) := rfl
theorem partsT (a : Addr) (w : World) : (ReflectliteValue.parts (.agg #[.pointer (some ⟨1, 56, none⟩), .pointer (some a), .int .u64 150])).run Tryz.prog w = .ok (some (56, a, 150)) w := by kernel_rfl
theorem isNilT (a p : Addr) (W : World) (ha : W.cell? a = some (.pointer (some p))) :
    (ReflectliteValue.method (ReflectliteValue.valueError "reflectlite.Value.IsNil" 0) ReflectliteValue.isNil #[.agg #[.pointer (some ⟨1, 56, none⟩), .pointer (some a), .int .u64 150]]).run Tryz.prog W = .ok (.bool false) W := by
  rw [rlm]
  simp only [Sem.run_bind, partsT, Result.andThen]
  simp [ReflectliteValue.isNil, loadVar, isAgg, underlying, Tryz.underlying56, ha, Result.andThen]
theorem elemT (w : World) : (ReflectliteType.method ReflectliteType.elem #[.agg #[.pointer (some ⟨1, 56, none⟩)]]).run Tryz.prog w = .ok (.iface 120 (.agg #[.pointer (some ⟨1, 54, none⟩)])) w := by kernel_rfl
theorem implementsE (w : World) : (ReflectliteType.relation "Implements" ReflectliteType.implements_ #[.agg #[.pointer (some ⟨1, 54, none⟩)], .iface 120 (.agg #[.pointer (some ⟨1, 50, none⟩)])]).run Tryz.prog w = .ok (.bool true) w := by kernel_rfl
theorem typeOfE (v : Value) (w : World) : (ReflectliteType.typeOf #[.iface 54 v]).run Tryz.prog w = .ok (.iface 120 (.agg #[.pointer (some ⟨1, 54, none⟩)])) w := by kernel_rfl
theorem assignableE (w : World) : (ReflectliteType.relation "AssignableTo" ReflectliteType.assignableTo #[.agg #[.pointer (some ⟨1, 54, none⟩)], .iface 120 (.agg #[.pointer (some ⟨1, 54, none⟩)])]).run Tryz.prog w = .ok (.bool true) w := by kernel_rfl
theorem valueOfE (x : Int) (w : World) : (ReflectliteValue.unpack (.iface 54 (.agg #[.int .i64 x]))).run Tryz.prog w
    = .ok (.agg #[.pointer (some ⟨1, 54, none⟩), .pointer (some ⟨w.heap.size, 0, none⟩), .int .u64 153]) (w.alloc (.cells #[.int .i64 x] 54)) := by kernel_rfl
theorem elemOfT (w : World) : (Rtype.elem? 56).run Tryz.prog w = .ok (some 54) w := by kernel_rfl
theorem mkE (p : Addr) (w : World) : (ReflectliteValue.mk 54 p ReflectliteValue.flagAddr).run Tryz.prog w = .ok (.agg #[.pointer (some ⟨1, 54, none⟩), .pointer (some p), .int .u64 409]) w := by kernel_rfl

end Go.Proofs.YtcmmlklanjhfoaaGreatDoor

namespace Go.Proofs.YtcmmlklanjhfoaaGreatDoor
open Go.ChangeShapes Go.WideShapes Go.ChangeAt Go.RowKit Go.Deep

/-- The cells of the first n, one behind the other. -/
def flat (f : Nat → List Value) : Nat → List Value
  | 0 => []
  | n + 1 => flat f n ++ f n
theorem flat_len {f : Nat → List Value} {sz : Nat} : ∀ {n : Nat}, (∀ i, i < n → (f i).length = sz) → (flat f n).length = n * sz
  | 0, _ => by simp [flat]
  | n + 1, h => by
    rw [flat, List.length_append, flat_len (fun i hi => h i (by omega)), h n (by omega), Nat.add_mul, Nat.one_mul]
theorem flat_at {f : Nat → List Value} {sz : Nat} : ∀ {n : Nat}, (∀ i, i < n → (f i).length = sz) → ∀ {i j : Nat}, i < n → j < sz → (flat f n)[i * sz + j]? = (f i)[j]?
  | 0, _, i, j, hi, _ => by omega
  | n + 1, h, i, j, hi, hj => by
    have hl := flat_len (f := f) (sz := sz) (n := n) fun i hi => h i (by omega)
    by_cases e : i = n
    · subst e
      rw [flat, List.getElem?_append_right (by omega), hl]
      congr 1
      omega
    · have : i * sz + sz ≤ n * sz := by
        have := Nat.mul_le_mul_right sz (show i + 1 ≤ n by omega)
        rw [Nat.add_mul, Nat.one_mul] at this
        exact this
      rw [flat, List.getElem?_append_left (by omega)]
      exact flat_at (fun i hi => h i (by omega)) (by omega) hj
theorem flat_one {f : Nat → List Value} : ∀ {n : Nat}, (∀ i, i < n → ∀ u ∈ f i, u.oneCell' = true) → ∀ u ∈ flat f n, u.oneCell' = true
  | 0, _, u, hu => by simp [flat] at hu
  | n + 1, h, u, hu => by
    rw [flat, List.mem_append] at hu
    rcases hu with hu | hu
    · exact flat_one (fun i hi => h i (by omega)) u hu
    · exact h n (by omega) u hu
theorem flat_congr {f g : Nat → List Value} : ∀ {n : Nat}, (∀ i, i < n → f i = g i) → flat f n = flat g n
  | 0, _ => rfl
  | n + 1, h => by rw [flat, flat, flat_congr fun i hi => h i (by omega), h n (by omega)]
theorem flat_set4 {f : Nat → List Value} {n i : Nat} (hl : ∀ j, j < n → (f j).length = 4) (hi : i < n) (a b c d : Value) :
    flat (fun j => if j = i then [a, b, c, d] else f j) n = ((((flat f n).set (i * 4) a).set (i * 4 + 1) b).set (i * 4 + 2) c).set (i * 4 + 3) d := by
  have hl' : ∀ j, j < n → ((fun j => if j = i then [a, b, c, d] else f j) j).length = 4 := fun j hj => by
    by_cases e : j = i
    · simp [e]
    · simp [e, hl j hj]
  have n1 := flat_len hl
  have n2 := flat_len hl'
  apply List.ext_getElem?
  intro q
  by_cases hq : q < n * 4
  · have hk : q / 4 < n := by omega
    have hr : q % 4 < 4 := by omega
    have e : q = q / 4 * 4 + q % 4 := by omega
    have e1 := flat_at hl' hk hr
    have e2 := flat_at hl hk hr
    rw [← e] at e1 e2
    rw [e1]
    by_cases ei : q / 4 = i
    · simp only [if_pos ei]
      have hr4 : q % 4 = 0 ∨ q % 4 = 1 ∨ q % 4 = 2 ∨ q % 4 = 3 := by omega
      rcases hr4 with h | h | h | h <;> rw [h] <;>
        (simp only [List.getElem?_set, List.length_set, n1]
         have : i < n := hi
         repeat (first | rw [if_pos (by omega)] | rw [if_neg (by omega)])
         simp)
    · simp only [if_neg ei]
      simp only [List.getElem?_set, List.length_set, n1]
      rw [if_neg (by omega), if_neg (by omega), if_neg (by omega), if_neg (by omega), e2]
  · rw [List.getElem?_eq_none (by omega), List.getElem?_eq_none (by simp only [List.length_set]; omega)]

/-- The cells of a struct. -/
def cellsL : Value → List Value
  | .agg a => a.toList
  | _ => []
theorem StOwn.cellsL {w : World} {B : Nat} {v : Value} {p code : Int} {rs os : List Int} (h : StOwn w B v p rs os code) : (cellsL v).length = 4 ∧ ∀ u ∈ cellsL v, u.oneCell' = true := by
  obtain ⟨vr, vo, rfl, h1, h2, -⟩ := h
  obtain ⟨a1, c1, rfl, -⟩ := h1.form
  obtain ⟨a2, c2, rfl, -⟩ := h2.form
  refine ⟨rfl, fun u hu => ?_⟩
  simp [Go.Proofs.YtcmmlklanjhfoaaGreatDoor.cellsL] at hu
  rcases hu with rfl | rfl | rfl | rfl <;> rfl

/-- A list of states: where all lie, each apart from all others. -/
structure LS (w : World) (P : Nat → Prop) (v : Value) (n : Nat) (vs : Nat → Value) (S : Nat → S4) : Prop where
  row : w.ownsRow 0 32 4 v n (flat (fun i => cellsL (vs i)) n)
  own : ∀ i, i < n → StOwn w 0 (vs i) (S i).p (S i).rs (S i).os (S i).c
  rb : ∀ k, v.ownBlock = some k → P k
  ob : ∀ i, i < n → ∀ k, hasBlock (vs i) k → P k
  ra : ∀ i, i < n → ∀ k, hasBlock (vs i) k → v.ownBlock ≠ some k
  oa : ∀ i j, i < n → j < n → i ≠ j → ∀ k, hasBlock (vs i) k → ¬ hasBlock (vs j) k

section
variable {w : World} {P : Nat → Prop} {v : Value} {n : Nat} {vs : Nat → Value} {S : Nat → S4}
theorem LS.keep (o : LS w P v n vs S) {w' : World} (hb : ∀ k, P k → k < w.heap.size → w'.heap[k]? = w.heap[k]?) : LS w' P v n vs S :=
  ⟨ownsRow_blkL o.row fun k hk => hb k (o.rb k hk) (o.row.lt k hk).2, fun i hi => (o.own i hi).blk fun k hk => hb k (o.ob i hi k hk) ((o.own i hi).lt hk).2, o.rb, o.ob, o.ra, o.oa⟩
theorem LS.below (o : LS w P v n vs S) {w' : World} (hb : Below w.heap.size w w') : LS w' P v n vs S := o.keep fun k _ hk => hb.block k hk
theorem LS.mono (o : LS w P v n vs S) {P' : Nat → Prop} (h : ∀ k, P k → k < w.heap.size → P' k) : LS w P' v n vs S :=
  ⟨o.row, o.own, fun k hk => h k (o.rb k hk) (o.row.lt k hk).2, fun i hi k hk => h k (o.ob i hi k hk) ((o.own i hi).lt hk).2, o.ra, o.oa⟩
theorem LS.nil (w : World) (P : Nat → Prop) (vs : Nat → Value) (S : Nat → S4) : LS w P (.slice none 0 0) 0 vs S :=
  ⟨World.ownsRow_nil _ _ _ _, fun i hi => (by omega), fun k hk => (by cases hk), fun i hi => (by omega), fun i hi => (by omega), fun i j hi => (by omega)⟩

theorem LS.push (o : LS w P v n vs S) {w1 w2 : World} {u' v' : Value} (b1 : Below w.heap.size w w1) (hu : StOwn w1 w.heap.size u' (S n).p (S n).rs (S n).os (S n).c) (hv : w2.ownsRow 0 32 4 v' (n + 1) (flat (fun i => cellsL (vs i)) n ++ cellsL u')) (g : w1.grownBy w2 v.ownBlock)
    (hv' : ∀ j, v'.ownBlock = some j → v.ownBlock = some j ∨ w1.heap.size ≤ j) {P' : Nat → Prop} (hP : ∀ k, P k → k < w.heap.size → P' k) (hP' : ∀ k, w.heap.size ≤ k → k < w2.heap.size → P' k) : LS w2 P' v' (n + 1) (fun j => if j = n then u' else vs j) S := by
  have hvlt : ∀ k, v.ownBlock = some k → k < w.heap.size := fun k hk => (o.row.lt k hk).2
  have lts : ∀ i, i < n → ∀ k, hasBlock (vs i) k → k < w.heap.size := fun i hi k hk => ((o.own i hi).lt hk).2
  have hu2 : StOwn w2 w.heap.size u' (S n).p (S n).rs (S n).os (S n).c := hu.blk fun k hk => g.block k (hu.lt hk).2 fun e => by
    have q1 := (hu.lt hk).1
    have q2 := hvlt k e.symm
    omega
  have ho2 : ∀ i, i < n → StOwn w2 0 (vs i) (S i).p (S i).rs (S i).os (S i).c := fun i hi => (o.own i hi).blk fun k hk => (g.block k (Nat.lt_of_lt_of_le (lts i hi k hk) b1.size) fun e => o.ra i hi k hk e.symm).trans (b1.block k (lts i hi k hk))
  refine ⟨?_, fun i hi => ?_, fun k hk => ?_, fun i hi k hk => ?_, fun i hi k hk => ?_, fun i j hi hj hij k hk => ?_⟩
  · have e : flat (fun i => cellsL (if i = n then u' else vs i)) (n + 1) = flat (fun i => cellsL (vs i)) n ++ cellsL u' := by
      rw [flat, if_pos rfl]
      congr 1
      exact flat_congr fun i hi => by rw [if_neg (by omega)]
    rw [e]
    exact hv
  · by_cases ei : i = n
    · subst ei
      simp only [if_true]
      exact hu2.mono (Nat.zero_le _)
    · simp only [if_neg ei]
      exact ho2 i (by omega)
  · rcases hv' k hk with h | h
    · exact hP k (o.rb k h) (hvlt k h)
    · exact hP' k (Nat.le_trans b1.size h) (hv.lt k hk).2
  · by_cases ei : i = n
    · simp only [if_pos ei] at hk
      exact hP' k (hu.lt hk).1 (hu2.lt hk).2
    · simp only [if_neg ei] at hk
      exact hP k (o.ob i (by omega) k hk) (lts i (by omega) k hk)
  · intro hvk
    by_cases ei : i = n
    · simp only [if_pos ei] at hk
      rcases hv' k hvk with h | h
      · have := hvlt k h
        have := (hu.lt hk).1
        omega
      · have := (hu.lt hk).2
        omega
    · simp only [if_neg ei] at hk
      rcases hv' k hvk with h | h
      · exact o.ra i (by omega) k hk h
      · have := lts i (by omega) k hk
        have := b1.size
        omega
  · intro hjk
    by_cases ei : i = n
    · have ej : j ≠ n := fun e => hij (by omega)
      simp only [if_pos ei] at hk
      simp only [if_neg ej] at hjk
      have := lts j (by omega) k hjk
      have := (hu.lt hk).1
      omega
    · simp only [if_neg ei] at hk
      by_cases ej : j = n
      · simp only [if_pos ej] at hjk
        have := lts i (by omega) k hk
        have := (hu.lt hjk).1
        omega
      · simp only [if_neg ej] at hjk
        exact o.oa i j (by omega) (by omega) hij k hk hjk

theorem LS.cell (o : LS w P v n vs S) {i : Nat} (hi : i < n) : ∃ g cap, v = .slice (some ⟨g, 0, none⟩) n cap ∧ P g ∧ g < w.heap.size ∧ Cel4 w g (i * 4) (S i) (vs i) ∧ ∀ j, w.frozen? ⟨g, j, none⟩ = false := by
  have hr := o.row
  rcases hr.2 with ⟨_, h0⟩ | ⟨g, cap, cur, rfl, hb, hg, hcap, _⟩
  · omega
  · refine ⟨g, cap, rfl, o.rb g rfl, (o.row.lt g rfl).2, ?_, fun j => o.row.frozenAt j⟩
    have hl : ∀ j, j < n → (cellsL (vs j)).length = 4 := fun j hj => (o.own j hj).cellsL.1
    have hc : ∀ j, j < 4 → w.cell? ⟨g, i * 4 + j, none⟩ = (cellsL (vs i))[j]? := fun j hj => by
      rw [o.row.cellAt (i * 4 + j) (by omega)]
      exact flat_at hl hi hj
    obtain ⟨vr, vo, e, h1, h2, -⟩ := o.own i hi
    obtain ⟨a1, c1, rfl, -⟩ := h1.form
    obtain ⟨a2, c2, rfl, -⟩ := h2.form
    rw [e] at hc
    exact ⟨a1, c1, a2, c2, e, hc 0 (by omega), hc 1 (by omega), hc 2 (by omega), hc 3 (by omega)⟩

/-- Another state at place i. -/
theorem LS.put {g cap : Nat} (o : LS w P (.slice (some ⟨g, 0, none⟩) n cap) n vs S) {i : Nat} (hi : i < n) {w1 : World} {ra oa : Option Addr} {rn rc on oc : Nat} {p code : Int} {T : S4} (b1 : Below w.heap.size w w1) (hu : StOwn w1 w.heap.size (stV p ra rn rc oa on oc code) T.p T.rs T.os T.c)
    {P' : Nat → Prop} (hP : ∀ k, P k → k < w.heap.size → P' k) (hP' : ∀ k, w.heap.size ≤ k → k < w1.heap.size → P' k) :
    LS ((((w1.setCell ⟨g, i * 4, none⟩ (.int .i64 p)).setCell ⟨g, i * 4 + 1, none⟩ (.slice ra rn rc)).setCell ⟨g, i * 4 + 2, none⟩ (.slice oa on oc)).setCell ⟨g, i * 4 + 3, none⟩ (.int .i64 code)) P' (.slice (some ⟨g, 0, none⟩) n cap) n (fun j => if j = i then stV p ra rn rc oa on oc code else vs j) (fun j => if j = i then T else S j) := by
  have hg : g < w.heap.size := (o.row.lt g rfl).2
  have lts : ∀ j, j < n → ∀ k, hasBlock (vs j) k → k < w.heap.size := fun j hj k hk => ((o.own j hj).lt hk).2
  have hbk : ∀ k, k ≠ g → ((((w1.setCell ⟨g, i * 4, none⟩ (.int .i64 p)).setCell ⟨g, i * 4 + 1, none⟩ (.slice ra rn rc)).setCell ⟨g, i * 4 + 2, none⟩ (.slice oa on oc)).setCell ⟨g, i * 4 + 3, none⟩ (.int .i64 code)).heap[k]? = w1.heap[k]? := fun k hne => (Below.heap_setCell _ _ _ _ hne).trans ((Below.heap_setCell _ _ _ _ hne).trans ((Below.heap_setCell _ _ _ _ hne).trans (Below.heap_setCell _ _ _ _ hne)))
  refine ⟨?_, fun j hj => ?_, fun k hk => ?_, fun j hj k hk => ?_, fun j hj k hk => ?_, fun a b ha hb hab k hk => ?_⟩
  · have hl : ∀ j, j < n → (cellsL (vs j)).length = 4 := fun j hj => (o.own j hj).cellsL.1
    have e : flat (fun j => cellsL (if j = i then stV p ra rn rc oa on oc code else vs j)) n = flat (fun j => if j = i then [.int .i64 p, .slice ra rn rc, .slice oa on oc, .int .i64 code] else cellsL (vs j)) n := flat_congr fun j _ => by
      by_cases ej : j = i
      · rw [if_pos ej, if_pos ej]; rfl
      · rw [if_neg ej, if_neg ej]
    rw [e, flat_set4 hl hi]
    exact (World.ownsRow.stored (World.ownsRow.stored (World.ownsRow.stored (World.ownsRow.stored (ownsRow_blkL o.row fun k hk => by cases hk; exact b1.block g hg) _ _).1 _ _).1 _ _).1 _ _).1
  · by_cases ej : j = i
    · subst ej
      simp only [if_true]
      refine (hu.mono (Nat.zero_le _)).blk fun k hk => hbk k ?_
      have := (hu.lt hk).1
      omega
    · simp only [if_neg ej]
      refine (o.own j hj).blk fun k hk => (hbk k fun e => ?_).trans (b1.block k (lts j hj k hk))
      exact o.ra j hj k hk (by rw [e]; rfl)
  · cases hk
    exact hP g (o.rb g rfl) hg
  · by_cases ej : j = i
    · simp only [if_pos ej] at hk
      exact hP' k (hu.lt hk).1 (hu.lt hk).2
    · simp only [if_neg ej] at hk
      exact hP k (o.ob j hj k hk) (lts j hj k hk)
  · intro hvk
    by_cases ej : j = i
    · simp only [if_pos ej] at hk
      have := (hu.lt hk).1
      have hkg : g = k := by simpa [Value.ownBlock] using hvk
      omega
    · simp only [if_neg ej] at hk
      exact o.ra j hj k hk hvk
  · intro hbk'
    by_cases ea : a = i
    · have eb : b ≠ i := fun e => hab (by omega)
      simp only [if_pos ea] at hk
      simp only [if_neg eb] at hbk'
      have := lts b hb k hbk'
      have := (hu.lt hk).1
      omega
    · simp only [if_neg ea] at hk
      by_cases eb : b = i
      · simp only [if_pos eb] at hbk'
        have := lts a ha k hk
        have := (hu.lt hbk').1
        omega
      · simp only [if_neg eb] at hbk'
        exact o.oa a b ha hb hab k hk hbk'
end

end Go.Proofs.YtcmmlklanjhfoaaGreatDoor
