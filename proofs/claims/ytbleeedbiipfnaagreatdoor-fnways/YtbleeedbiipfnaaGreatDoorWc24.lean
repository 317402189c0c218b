/- The walks of l1DrawAny, DrawProgOk and DrawInsOk. -/
import Derived.Test.YtbleeedbiipfnaaGreatDoorWc0
import Derived.Test.YtbleeedbiipfnaaGreatDoorWc18
import Derived.Test.YtbleeedbiipfnaaGreatDoorWc12
import Derived.Test.YtbleeedbiipfnaaGreatDoorWc21
import Derived.Test.YtbleeedbiipfnaaGreatDoorWc19
import Derived.Test.YtbleeedbiipfnaaGreatDoorWc20
import Derived.Test.YtbleeedbiipfnaaGreatDoorWc17
import Derived.Test.YtbleeedbiipfnaaGreatDoorWc22
import Derived.Test.YtbleeedbiipfnaaGreatDoorWc10
import Derived.Deep.CutRange
import Derived.Test.YtbleeedbiipfnaaGreatDoorWc23
import Derived.Deep.RegionWith
namespace Go.Proofs.YtbleeedbiipfnaaGreatDoor
set_option maxRecDepth 100000
set_option maxHeartbeats 4000000
open Go.ChangeShapes Go.WideShapes Go.ChangeAt Go.RowKit Go.Deep
def flat (f : Nat → List Value) : Nat → List Value
 | 0 => []
 | n + 1 => flat f n ++ f n
theorem flat_len {f : Nat → List Value} {sz : Nat} : ∀ {n : Nat}, (∀ i, i < n → (f i).length = sz) → (flat f n).length = n * sz
 | 0, _ => by simp [flat]
 | n + 1, h => by
  rw [flat, List.length_append, flat_len (fun i hi => h i (by omega)), h n (by omega), Nat.add_mul, Nat.one_mul]
theorem flat_at {f : Nat → List Value} {sz : Nat} : ∀ {n : Nat}, (∀ i, i < n → (f i).length = sz) → ∀ {i j : Nat}, i < n → j < sz → (flat f n)[i * sz + j]? = (f i)[j]?
 | 0, _, i, j, hi, _ => by omega
 | n + 1, h, i, j, hi, hj => by
  have hl := flat_len (f := f) (sz := sz) (n := n) fun i hi => h i (by omega)
  by_cases e : i = n
  ·subst e
   rw [flat, List.getElem?_append_right (by omega), hl]
   congr 1
   omega
  ·have : i * sz + sz ≤ n * sz := by
    have := Nat.mul_le_mul_right sz (show i + 1 ≤ n by omega)
    rw [Nat.add_mul, Nat.one_mul] at this
    exact this
   rw [flat, List.getElem?_append_left (by omega)]
   exact flat_at (fun i hi => h i (by omega)) (by omega) hj
theorem flat_one {f : Nat → List Value} : ∀ {n : Nat}, (∀ i, i < n → ∀ u ∈ f i, u.oneCell' = true) → ∀ u ∈ flat f n, u.oneCell' = true
 | 0, _, u, hu => by simp [flat] at hu
 | n + 1, h, u, hu => by
  rw [flat, List.mem_append] at hu
  rcases hu with hu | hu
  ·exact flat_one (fun i hi => h i (by omega)) u hu
  ·exact h n (by omega) u hu
theorem flat_congr {f g : Nat → List Value} : ∀ {n : Nat}, (∀ i, i < n → f i = g i) → flat f n = flat g n
 | 0, _ => rfl
 | n + 1, h => by rw [flat, flat, flat_congr fun i hi => h i (by omega), h n (by omega)]
theorem flat_set4 {f : Nat → List Value} {n i : Nat} (hl : ∀ j, j < n → (f j).length = 4) (hi : i < n) (a b c d : Value) :
  flat (fun j => if j = i then [a, b, c, d] else f j) n = ((((flat f n).set (i * 4) a).set (i * 4 + 1) b).set (i * 4 + 2) c).set (i * 4 + 3) d := by
 have hl' : ∀ j, j < n → ((fun j => if j = i then [a, b, c, d] else f j) j).length = 4 := fun j hj => by
  by_cases e : j = i
  ·simp [e]
  ·simp [e, hl j hj]
 have n1 := flat_len hl
 have n2 := flat_len hl'
 apply List.ext_getElem?
 intro q
 by_cases hq : q < n * 4
 ·have hk : q / 4 < n := by omega
  have hr : q % 4 < 4 := by omega
  have e : q = q / 4 * 4 + q % 4 := by omega
  have e1 := flat_at hl' hk hr
  have e2 := flat_at hl hk hr
  rw [← e] at e1 e2
  rw [e1]
  by_cases ei : q / 4 = i
  ·simp only [if_pos ei]
   have hr4 : q % 4 = 0 ∨ q % 4 = 1 ∨ q % 4 = 2 ∨ q % 4 = 3 := by omega
   rcases hr4 with h | h | h | h <;> rw [h] <;>
    (simp only [List.getElem?_set, List.length_set, n1]
     have : i < n := hi
     repeat (first | rw [if_pos (by omega)] | rw [if_neg (by omega)])
     simp)
  ·simp only [if_neg ei]
   simp only [List.getElem?_set, List.length_set, n1]
   rw [if_neg (by omega), if_neg (by omega), if_neg (by omega), if_neg (by omega), e2]
 ·rw [List.getElem?_eq_none (by omega), List.getElem?_eq_none (by simp only [List.length_set]; omega)]
def cellsL : Value → List Value
 | .agg a => a.toList
 | _ => []
theorem StOwn.cellsL {w : World} {B : Nat} {v : Value} {p code : Int} {rs os : List Int} (h : StOwn w B v p rs os code) : (cellsL v).length = 4 ∧ ∀ u ∈ cellsL v, u.oneCell' = true := by
 obtain ⟨vr, vo, rfl, h1, h2, -⟩ := h
 obtain ⟨a1, c1, rfl, -⟩ := h1.form
 obtain ⟨a2, c2, rfl, -⟩ := h2.form
 refine ⟨rfl, fun u hu => ?_⟩
 simp [Go.Proofs.YtbleeedbiipfnaaGreatDoor.cellsL] at hu
 rcases hu with rfl | rfl | rfl | rfl <;> rfl
structure LS (w : World) (P : Nat → Prop) (v : Value) (n : Nat) (vs : Nat → Value) (S : Nat → S4) : Prop where
 row : w.ownsRow 0 46 4 v n (flat (fun i => cellsL (vs i)) n)
 own : ∀ i, i < n → StOwn w 0 (vs i) (S i).p (S i).rs (S i).os (S i).c
 rb : ∀ k, v.ownBlock = some k → P k
 ob : ∀ i, i < n → ∀ k, hasBlock (vs i) k → P k
 ra : ∀ i, i < n → ∀ k, hasBlock (vs i) k → v.ownBlock ≠ some k
 oa : ∀ i j, i < n → j < n → i ≠ j → ∀ k, hasBlock (vs i) k → ¬ hasBlock (vs j) k
section
variable {w : World} {P : Nat → Prop} {v : Value} {n : Nat} {vs : Nat → Value} {S : Nat → S4}
theorem LS.keep (o : LS w P v n vs S) {w' : World} (hb : ∀ k, P k → k < w.heap.size → w'.heap[k]? = w.heap[k]?) : LS w' P v n vs S :=
 ⟨ownsRow_blkL o.row fun k hk => hb k (o.rb k hk) (o.row.lt k hk).2, fun i hi => (o.own i hi).blk fun k hk => hb k (o.ob i hi k hk) ((o.own i hi).lt hk).2, o.rb, o.ob, o.ra, o.oa⟩
theorem LS.below (o : LS w P v n vs S) {w' : World} (hb : Below w.heap.size w w') : LS w' P v n vs S := o.keep fun k _ hk => hb.block k hk
theorem LS.mono (o : LS w P v n vs S) {P' : Nat → Prop} (h : ∀ k, P k → k < w.heap.size → P' k) : LS w P' v n vs S :=
 ⟨o.row, o.own, fun k hk => h k (o.rb k hk) (o.row.lt k hk).2, fun i hi k hk => h k (o.ob i hi k hk) ((o.own i hi).lt hk).2, o.ra, o.oa⟩
theorem LS.nil (w : World) (P : Nat → Prop) (vs : Nat → Value) (S : Nat → S4) : LS w P (.slice none 0 0) 0 vs S :=
 ⟨World.ownsRow_nil _ _ _ _, fun i hi => (by omega), fun k hk => (by cases hk), fun i hi => (by omega), fun i hi => (by omega), fun i j hi => (by omega)⟩
theorem LS.push (o : LS w P v n vs S) {w1 w2 : World} {u' v' : Value} (b1 : Below w.heap.size w w1) (hu : StOwn w1 w.heap.size u' (S n).p (S n).rs (S n).os (S n).c) (hv : w2.ownsRow 0 46 4 v' (n + 1) (flat (fun i => cellsL (vs i)) n ++ cellsL u')) (g : w1.grownBy w2 v.ownBlock)
  (hv' : ∀ j, v'.ownBlock = some j → v.ownBlock = some j ∨ w1.heap.size ≤ j) {P' : Nat → Prop} (hP : ∀ k, P k → k < w.heap.size → P' k) (hP' : ∀ k, w.heap.size ≤ k → k < w2.heap.size → P' k) : LS w2 P' v' (n + 1) (fun j => if j = n then u' else vs j) S := by
 have hvlt : ∀ k, v.ownBlock = some k → k < w.heap.size := fun k hk => (o.row.lt k hk).2
 have lts : ∀ i, i < n → ∀ k, hasBlock (vs i) k → k < w.heap.size := fun i hi k hk => ((o.own i hi).lt hk).2
 have hu2 : StOwn w2 w.heap.size u' (S n).p (S n).rs (S n).os (S n).c := hu.blk fun k hk => g.block k (hu.lt hk).2 fun e => by
  have q1 := (hu.lt hk).1
  have q2 := hvlt k e.symm
  omega
 have ho2 : ∀ i, i < n → StOwn w2 0 (vs i) (S i).p (S i).rs (S i).os (S i).c := fun i hi => (o.own i hi).blk fun k hk => (g.block k (Nat.lt_of_lt_of_le (lts i hi k hk) b1.size) fun e => o.ra i hi k hk e.symm).trans (b1.block k (lts i hi k hk))
 refine ⟨?_, fun i hi => ?_, fun k hk => ?_, fun i hi k hk => ?_, fun i hi k hk => ?_, fun i j hi hj hij k hk => ?_⟩
 ·have e : flat (fun i => cellsL (if i = n then u' else vs i)) (n + 1) = flat (fun i => cellsL (vs i)) n ++ cellsL u' := by
   rw [flat, if_pos rfl]
   congr 1
   exact flat_congr fun i hi => by rw [if_neg (by omega)]
  rw [e]
  exact hv
 ·by_cases ei : i = n
  ·subst ei
   simp only [if_true]
   exact hu2.mono (Nat.zero_le _)
  ·simp only [if_neg ei]
   exact ho2 i (by omega)
 ·rcases hv' k hk with h | h
  ·exact hP k (o.rb k h) (hvlt k h)
  ·exact hP' k (Nat.le_trans b1.size h) (hv.lt k hk).2
 ·by_cases ei : i = n
  ·simp only [if_pos ei] at hk
   exact hP' k (hu.lt hk).1 (hu2.lt hk).2
  ·simp only [if_neg ei] at hk
   exact hP k (o.ob i (by omega) k hk) (lts i (by omega) k hk)
 ·intro hvk
  by_cases ei : i = n
  ·simp only [if_pos ei] at hk
   rcases hv' k hvk with h | h
   ·have := hvlt k h
    have := (hu.lt hk).1
    omega
   ·have := (hu.lt hk).2
    omega
  ·simp only [if_neg ei] at hk
   rcases hv' k hvk with h | h
   ·exact o.ra i (by omega) k hk h
   ·have := lts i (by omega) k hk
    have := b1.size
    omega
 ·intro hjk
  by_cases ei : i = n
  ·have ej : j ≠ n := fun e => hij (by omega)
   simp only [if_pos ei] at hk
   simp only [if_neg ej] at hjk
   have := lts j (by omega) k hjk
   have := (hu.lt hk).1
   omega
  ·simp only [if_neg ei] at hk
   by_cases ej : j = n
   ·simp only [if_pos ej] at hjk
    have := lts i (by omega) k hk
    have := (hu.lt hjk).1
    omega
   ·simp only [if_neg ej] at hjk
    exact o.oa i j (by omega) (by omega) hij k hk hjk
theorem LS.cell (o : LS w P v n vs S) {i : Nat} (hi : i < n) : ∃ g cap, v = .slice (some ⟨g, 0, none⟩) n cap ∧ P g ∧ g < w.heap.size ∧ Cel4 w g (i * 4) (S i) (vs i) ∧ ∀ j, w.frozen? ⟨g, j, none⟩ = false := by
 have hr := o.row
 rcases hr.2 with ⟨_, h0⟩ | ⟨g, cap, cur, rfl, hb, hg, hcap, _⟩
 ·omega
 ·refine ⟨g, cap, rfl, o.rb g rfl, (o.row.lt g rfl).2, ?_, fun j => o.row.frozenAt j⟩
  have hl : ∀ j, j < n → (cellsL (vs j)).length = 4 := fun j hj => (o.own j hj).cellsL.1
  have hc : ∀ j, j < 4 → w.cell? ⟨g, i * 4 + j, none⟩ = (cellsL (vs i))[j]? := fun j hj => by
   rw [o.row.cellAt (i * 4 + j) (by omega)]
   exact flat_at hl hi hj
  obtain ⟨vr, vo, e, h1, h2, -⟩ := o.own i hi
  obtain ⟨a1, c1, rfl, -⟩ := h1.form
  obtain ⟨a2, c2, rfl, -⟩ := h2.form
  rw [e] at hc
  exact ⟨a1, c1, a2, c2, e, hc 0 (by omega), hc 1 (by omega), hc 2 (by omega), hc 3 (by omega)⟩
theorem LS.put {g cap : Nat} (o : LS w P (.slice (some ⟨g, 0, none⟩) n cap) n vs S) {i : Nat} (hi : i < n) {w1 : World} {ra oa : Option Addr} {rn rc on oc : Nat} {p code : Int} {T : S4} (b1 : Below w.heap.size w w1) (hu : StOwn w1 w.heap.size (stV p ra rn rc oa on oc code) T.p T.rs T.os T.c)
  {P' : Nat → Prop} (hP : ∀ k, P k → k < w.heap.size → P' k) (hP' : ∀ k, w.heap.size ≤ k → k < w1.heap.size → P' k) :
  LS ((((w1.setCell ⟨g, i * 4, none⟩ (.int .i64 p)).setCell ⟨g, i * 4 + 1, none⟩ (.slice ra rn rc)).setCell ⟨g, i * 4 + 2, none⟩ (.slice oa on oc)).setCell ⟨g, i * 4 + 3, none⟩ (.int .i64 code)) P' (.slice (some ⟨g, 0, none⟩) n cap) n (fun j => if j = i then stV p ra rn rc oa on oc code else vs j) (fun j => if j = i then T else S j) := by
 have hg : g < w.heap.size := (o.row.lt g rfl).2
 have lts : ∀ j, j < n → ∀ k, hasBlock (vs j) k → k < w.heap.size := fun j hj k hk => ((o.own j hj).lt hk).2
 have hbk : ∀ k, k ≠ g → ((((w1.setCell ⟨g, i * 4, none⟩ (.int .i64 p)).setCell ⟨g, i * 4 + 1, none⟩ (.slice ra rn rc)).setCell ⟨g, i * 4 + 2, none⟩ (.slice oa on oc)).setCell ⟨g, i * 4 + 3, none⟩ (.int .i64 code)).heap[k]? = w1.heap[k]? := fun k hne => (Below.heap_setCell _ _ _ _ hne).trans ((Below.heap_setCell _ _ _ _ hne).trans ((Below.heap_setCell _ _ _ _ hne).trans (Below.heap_setCell _ _ _ _ hne)))
 refine ⟨?_, fun j hj => ?_, fun k hk => ?_, fun j hj k hk => ?_, fun j hj k hk => ?_, fun a b ha hb hab k hk => ?_⟩
 ·have hl : ∀ j, j < n → (cellsL (vs j)).length = 4 := fun j hj => (o.own j hj).cellsL.1
  have e : flat (fun j => cellsL (if j = i then stV p ra rn rc oa on oc code else vs j)) n = flat (fun j => if j = i then [.int .i64 p, .slice ra rn rc, .slice oa on oc, .int .i64 code] else cellsL (vs j)) n := flat_congr fun j _ => by
   by_cases ej : j = i
   ·rw [if_pos ej, if_pos ej]; rfl
   ·rw [if_neg ej, if_neg ej]
  rw [e, flat_set4 hl hi]
  exact (World.ownsRow.stored (World.ownsRow.stored (World.ownsRow.stored (World.ownsRow.stored (ownsRow_blkL o.row fun k hk => by cases hk; exact b1.block g hg) _ _).1 _ _).1 _ _).1 _ _).1
 ·by_cases ej : j = i
  ·subst ej
   simp only [if_true]
   refine (hu.mono (Nat.zero_le _)).blk fun k hk => hbk k ?_
   have := (hu.lt hk).1
   omega
  ·simp only [if_neg ej]
   refine (o.own j hj).blk fun k hk => (hbk k fun e => ?_).trans (b1.block k (lts j hj k hk))
   exact o.ra j hj k hk (by rw [e]; rfl)
 ·cases hk
  exact hP g (o.rb g rfl) hg
 ·by_cases ej : j = i
  ·simp only [if_pos ej] at hk
   exact hP' k (hu.lt hk).1 (hu.lt hk).2
  ·simp only [if_neg ej] at hk
   exact hP k (o.ob j hj k hk) (lts j hj k hk)
 ·intro hvk
  by_cases ej : j = i
  ·simp only [if_pos ej] at hk
   have := (hu.lt hk).1
   have hkg : g = k := by simpa [Value.ownBlock] using hvk
   omega
  ·simp only [if_neg ej] at hk
   exact o.ra j hj k hk hvk
 ·intro hbk'
  by_cases ea : a = i
  ·have eb : b ≠ i := fun e => hab (by omega)
   simp only [if_pos ea] at hk
   simp only [if_neg eb] at hbk'
   have := lts b hb k hbk'
   have := (hu.lt hk).1
   omega
  ·simp only [if_neg ea] at hk
   by_cases eb : b = i
   ·simp only [if_pos eb] at hbk'
    have := lts a ha k hk
    have := (hu.lt hbk').1
    omega
   ·simp only [if_neg eb] at hbk'
    exact o.oa a b ha hb hab k hk hbk'
end
def ItL (w : World) (a : Option Addr) (len : Nat) (h : Nat → I2) : Prop := len = 0 ∨ ∃ b off, a = some ⟨b, off, none⟩ ∧ b < w.heap.size ∧ ItAt w b off len h
theorem ItL.below {w w' : World} {a : Option Addr} {len : Nat} {h : Nat → I2} (hh : ItL w a len h) (hb : Below w.heap.size w w') : ItL w' a len h := by
 rcases hh with e | ⟨b, off, e, hlt, hc⟩
 ·exact .inl e
 ·exact .inr ⟨b, off, e, Nat.lt_of_lt_of_le hlt hb.size, hc.below hb hlt⟩
theorem ItL.at {w : World} {a : Option Addr} {len : Nat} {h : Nat → I2} (hh : ItL w a len h) {k : Nat} (hk : k < len) : ∃ b off, a = some ⟨b, off, none⟩ ∧ b < w.heap.size ∧ w.cell? ⟨b, off + k * 2, none⟩ = some (.bool (h k).m) ∧ w.cell? ⟨b, off + k * 2 + 1, none⟩ = some (.int .i64 (h k).v) := by
 rcases hh with rfl | ⟨b, off, e, hlt, hc⟩
 ·omega
 ·exact ⟨b, off, e, hlt, hc k hk⟩
theorem canB_take (np nv k p v : Int) : canB 3 np nv k p v = ((k == 3) && numB v && (if np = 9 then belB p 4 else p == np)) := by
 unfold canB
 rw [if_pos rfl]
theorem canB_other {nk : Int} (h3 : nk ≠ 3) (h0 : nk ≠ 0) (np nv k p v : Int) : canB nk np nv k p v = evEqB k p v nk np nv := by
 unfold canB evEqB
 rw [if_neg h3]
 have : (nk != 0) = true := by simp [h0]
 rw [this, Bool.true_and]
theorem evEqB_true {a b c a' b' c' : Int} (h : evEqB a b c a' b' c' = true) : a = a' ∧ b = b' ∧ c = c' := by
 simpa [evEqB] using h
theorem take_from {x : I5} {len : Int} (h : insOkB x.o x.r x.a x.b x.n len 4 = true) (h7 : x.o = 7) : x.n = 9 ∨ (0 ≤ x.n ∧ x.n ≤ 3) := by
 simp only [insOkB, Bool.and_eq_true] at h
 have h5 := h.2
 unfold opOkB at h5
 rw [h7] at h5
 simp [inB] at h5
 omega
def DoneR (w : World) (s : S4) (t : Bool) (e : Ending) (w' : World) : Prop := ∃ v, e = .returned (.tuple #[v, .bool t]) ∧ StOwn w' w.heap.size v s.p s.rs s.os s.c ∧ Below w.heap.size w w'
theorem l2Do_any (b off len cap k : Nat) (g : Nat → I5) (ra oa : Option Addr) (rc oc : Nat) (rs os : List Int) (ek eq ev : Int) (w : World) (hb : b < w.heap.size) (hI : InsAt w b off len g) (h1 : Sl w ra rs) (h2 : Sl w oa os) (hR : rightB g len (k : Int) rs os 0 = true) :
  Calls Tryz.prog 141 #[.slice (some ⟨b, off, none⟩) len cap, stV k ra rs.length rc oa os.length oc 0, evV ek eq ev] w (DoneR w (doS g len k rs os 0 ek eq ev) (doB g len k rs os 0 ek eq ev)) := by
 obtain ⟨hp, hs, -⟩ := right_parts hR
 obtain ⟨⟨r0, r1, r2, r3, hrs, hn0, hn1, hn2, hn3⟩, ⟨k', hkk, hk'⟩, h60, hall⟩ := st_parts hs
 obtain rfl : k = k' := by omega
 have hk := hk'
 have h4 : rs.length = 4 := by rw [hrs]; rfl
 have hnum : allN rs = true := by rw [hrs]; simp [allN, hn0, hn1, hn2, hn3]
 have hl : (len : Int) ≤ 30 := by
  simp only [progOkB, Bool.and_eq_true] at hp
  have := hp.2.1
  simp [inB] at this
  omega
 have hins := right_ins hp hk
 obtain ⟨⟨o1, o11⟩, -⟩ := ins_range hins
 have hN : ∀ K P V, evK (g k).o = K → evP (g k).o (g k).n = P → evW (g k).o (g k).a rs = V → doB g len k rs os 0 ek eq ev = canB K P V ek eq ev := by
  intro K P V hK hP hV
  unfold doB nxK nxP nxW
  rw [if_pos hR, if_pos hR, if_pos hR, Int.toNat_natCast, hK, hP, hV]
 have hno : doB g len k rs os 0 ek eq ev = false → doS g len k rs os 0 ek eq ev = ⟨k, rs, os, 0⟩ := fun h => by
  unfold doS
  rw [if_neg (by rw [h]; decide)]
 have hyes : doB g len k rs os 0 ek eq ev = true → doS g len k rs os 0 ek eq ev = doneS len (g k) k rs os 0 ev := fun h => by
  unfold doS
  rw [if_pos h, Int.toNat_natCast]
 by_cases h7 : (g k).o = 7
 ·have eK : evK (g k).o = 3 := by rw [h7]; rfl
  have eP : evP (g k).o (g k).n = (g k).n := by rw [h7]; rfl
  have eV : evW (g k).o (g k).a rs = 0 := by rw [h7]; rfl
  have hc := hN _ _ _ eK eP eV
  rw [canB_take] at hc
  have HN : Hid (evK (g k).o = 3 ∧ evP (g k).o (g k).n = (g k).n ∧ evW (g k).o (g k).a rs = 0) := ⟨eK, eP, eV⟩
  rcases Bool.eq_false_or_eq_true (ek == 3) with t1 | t1
  case inr =>
   rw [t1] at hc
   rw [hc, hno hc]
   exact l2Do_take_no b off len cap k g ra oa rc oc rs os ek eq ev w hl hb hI h4 h60 h1 h2 hk hp _ _ HN (.inl (by simpa using t1))
  have t1' : (ek != 3) = false := by simpa using t1
  obtain rfl : ek = 3 := by simpa using t1
  rcases Bool.eq_false_or_eq_true (numB ev) with t2 | t2
  case inr =>
   rw [t2] at hc
   rw [hc, hno hc]
   exact l2Do_take_no b off len cap k g ra oa rc oc rs os 3 eq ev w hl hb hI h4 h60 h1 h2 hk hp _ _ HN (.inr (.inl ⟨t1', t2⟩))
  rcases take_from hins h7 with h9 | ⟨n0, n3⟩
  ·have t3 : ((g k).n != 9) = false := by simp [h9]
   rw [t1, t2, h9, if_pos rfl] at hc
   have hb4 : inB eq 0 3 = belB eq 4 := inB_below eq 4
   rcases Bool.eq_false_or_eq_true (belB eq 4) with t5 | t5
   ·rw [t5] at hc
    rw [hc, hyes hc]
    exact l2Do_take_any b off len cap k g ra oa rc oc rs os eq ev w hl hb hI h4 h60 h1 h2 hk hp _ _ HN h7 t2 t3 (hb4.trans t5)
   ·rw [t5] at hc
    rw [hc, hno hc]
    exact l2Do_take_no b off len cap k g ra oa rc oc rs os 3 eq ev w hl hb hI h4 h60 h1 h2 hk hp _ _ HN (.inr (.inr (.inr ⟨t1', t2, t3, hb4.trans t5⟩)))
  ·have t3 : ((g k).n != 9) = true := by simp; omega
   rw [t1, t2, if_neg (by omega)] at hc
   rcases Bool.eq_false_or_eq_true (eq == (g k).n) with t4 | t4
   ·have e4 : eq = (g k).n := by simpa using t4
    rw [t4] at hc
    rw [hc, hyes hc]
    exact l2Do_take_one b off len cap k g ra oa rc oc rs os eq ev w hl hb hI h4 h60 h1 h2 hk hp _ _ HN h7 t2 t3 (by simpa using t4) (by simp [inB]; omega)
   ·rw [t4] at hc
    rw [hc, hno hc]
    exact l2Do_take_no b off len cap k g ra oa rc oc rs os 3 eq ev w hl hb hI h4 h60 h1 h2 hk hp _ _ HN (.inr (.inr (.inl ⟨t1', t2, t3, by simpa using t4⟩)))
 by_cases h6 : (g k).o = 6
 ·have eK : evK (g k).o = 2 := by rw [h6]; rfl
  have hc := hN _ _ _ eK rfl rfl
  rw [canB_other (by decide) (by decide)] at hc
  have HN : Hid (evK (g k).o = 2 ∧ evP (g k).o (g k).n = evP (g k).o (g k).n ∧ evW (g k).o (g k).a rs = evW (g k).o (g k).a rs) := ⟨eK, rfl, rfl⟩
  rcases Bool.eq_false_or_eq_true (evEqB ek eq ev 2 (evP (g k).o (g k).n) (evW (g k).o (g k).a rs)) with t | t
  ·obtain ⟨rfl, rfl, rfl⟩ := evEqB_true t
   rw [t] at hc
   rw [hc, hyes hc]
   exact l2Do_send b off len cap k g ra oa rc oc rs os w hl hb hI h4 h60 h1 h2 hk hp _ _ HN h6
  ·rw [t] at hc
   rw [hc, hno hc]
   exact l2Do_no b off len cap k g ra oa rc oc rs os ek eq ev w hl hb hI h4 h60 h1 h2 hk hp 2 _ _ rfl HN t
 by_cases h8 : (g k).o = 8
 ·have eK : evK (g k).o = 4 := by rw [h8]; rfl
  have hc := hN _ _ _ eK rfl rfl
  rw [canB_other (by decide) (by decide)] at hc
  have HN : Hid (evK (g k).o = 4 ∧ evP (g k).o (g k).n = evP (g k).o (g k).n ∧ evW (g k).o (g k).a rs = evW (g k).o (g k).a rs) := ⟨eK, rfl, rfl⟩
  rcases Bool.eq_false_or_eq_true (evEqB ek eq ev 4 (evP (g k).o (g k).n) (evW (g k).o (g k).a rs)) with t | t
  ·obtain ⟨rfl, rfl, rfl⟩ := evEqB_true t
   rw [t] at hc
   rw [hc, hyes hc]
   by_cases h : os.length = 60
   ·exact l2Do_full b off len cap k g ra oa rc oc rs os w hl hb hI h4 h60 h1 h2 hk hp _ _ HN ⟨h8, h⟩ (by simp [h])
   ·exact l2Do_print b off len cap k g ra oa rc oc rs os w hl hb hI h4 h60 h1 h2 hk hp _ _ HN ⟨h8, h⟩ (by simp; omega)
  ·rw [t] at hc
   rw [hc, hno hc]
   exact l2Do_no b off len cap k g ra oa rc oc rs os ek eq ev w hl hb hI h4 h60 h1 h2 hk hp 4 _ _ rfl HN t
 have eK : evK (g k).o = 1 := by unfold evK; rw [if_neg h6, if_neg h7, if_neg h8]
 have eV : evW (g k).o (g k).a rs = 0 := by unfold evW; rw [if_neg h6, if_neg h8]
 have hc := hN _ _ _ eK rfl eV
 rw [canB_other (by decide) (by decide)] at hc
 have HN : Hid (evK (g k).o = 1 ∧ evP (g k).o (g k).n = evP (g k).o (g k).n ∧ evW (g k).o (g k).a rs = 0) := ⟨eK, rfl, eV⟩
 rcases Bool.eq_false_or_eq_true (evEqB ek eq ev 1 (evP (g k).o (g k).n) 0) with t | t
 ·obtain ⟨rfl, rfl, rfl⟩ := evEqB_true t
  rw [t] at hc
  rw [hc, hyes hc]
  exact l2Do_local b off len cap k g ra oa rc oc rs os w hl hb hI h4 h60 h1 h2 hk hp _ HN ⟨hnum, h6, h7, h8⟩
 ·rw [t] at hc
  rw [hc, hno hc]
  exact l2Do_no b off len cap k g ra oa rc oc rs os ek eq ev w hl hb hI h4 h60 h1 h2 hk hp 1 _ _ rfl HN t
open Go.Sort
def StepR (w : World) (B : Nat) (v0 : Value) (os : List Int) (p' a' b' c' d' : Int) (os' : List Int) (code' : Int) (e : Ending) (w' : World) : Prop :=
 ∃ oa' oc', e = .returned (dV p' a' b' c' d' oa' os'.length oc' code') ∧ OwnI w' B (.slice oa' os'.length oc') os' ∧ OwnI w' B v0 os ∧ w.grownBy w' v0.ownBlock ∧ ∀ j, (Value.slice oa' os'.length oc').ownBlock = some j → v0.ownBlock = some j ∨ w.heap.size ≤ j
theorem grown_below {w w' : World} {row : Option Nat} {B : Nat} (h : w.grownBy w' row) (hr : ∀ j, row = some j → B ≤ j) (hB : B ≤ w.heap.size) : Below B w w' :=
 ⟨h.os, h.tape, h.output, h.size, fun k hk => h.block k (by omega) (fun e => by have := hr k e.symm; omega)⟩
structure DC (w : World) (N : Nat) (p a b c d : Int) (o : Option Addr) (n m : Nat) (code : Int) : Prop where
 d0 : w.cell? ⟨N, 0, none⟩ = some (.int .i64 p)
 d1 : w.cell? ⟨N, 1, none⟩ = some (.int .i64 a)
 d2 : w.cell? ⟨N, 2, none⟩ = some (.int .i64 b)
 d3 : w.cell? ⟨N, 3, none⟩ = some (.int .i64 c)
 d4 : w.cell? ⟨N, 4, none⟩ = some (.int .i64 d)
 d5 : w.cell? ⟨N, 5, none⟩ = some (.slice o n m)
 d6 : w.cell? ⟨N, 6, none⟩ = some (.int .i64 code)
theorem DC.kept {w w' : World} {N : Nat} {p a b c d : Int} {o : Option Addr} {n m : Nat} {code : Int} (h : DC w N p a b c d o n m code) (hb : w'.heap[N]? = w.heap[N]?) : DC w' N p a b c d o n m code :=
 ⟨(World.cell?_of_block hb).trans h.d0, (World.cell?_of_block hb).trans h.d1, (World.cell?_of_block hb).trans h.d2, (World.cell?_of_block hb).trans h.d3, (World.cell?_of_block hb).trans h.d4, (World.cell?_of_block hb).trans h.d5, (World.cell?_of_block hb).trans h.d6⟩
theorem DC.lt {w : World} {N : Nat} {p a b c d : Int} {o : Option Addr} {n m : Nat} {code : Int} (h : DC w N p a b c d o n m code) : N < w.heap.size := World.block_lt_of_cell? w _ h.d0
theorem DC.new (w : World) (p a b c d : Int) (o : Option Addr) (n m : Nat) (code : Int) (t : TypeId) : DC (w.alloc (.cells #[.int .i64 p, .int .i64 a, .int .i64 b, .int .i64 c, .int .i64 d, .slice o n m, .int .i64 code] t)) w.heap.size p a b c d o n m code :=
 ⟨new_cell _ _ _ 0 rfl, new_cell _ _ _ 1 rfl, new_cell _ _ _ 2 rfl, new_cell _ _ _ 3 rfl, new_cell _ _ _ 4 rfl, new_cell _ _ _ 5 rfl, new_cell _ _ _ 6 rfl⟩
theorem grown7 (w : World) (N : Nat) (v0 v1 v2 v3 v4 v5 v6 : Value) : w.grownBy (((((((w.setCell ⟨N, 0, none⟩ v0).setCell ⟨N, 1, none⟩ v1).setCell ⟨N, 2, none⟩ v2).setCell ⟨N, 3, none⟩ v3).setCell ⟨N, 4, none⟩ v4).setCell ⟨N, 5, none⟩ v5).setCell ⟨N, 6, none⟩ v6) (some N) := by
 repeat (refine grown_setCell ?_ (.inl rfl) _)
 exact World.grownBy.refl _ _
theorem DC.put {w : World} {N : Nat} {p a b c d : Int} {o : Option Addr} {n m : Nat} {code : Int} (h : DC w N p a b c d o n m code) (p' a' b' c' d' : Int) (o' : Option Addr) (n' m' : Nat) (code' : Int) :
  DC (((((((w.setCell ⟨N, 0, none⟩ (.int .i64 p')).setCell ⟨N, 1, none⟩ (.int .i64 a')).setCell ⟨N, 2, none⟩ (.int .i64 b')).setCell ⟨N, 3, none⟩ (.int .i64 c')).setCell ⟨N, 4, none⟩ (.int .i64 d')).setCell ⟨N, 5, none⟩ (.slice o' n' m')).setCell ⟨N, 6, none⟩ (.int .i64 code')) N p' a' b' c' d' o' n' m' code' := by
 obtain ⟨d0, d1, d2, d3, d4, d5, d6⟩ := h
 exact ⟨by go_cell, by go_cell, by go_cell, by go_cell, by go_cell, by go_cell, by go_cell⟩
def AfterR (w : World) (N5 B : Nat) (k : Int) (ra oa : Option Addr) (rc oc : Nat) (a1 a2 a3 a4 : Int) (os : List Int) (ek eq ev : Int) (o1 : Option Addr) (c1 : Nat) (p' b1 b2 b3 b4 : Int) (os' : List Int) (code' : Int) (wx : World) (N : Nat) : Prop :=
 DoBox wx w.heap.size (.int .i64 k) (.slice ra 4 rc) (.slice oa os.length oc) (.int .i64 0) ek eq ev ∧ DC wx N5 k a1 a2 a3 a4 o1 os.length c1 0 ∧ (∃ o2 c2, DC wx N p' b1 b2 b3 b4 o2 os'.length c2 code' ∧ OwnI wx B (.slice o2 os'.length c2) os') ∧ OwnI wx B (.slice o1 os.length c1) os ∧ Below w.heap.size w wx
theorem AfterR.of_alloc {w : World} {N5 B : Nat} {k : Int} {ra oa : Option Addr} {rc oc : Nat} {a1 a2 a3 a4 : Int} {os : List Int} {ek eq ev : Int} {o1 : Option Addr} {c1 : Nat} {p' b1 b2 b3 b4 : Int} {os' : List Int} {code' : Int} {w8 : World} {o2 : Option Addr} {c2 : Nat} (X8 : DoBox w8 w.heap.size (.int .i64 k) (.slice ra 4 rc) (.slice oa os.length oc) (.int .i64 0) ek eq ev) (Y8 : DC w8 N5 k a1 a2 a3 a4 o1 os.length c1 0) (N8 : OwnI w8 B (.slice o2 os'.length c2) os') (M8 : OwnI w8 B (.slice o1 os.length c1) os) (B8 : Below w.heap.size w w8) (t : TypeId) :
  AfterR w N5 B k ra oa rc oc a1 a2 a3 a4 os ek eq ev o1 c1 p' b1 b2 b3 b4 os' code' (w8.alloc (.cells #[.int .i64 p', .int .i64 b1, .int .i64 b2, .int .i64 b3, .int .i64 b4, .slice o2 os'.length c2, .int .i64 code'] t)) w8.heap.size := by
 have ba := below_alloc w8 (.cells #[.int .i64 p', .int .i64 b1, .int .i64 b2, .int .i64 b3, .int .i64 b4, .slice o2 os'.length c2, .int .i64 code'] t)
 exact ⟨X8.below ba, Y8.kept (ba.block N5 Y8.lt), ⟨o2, c2, DC.new w8 _ _ _ _ _ _ _ _ _ _, N8.below ba⟩, M8.below ba, B8.trans (ba.mono B8.size)⟩
theorem AfterR.of_put {w : World} {N5 B : Nat} {k : Int} {ra oa : Option Addr} {rc oc : Nat} {a1 a2 a3 a4 : Int} {os : List Int} {ek eq ev : Int} {o1 : Option Addr} {c1 : Nat} {p' b1 b2 b3 b4 : Int} {os' : List Int} {code' : Int} {w8 : World} {o2 : Option Addr} {c2 N : Nat} (X8 : DoBox w8 w.heap.size (.int .i64 k) (.slice ra 4 rc) (.slice oa os.length oc) (.int .i64 0) ek eq ev) (Y8 : DC w8 N5 k a1 a2 a3 a4 o1 os.length c1 0) (N8 : OwnI w8 B (.slice o2 os'.length c2) os') (M8 : OwnI w8 B (.slice o1 os.length c1) os) (B8 : Below w.heap.size w w8)
  (hN : N5 < N) (h5 : w.heap.size + 1 + 1 < N5) (hZ : DC w8 N 0 0 0 0 0 none 0 0 0) (nM : ∀ j, (Value.slice o1 os.length c1).ownBlock = some j → j ≠ N) (nN : ∀ j, (Value.slice o2 os'.length c2).ownBlock = some j → j ≠ N) :
  AfterR w N5 B k ra oa rc oc a1 a2 a3 a4 os ek eq ev o1 c1 p' b1 b2 b3 b4 os' code' (((((((w8.setCell ⟨N, 0, none⟩ (.int .i64 p')).setCell ⟨N, 1, none⟩ (.int .i64 b1)).setCell ⟨N, 2, none⟩ (.int .i64 b2)).setCell ⟨N, 3, none⟩ (.int .i64 b3)).setCell ⟨N, 4, none⟩ (.int .i64 b4)).setCell ⟨N, 5, none⟩ (.slice o2 os'.length c2)).setCell ⟨N, 6, none⟩ (.int .i64 code')) N := by
 have gz := grown7 w8 N (.int .i64 p') (.int .i64 b1) (.int .i64 b2) (.int .i64 b3) (.int .i64 b4) (.slice o2 os'.length c2) (.int .i64 code')
 have l8 := Y8.lt
 refine ⟨?_, ?_, ⟨o2, c2, ?_, ?_⟩, ?_, ?_⟩
 ·exact X8.kept fun j h1 h2 => gz.block j (by omega) (by simp; omega)
 ·exact Y8.kept (gz.block N5 (by omega) (by simp; omega))
 ·exact hZ.put _ _ _ _ _ _ _ _ _
 ·repeat (refine OwnI.setOther ?_ (fun e => nN _ e rfl) _)
  exact N8
 ·repeat (refine OwnI.setOther ?_ (fun e => nM _ e rfl) _)
  exact M8
 ·exact B8.trans (grown_below gz (fun j hj => by simp at hj; omega) B8.size)
def settledS (len : Nat) (p a b c d : Int) (os : List Int) (p' a' b' c' d' : Int) (os' : List Int) (code' : Int) : S4 :=
 if regsB [a', b', c', d'] = false ∨ (60 : Int) < (os'.length : Int) then ⟨p, [a, b, c, d], os, 2⟩ else if belB p' len = false then ⟨p, [a', b', c', d'], os', 2⟩ else ⟨p', [a', b', c', d'], os', code'⟩
theorem doIn_no (b off len cap : Nat) (g : Nat → I5) (p code : Int) (ra oa : Option Addr) (rc oc : Nat) (rs os : List Int) (ek eq ev : Int) (w : World) (hlen : len ≤ maxLen) (hb : b < w.heap.size) (hI : InsAt w b off len g) (hr : rs.length ≤ 1048576) (ho : os.length ≤ 1048576) (h1 : Sl w ra rs) (h2 : Sl w oa os) (hD : canB (nxK g len p rs os code) (nxP g len p rs os code) (nxW g len p rs os code) ek eq ev = false) (hP : progOkB g len 4 = true) :
  Calls Tryz.prog 133 #[.slice (some ⟨b, off, none⟩) len cap, stV p ra rs.length rc oa os.length oc code, evV ek eq ev] w (DoneR w ⟨p, rs, os, code⟩ false) := by
 have HI : Hid (InsAt w b off len g) := hI
 have H1 : Hid (Sl w ra rs) := h1
 have H2 : Hid (Sl w oa os) := h2
 have HL : Hid (len ≤ maxLen) := hlen
 have HP : Hid (progOkB g len 4 = true) := hP
 clear hI h1 h2 hlen hP
 go_enter Tryz.func133, Tryz.ntmps133
 go_wp2_with fail
 have X := DoBox.new w (.int .i64 (p)) (.slice ra rs.length rc) (.slice oa os.length oc) (.int .i64 code) ek eq ev 46 91 46
 have BW : Hid (Below w.heap.size w (((w.alloc (oQ2 p ra rs.length rc oa os.length oc code)).alloc (oQ1 ek eq ev)).alloc (zQ0))) := by
  show Below _ _ _
  go_grown
 generalize (((w.alloc (oQ2 p ra rs.length rc oa os.length oc code)).alloc (oQ1 ek eq ev)).alloc (zQ0)) = W at *
 have HX : Hid (DoBox W w.heap.size (.int .i64 (p)) (.slice ra rs.length rc) (.slice oa os.length oc) (.int .i64 code) ek eq ev) := X
 have l2 := X.lt
 obtain ⟨p0, p1, p2, p3, e0, e1, e2, r0, r1, r2, r3, rf⟩ := X
 have p0' := cell_regrown p0
 have p1' := cell_regrown p1
 have p2' := cell_regrown p2
 have p3' := cell_regrown p3
 have e0' := cell_regrown e0
 have e1' := cell_regrown e1
 have e2' := cell_regrown e2
 have HB' : Hid (∀ d os', Below w.heap.size w (grow (redrawn W d) os')) := fun d os' => BW.out.trans ((below_regrown W d os').mono BW.out.size)
 clear p0 p1 p2 p3 e0 e1 e2 r0 r1 r2 r3 rf
 refine wp_region_quiet_below (by kernel_rfl) (by kernel_rfl) ?_
 repeat (quiet_step (first | (go_at_call 129; exact Calls.regrown_of (nextIn_any b off len cap g (p) code ra oa rc oc rs os _ HL.out (Nat.lt_of_lt_of_le hb (HB'.out _ _).size) (HI.out.below (HB'.out _ _) hb) ho (H1.out.below (HB'.out _ _)) (H2.out.below (HB'.out _ _)) HP.out)) | (go_at_call 184; exact Calls.regrown_of (canCome_any _ _ _ _ _ _ _))))
 refine wpQuiet_nil ?_
 intro _ hw'
 obtain ⟨⟨dq, osq⟩, hw''⟩ := hw'
 subst hw''
 have b3 := below_regrown W dq osq
 have B3 : Hid (Below w.heap.size w (grow (redrawn W dq) osq)) := BW.out.trans (b3.mono BW.out.size)
 have X := HX.out.below b3
 have l3 := X.lt
 generalize grow (redrawn W dq) osq = w3 at *
 clear b3 p0' p1' p2' p3' e0' e1' e2' BW HB' l2 HX
 obtain ⟨p0, p1, p2, p3, e0, e1, e2, r0, r1, r2, r3, rf⟩ := X
 go_wp2_with fail
 refine (copyState_any p code ra oa rc oc rs os _ hr ho (H1.out.below B3.out) (H2.out.below B3.out)).mono ?_
 rintro e w4 ⟨v, rfl, o4, b4⟩
 obtain ⟨ra2, rc2, oa2, oc2, rfl, -, -⟩ := o4.read
 obtain ⟨hc4, hf4⟩ := bcell b4
 have O4 : Hid (StOwn w4 w3.heap.size (stV p ra2 rs.length rc2 oa2 os.length oc2 code) p rs os code) := o4
 have B4 : Hid (Below w.heap.size w w4) := B3.out.trans (b4.mono B3.out.size)
 clear o4 b4
 go_wp2
 refine bodyPost_ret (v := .tuple #[stV p ra2 rs.length rc2 oa2 os.length oc2 code, .bool false]) (by simp [results, Tryz.results133, go_sem, hc4, l3, r0, r1, r2, r3]) rfl ⟨_, rfl, ?_, ?_⟩
 ·exact StOwn.put4 (B' := w3.heap.size) O4.out l3 (by omega)
 ·have := B4.out
  go_grown
theorem settled_any (p a b c d : Int) (oa : Option Addr) (oc : Nat) (os : List Int) (code p' a' b' c' d' : Int) (oa' : Option Addr) (oc' : Nat) (os' : List Int) (code' : Int) (n B : Nat) (w : World) (h1 : OwnI w B (.slice oa os.length oc) os) (h2 : OwnI w B (.slice oa' os'.length oc') os') (S : S4) (hS : settledS n p a b c d os p' a' b' c' d' os' code' = S) :
  Calls Tryz.prog 187 #[dV p a b c d oa os.length oc code, dV p' a' b' c' d' oa' os'.length oc' code', .int .i64 n] w fun e w' => ∃ o3 c3 x1 x2 x3 x4, e = .returned (dV S.p x1 x2 x3 x4 o3 S.os.length c3 S.c) ∧ S.rs = [x1, x2, x3, x4] ∧ OwnI w' B (.slice o3 S.os.length c3) S.os ∧ Below w.heap.size w w' := by
 subst hS
 unfold settledS
 rcases Bool.eq_false_or_eq_true (regsB [a', b', c', d']) with hr | hr
 ·by_cases hn : (60 : Int) < (os'.length : Int)
  ·rw [if_pos (.inr hn)]
   refine (settled_full _ _ _ _ _ _ _ _ _ _ _ _ _ _ _ _ _ _ _ _ hr hn).mono ?_
   rintro e w1 ⟨rfl, b1⟩
   exact ⟨_, _, _, _, _, _, rfl, rfl, h1.below b1, b1⟩
  ·rw [if_neg (by simp [hr, hn])]
   rcases Bool.eq_false_or_eq_true (belB p' n) with hp | hp
   ·rw [if_neg (by simp [hp])]
    refine (settled_ok _ _ _ _ _ _ _ _ _ _ _ _ _ _ _ _ _ _ _ _ hr hn hp).mono ?_
    rintro e w1 ⟨rfl, b1⟩
    exact ⟨_, _, _, _, _, _, rfl, rfl, h2.below b1, b1⟩
   ·rw [if_pos hp]
    refine (settled_out _ _ _ _ _ _ _ _ _ _ _ _ _ _ _ _ _ _ _ _ hr hn hp).mono ?_
    rintro e w1 ⟨rfl, b1⟩
    exact ⟨_, _, _, _, _, _, rfl, rfl, h2.below b1, b1⟩
 ·rw [if_pos (.inl hr)]
  refine (settled_regs _ _ _ _ _ _ _ _ _ _ _ _ _ _ _ _ _ _ _ _ hr).mono ?_
  rintro e w1 ⟨rfl, b1⟩
  exact ⟨_, _, _, _, _, _, rfl, rfl, h1.below b1, b1⟩
def lenV : Value → Nat
 | .slice _ n _ => n
 | _ => 0
theorem Lst.frozen {w : World} {B n g cap : Nat} (h : Lst w B (.slice (some ⟨g, 0, none⟩) n cap) n) (j : Nat) : w.frozen? ⟨g, j, none⟩ = false := by
 obtain ⟨xs, ho, hx⟩ := h
 exact ho.frozenAt j
def Way (w wr : World) (W0 c len cap : Nat) (a0 : Option Addr) (g n gc : Nat) : Prop :=
 Lst wr w.heap.size (.slice (some ⟨g, 0, none⟩) n gc) n ∧ Cur wr W0 c a0 len cap ∧ w.grownBy wr (some c)
theorem Way.step {w wr w' : World} {W0 c len cap g n gc : Nat} {a0 : Option Addr} (h : Way w wr W0 c len cap a0 g n gc) (hcl : c < w.heap.size) (hc : Cur w' W0 c a0 len cap) (hg : wr.grownBy w' (some c)) : Way w w' W0 c len cap a0 g n gc :=
 ⟨h.1.kept hg (fun j hj => by cases hj; exact hcl), hc, h.2.2.trans hg⟩
theorem Way.set {w wr : World} {W0 c len cap g n gc : Nat} {a0 : Option Addr} (h : Way w wr W0 c len cap a0 g n gc) (hcl : c < w.heap.size) (hcg : W0 ≤ c) (j : Nat) (x : Int) : Way w (wr.setCell ⟨g, j, none⟩ (.int .i64 x)) W0 c len cap a0 g n gc := by
 have hg := h.1.own g rfl
 exact ⟨h.1.set j x, h.2.1.setOther (p := ⟨g, j, none⟩) (by simp; omega) (by simp; omega) _, grown_setCell (p := ⟨g, j, none⟩) h.2.2 (.inr hg) _⟩
theorem l1DrawAny_any (W0 c len cap : Nat) (a0 : Option Addr) (w : World) (hc : Cur w W0 c a0 len cap) :
  Calls Tryz.prog 108 #[.pointer (some ⟨c, 0, none⟩)] w fun e w' => ∃ g n gc : Nat, e = .returned (.slice (some ⟨g, 0, none⟩) n gc) ∧ n ≤ 31 ∧ Way w w' W0 c len cap a0 g n gc := by
 have HC0 : Hid (Cur w W0 c a0 len cap) := hc
 have hcl := hc.lt
 have hcg := hc.ge
 clear hc
 go_enter Tryz.func108, Tryz.ntmps108
 go_wp2_with fail
 refine (l1Below_any W0 c len cap a0 _ _ HC0.out (by omega) (by omega)).mono ?_
 rintro e w1 ⟨me, rfl, ⟨m0, m1⟩, hc1, hg1⟩
 have HC1 : Hid (Cur w1 W0 c a0 len cap) := hc1
 have HG1 : Hid (w.grownBy w1 (some c)) := hg1
 have hs1 := hg1.size
 clear hc1 hg1 HC0
 go_wp2_with fail
 refine (l1DrawProg_any W0 c len cap a0 _ _ HC1.out m0 m1).mono ?_
 rintro e w2 ⟨v, n, rfl, ⟨n0, n1⟩, hl2, hc2, hg2⟩
 have hvf : ∃ g gc, v = .slice (some ⟨g, 0, none⟩) n gc ∧ w1.heap.size ≤ g ∧ g < w2.heap.size := hl2.form (by omega)
 obtain ⟨g, gc, hv, hgB, hgl⟩ := hvf
 rw [hv]
 rw [hv] at hl2
 have HW2 : Hid (Way w w2 W0 c len cap a0 g n gc) := ⟨hl2.mono hs1, hc2, HG1.out.trans hg2⟩
 have n0' : (1 : Int) ≤ (n : Int) := by omega
 have n1' : (n : Int) ≤ 11 := by omega
 clear hl2 hc2 hg2 HC1 HG1 hv hs1
 go_wp2_with fail
 refine (l1Once_any W0 c len cap a0 _ _ HW2.out.2.1 (by omega) (by omega)).mono ?_
 rintro e w3 ⟨t, rfl, hc3, hg3⟩
 have HW3 : Hid (Way w w3 W0 c len cap a0 g n gc) := HW2.out.step hcl hc3 hg3
 clear hc3 hg3 HW2
 cases t
 case true =>
  go_wp2_with fail
  refine (l1Below_any W0 c len cap a0 _ _ HW3.out.2.1 n0' (by omega)).mono ?_
  rintro e w4 ⟨x, rfl, ⟨x0, x1⟩, hc4, hg4⟩
  obtain ⟨k, rfl⟩ := Int.eq_ofNat_of_zero_le x0
  have hk : k < n := by omega
  have HW4 : Hid (Way w w4 W0 c len cap a0 g n gc) := HW3.out.step hcl hc4 hg4
  obtain ⟨G, hG⟩ := HW4.out.1.at
  obtain ⟨c0, c1, c2, c3, c4⟩ := hG k hk
  rw [Nat.zero_add] at c0 c1 c2 c3 c4
  clear hc4 hg4 HW3 hG
  go_wp2_with fail
  refine (l1Spoil_any W0 c len cap a0 _ _ _ _ _ _ HW4.out.2.1).mono ?_
  rintro e w5 ⟨o, r, a, b, nn, rfl, hc5, hg5⟩
  have HW5 : Hid (Way w w5 W0 c len cap a0 g n gc) := HW4.out.step hcl hc5 hg5
  obtain ⟨G5, hG5⟩ := HW5.out.1.at
  obtain ⟨d0, d1, d2, d3, d4⟩ := hG5 k hk
  rw [Nat.zero_add] at d0 d1 d2 d3 d4
  have f0 := HW5.out.1.frozen (k * 5)
  have f1 := HW5.out.1.frozen (k * 5 + 1)
  have f2 := HW5.out.1.frozen (k * 5 + 2)
  have f3 := HW5.out.1.frozen (k * 5 + 3)
  have f4 := HW5.out.1.frozen (k * 5 + 4)
  clear hc5 hg5 HW4 hG5 c0 c1 c2 c3 c4
  have HW6 : Hid (Way w (((((w5.setCell ⟨g, k * 5, none⟩ (.int .i64 o)).setCell ⟨g, k * 5 + 1, none⟩ (.int .i64 r)).setCell ⟨g, k * 5 + 2, none⟩ (.int .i64 a)).setCell ⟨g, k * 5 + 3, none⟩ (.int .i64 b)).setCell ⟨g, k * 5 + 4, none⟩ (.int .i64 nn)) W0 c len cap a0 g n gc) :=
   ((((HW5.out.set hcl hcg _ _).set hcl hcg _ _).set hcl hcg _ _).set hcl hcg _ _).set hcl hcg _ _
  go_wp2_with fail
  refine (l1Once_any W0 c len cap a0 _ _ HW6.out.2.1 (by omega) (by omega)).mono ?_
  rintro e w7 ⟨t, rfl, hc7, hg7⟩
  have HW7 : Hid (Way w w7 W0 c len cap a0 g n gc) := HW6.out.step hcl hc7 hg7
  clear hc7 hg7 HW6 HW5 d0 d1 d2 d3 d4 f0 f1 f2 f3 f4
  cases t
  case false =>
   go_wp2
   go_ret
   exact ⟨g, n, gc, rfl, by omega, HW7.out⟩
  case true =>
   go_wp2_with fail
   go_loopw [3] (fun l wr => ∃ m g' gc' : Nat, (1 ≤ m ∧ m ≤ 31) ∧ l = .slice (some ⟨g', 0, none⟩) m gc' ∧ Hid (Way w wr W0 c len cap a0 g' m gc')) (fun l _ => 32 - lenV l)
   case atStart => exact ⟨n, g, gc, by omega, rfl, HW7⟩
   case round =>
    obtain ⟨m, g', gc', ⟨m0, m1⟩, rfl, HR⟩ := hrel
    go_wp2_with fail
    refine (l1Below_any W0 c len cap a0 _ _ HR.out.2.1 (by omega) (by omega)).mono ?_
    rintro e w8 ⟨y, rfl, ⟨y0, y1⟩, hc8, hg8⟩
    have HW8 : Hid (Way w w8 W0 c len cap a0 g' m gc') := HR.out.step hcl hc8 hg8
    have hs8 := HW8.out.2.2.size
    clear hc8 hg8 HR
    by_cases hlt : (m : Int) < 30 + y
    ·go_wp2_with (at_builtin; refine append_ins w8 rfl _ _ rfl w.heap.size (.slice (some ⟨g', 0, none⟩) m gc') m rfl HW8.out.1 11 0 0 0 0 rfl (by omega) hs8 ?_; intro v' w9 hl9 hg9; have HC9 : Hid (Cur w9 W0 c a0 len cap ∧ w.grownBy w9 (some c)) := ⟨Lst.cur HW8.out.1 HW8.out.2.1 hg9 hcl hcg, (HW8.out.2.2.trans (World.grownBy_alloc _ _ _)).andThen hg9 (fun j hj => .inl (HW8.out.1.own j hj))⟩; obtain ⟨g9, c9, hv9, _, _⟩ := hl9.form (by omega); rw [hv9]; rw [hv9] at hl9; have HL9 : Hid (Lst w9 w.heap.size (.slice (some ⟨g9, 0, none⟩) (m + 1) c9) (m + 1)) := hl9; clear hl9 hg9 HW8 hv9 v')
     go_roundw
     case rel => exact ⟨m + 1, g9, c9, by omega, rfl, HL9.out, HC9.out⟩
     case measure => simp [lenV]; omega
    ·go_wp2
     go_ret
     exact ⟨g', m, gc', rfl, by omega, HW8.out⟩
 case false =>
  go_wp2_with fail
  refine (l1Once_any W0 c len cap a0 _ _ HW3.out.2.1 (by omega) (by omega)).mono ?_
  rintro e w7 ⟨t, rfl, hc7, hg7⟩
  have HW7 : Hid (Way w w7 W0 c len cap a0 g n gc) := HW3.out.step hcl hc7 hg7
  clear hc7 hg7 HW3
  cases t
  case false =>
   go_wp2
   go_ret
   exact ⟨g, n, gc, rfl, by omega, HW7.out⟩
  case true =>
   go_wp2_with fail
   go_loopw [3] (fun l wr => ∃ m g' gc' : Nat, (1 ≤ m ∧ m ≤ 31) ∧ l = .slice (some ⟨g', 0, none⟩) m gc' ∧ Hid (Way w wr W0 c len cap a0 g' m gc')) (fun l _ => 32 - lenV l)
   case atStart => exact ⟨n, g, gc, by omega, rfl, HW7⟩
   case round =>
    obtain ⟨m, g', gc', ⟨m0, m1⟩, rfl, HR⟩ := hrel
    go_wp2_with fail
    refine (l1Below_any W0 c len cap a0 _ _ HR.out.2.1 (by omega) (by omega)).mono ?_
    rintro e w8 ⟨y, rfl, ⟨y0, y1⟩, hc8, hg8⟩
    have HW8 : Hid (Way w w8 W0 c len cap a0 g' m gc') := HR.out.step hcl hc8 hg8
    have hs8 := HW8.out.2.2.size
    clear hc8 hg8 HR
    by_cases hlt : (m : Int) < 30 + y
    ·go_wp2_with (at_builtin; refine append_ins w8 rfl _ _ rfl w.heap.size (.slice (some ⟨g', 0, none⟩) m gc') m rfl HW8.out.1 11 0 0 0 0 rfl (by omega) hs8 ?_; intro v' w9 hl9 hg9; have HC9 : Hid (Cur w9 W0 c a0 len cap ∧ w.grownBy w9 (some c)) := ⟨Lst.cur HW8.out.1 HW8.out.2.1 hg9 hcl hcg, (HW8.out.2.2.trans (World.grownBy_alloc _ _ _)).andThen hg9 (fun j hj => .inl (HW8.out.1.own j hj))⟩; obtain ⟨g9, c9, hv9, _, _⟩ := hl9.form (by omega); rw [hv9]; rw [hv9] at hl9; have HL9 : Hid (Lst w9 w.heap.size (.slice (some ⟨g9, 0, none⟩) (m + 1) c9) (m + 1)) := hl9; clear hl9 hg9 HW8 hv9 v')
     go_roundw
     case rel => exact ⟨m + 1, g9, c9, by omega, rfl, HL9.out, HC9.out⟩
     case measure => simp [lenV]; omega
    ·go_wp2
     go_ret
     exact ⟨g', m, gc', rfl, by omega, HW8.out⟩
end Go.Proofs.YtbleeedbiipfnaaGreatDoor
