/- Live systems: copied. -/
import Derived.Test.YtfdanemmefckpaaGreatDoorOc0
import Derived.Test.YtfdanemmefckpaaGreatDoorOc20
import Derived.Test.YtfdanemmefckpaaGreatDoorOc18
import Derived.Test.YtfdanemmefckpaaGreatDoorOc22
import Derived.Test.YtfdanemmefckpaaGreatDoorOc19
import Derived.Test.YtfdanemmefckpaaGreatDoorOc16
namespace Go.Proofs.YtfdanemmefckpaaGreatDoor
set_option maxRecDepth 100000
set_option maxHeartbeats 2000000
open Go.ChangeShapes Go.WideShapes Go.ChangeAt Go.RowKit Go.Deep
def mkS (x : Int) (s : S4) : S4 := ⟨x, marks (x + 1) s.rs.length, marks (x + 1 + s.rs.length) s.os.length, x + 1 + s.rs.length + s.os.length⟩
theorem flat_set14 {f : Nat → List Value} {n i : Nat} (hl : ∀ j, j < n → (f j).length = 4) (_hi : i < n) {a0 d0 b c : Value} (hf : f i = [a0, b, c, d0]) (a d : Value) :
  flat (fun j => if j = i then [a, b, c, d] else f j) n = ((flat f n).set (i * 4) a).set (i * 4 + 3) d := by
 have hl' : ∀ j, j < n → ((fun j => if j = i then [a, b, c, d] else f j) j).length = 4 := fun j hj => by
  by_cases e : j = i
  ·simp [e]
  ·simp [e, hl j hj]
 have n1 := flat_len hl
 have n2 := flat_len hl'
 apply List.ext_getElem?
 intro q
 by_cases hq : q < n * 4
 ·have hk : q / 4 < n := by omega
  have hr : q % 4 < 4 := by omega
  have e0 : q = q / 4 * 4 + q % 4 := by omega
  have e1 := flat_at hl' hk hr
  have e2 := flat_at hl hk hr
  rw [← e0] at e1 e2
  rw [e1]
  simp only [List.getElem?_set, List.length_set, n1]
  by_cases ei : q / 4 = i
  ·simp only [if_pos ei]
   rw [ei, hf] at e2
   have hrK : q % 4 = 0 ∨ q % 4 = 1 ∨ q % 4 = 2 ∨ q % 4 = 3 := by omega
   rcases hrK with h | h | h | h <;> rw [h] at e2 ⊢
   ·rw [if_neg (by omega), if_pos (by omega), if_pos (by omega)]
    simp
   ·rw [if_neg (by omega), if_neg (by omega), e2]
    simp
   ·rw [if_neg (by omega), if_neg (by omega), e2]
    simp
   ·rw [if_pos (by omega), if_pos (by omega)]
    simp
  ·simp only [if_neg ei]
   rw [if_neg (by omega), if_neg (by omega), e2]
 ·rw [List.getElem?_eq_none (by omega), List.getElem?_eq_none (by simp only [List.length_set]; omega)]
theorem LS.mark {w : World} {P : Nat → Prop} {n : Nat} {vs : Nat → Value} {S : Nat → S4} {g cap j : Nat} (o : LS w P (.slice (some ⟨g, 0, none⟩) n cap) n vs S) (hj : j < n) {p code : Int} {ra oa : Option Addr} {rn rc on oc : Nat} (hv : vs j = stV p ra rn rc oa on oc code) (X C : Int) {w1 w2 : World} {rs' os' : List Int}
  (g1 : (w.setCell ⟨g, j * 4, none⟩ (.int .i64 X)).grownBy w1 (Value.slice ra rn rc).ownBlock) (g2 : w1.grownBy w2 (Value.slice oa on oc).ownBlock) (r1 : OwnI w2 0 (.slice ra rn rc) rs') (r2 : OwnI w2 0 (.slice oa on oc) os') :
  LS (w2.setCell ⟨g, j * 4 + 3, none⟩ (.int .i64 C)) P (.slice (some ⟨g, 0, none⟩) n cap) n (fun t => if t = j then stV X ra rn rc oa on oc C else vs t) (fun t => if t = j then ⟨X, rs', os', C⟩ else S t) ∧ Touch P w (w2.setCell ⟨g, j * 4 + 3, none⟩ (.int .i64 C)) := by
 have hg : g < w.heap.size := (o.row.lt g rfl).2
 have hRb : ∀ k, (Value.slice ra rn rc).ownBlock = some k → hasBlock (vs j) k := fun k hk => by rw [hv]; exact (hasBlock_iff _ _ _ _ _).2 (.inl hk)
 have hOb : ∀ k, (Value.slice oa on oc).ownBlock = some k → hasBlock (vs j) k := fun k hk => by rw [hv]; exact (hasBlock_iff _ _ _ _ _).2 (.inr hk)
 have ng : ¬ hasBlock (vs j) g := fun h => o.ra j hj g h rfl
 have z1 : w.heap.size ≤ w1.heap.size := by have := g1.size; simpa using this
 have hkeep : ∀ k, k < w.heap.size → k ≠ g → ¬ hasBlock (vs j) k → w2.heap[k]? = w.heap[k]? := fun k hk hne hnb => (g2.block k (by omega) fun e => hnb (hOb k e.symm)).trans ((g1.block k (by simpa using hk) fun e => hnb (hRb k e.symm)).trans (Below.heap_setCell _ _ _ _ hne))
 have hgk : w2.heap[g]? = (w.setCell ⟨g, j * 4, none⟩ (.int .i64 X)).heap[g]? := (g2.block g (by omega) fun e => ng (hOb g e.symm)).trans (g1.block g (by simpa using hg) fun e => ng (hRb g e.symm))
 have lts : ∀ t, t < n → ∀ k, hasBlock (vs t) k → k < w.heap.size := fun t ht k hk => ((o.own t ht).lt hk).2
 have hl : ∀ t, t < n → (cellsL (vs t)).length = 4 := fun t ht => (o.own t ht).cellsL.1
 have hhb : ∀ k, hasBlock (stV X ra rn rc oa on oc C) k → hasBlock (vs j) k := fun k hk => by
  rcases (hasBlock_iff _ _ _ _ _).1 hk with h | h
  ·exact hRb k h
  ·exact hOb k h
 refine ⟨⟨?_, fun t ht => ?_, o.rb, fun t ht k hk => ?_, fun t ht k hk => ?_, fun a b ha hb hab k hk => ?_⟩, ?_⟩
 ·have e : flat (fun t => cellsL (if t = j then stV X ra rn rc oa on oc C else vs t)) n = flat (fun t => if t = j then [.int .i64 X, .slice ra rn rc, .slice oa on oc, .int .i64 C] else cellsL (vs t)) n := flat_congr fun t _ => by
   by_cases et : t = j
   ·rw [if_pos et, if_pos et]; rfl
   ·rw [if_neg et, if_neg et]
  rw [e, flat_set14 hl hj (by rw [hv]; rfl)]
  exact (World.ownsRow.stored (ownsRow_blkL (World.ownsRow.stored o.row (j * 4) (.int .i64 X)).1 fun k hk => by cases hk; exact hgk) _ _).1
 ·by_cases et : t = j
  ·subst et
   simp only [if_true]
   obtain ⟨vr, vo, ee, -, -, hap⟩ := o.own t hj
   rw [hv] at ee
   simp only [stV, Value.agg.injEq, Array.mk.injEq, List.cons.injEq, and_true] at ee
   obtain ⟨-, rfl, rfl, -⟩ := ee
   refine ⟨.slice ra rn rc, .slice oa on oc, rfl, r1.blk fun k hk => Below.heap_setCell _ _ _ _ fun (e : k = g) => ng (by rw [← e]; exact hRb k hk), r2.blk fun k hk => Below.heap_setCell _ _ _ _ fun (e : k = g) => ng (by rw [← e]; exact hOb k hk), hap⟩
  ·simp only [if_neg et]
   exact (o.own t ht).blk fun k hk => (Below.heap_setCell _ _ _ _ fun e => o.ra t ht k hk (by rw [e]; rfl)).trans (hkeep k (lts t ht k hk) (fun e => o.ra t ht k hk (by rw [e]; rfl)) fun h => o.oa t j ht hj et k hk h)
 ·by_cases et : t = j
  ·simp only [if_pos et] at hk
   exact o.ob j hj k (hhb k hk)
  ·simp only [if_neg et] at hk
   exact o.ob t ht k hk
 ·by_cases et : t = j
  ·simp only [if_pos et] at hk
   exact o.ra j hj k (hhb k hk)
  ·simp only [if_neg et] at hk
   exact o.ra t ht k hk
 ·intro hbk
  by_cases ea : a = j
  ·have eb : b ≠ j := fun e => hab (by omega)
   simp only [if_pos ea] at hk
   simp only [if_neg eb] at hbk
   exact o.oa j b hj hb (Ne.symm eb) k (hhb k hk) hbk
  ·simp only [if_neg ea] at hk
   by_cases eb : b = j
   ·simp only [if_pos eb] at hbk
    exact o.oa a j ha hj ea k hk (hhb k hbk)
   ·simp only [if_neg eb] at hbk
    exact o.oa a b ha hb hab k hk hbk
 ·have t1 : Touch P w (w.setCell ⟨g, j * 4, none⟩ (.int .i64 X)) := Touch.of_set _ (o.rb g rfl) _
  have t2 : Touch P (w.setCell ⟨g, j * 4, none⟩ (.int .i64 X)) w1 := Touch.of_grown g1 fun k e => o.ob j hj k (hRb k e)
  have t3 : Touch P w1 w2 := Touch.of_grown g2 fun k e => o.ob j hj k (hOb k e)
  exact ((t1.trans t2).trans t3).trans (Touch.of_set _ (o.rb g rfl) _)
theorem LS.cast {w : World} {P : Nat → Prop} {v : Value} {n : Nat} {vs : Nat → Value} {S S' : Nat → S4} (o : LS w P v n vs S) (h : ∀ i, i < n → S i = S' i) : LS w P v n vs S' :=
 ⟨o.row, fun i hi => by rw [← h i hi]; exact o.own i hi, o.rb, o.ob, o.ra, o.oa⟩
theorem markStateS_own (v : Value) (P : Nat → Prop) (n : Nat) (vs : Nat → Value) (S : Nat → S4) (k : Int) (w : World) (hn : n ≤ 1048576) (hl : sumL (lenS S) n ≤ 1048576) (k0 : 0 ≤ k) (k1 : k ≤ 50000000) (o : LS w P v n vs S) :
  Calls Tryz.prog 43 #[v, .int .i64 k] w fun e w' => e = .returned (.int .i64 (k + (2 * n + sumL (lenS S) n : Nat))) ∧ (∃ us, LS w' P v n us (fun i => mkS (k + (2 * i + sumL (lenS S) i : Nat)) (S i))) ∧ Touch P w w' := by
 have hl' : (n : Int) ≤ 1048576 := by omega
 obtain ⟨a1, c1, rfl⟩ := ownsRow_slice o.row
 have O : Hid (LS w P (.slice a1 n c1) n vs S) := o
 have HL : Hid (sumL (lenS S) n ≤ 1048576) := hl
 clear o hl
 go_enter Tryz.func43, Tryz.ntmps43
 go_wp2_with fail
 go_loopw [1, 5] (fun q i wr => ∃ j : Nat, j ≤ n ∧ i = .int .i64 j ∧ q = .int .i64 (k + (2 * j + sumL (lenS S) j : Nat)) ∧ Hid ((∃ us, LS wr P (.slice a1 n c1) n us (fun t => if t < j then mkS (k + (2 * t + sumL (lenS S) t : Nat)) (S t) else S t)) ∧ Touch P w wr)) (fun _ i _ => n - (intOf i).toNat)
 case atStart => exact ⟨0, Nat.zero_le _, rfl, by simp [sumL], ⟨vs, O.out.cast fun i _ => by rw [if_neg (by omega)]⟩, Touch.refl _ _⟩
 case round =>
  obtain ⟨j, hj, rfl, rfl, HT⟩ := hrel
  by_cases hlt : j < n
  ·have hlt' : (j : Int) < (n : Int) := by omega
   obtain ⟨⟨us, ol⟩, tw⟩ := HT.out
   obtain ⟨D, m1, e1, Pg, hD, cel, fz⟩ := ol.cell hlt
   obtain rfl := slice_form e1
   rw [if_neg (by omega)] at cel
   obtain ⟨ra, rc, oa, oc, ev, c0, c1', c2, c3⟩ := cel
   have how := ol.own j hlt
   rw [if_neg (by omega), ev] at how
   obtain ⟨w1r, w1o, wap⟩ := how.parts
   have OL : Hid (LS wr P (.slice (some ⟨D, 0, none⟩) n c1) n us (fun t => if t < j then mkS (k + (2 * t + sumL (lenS S) t : Nat)) (S t) else S t)) := ol
   have TW : Hid (Touch P w wr) := tw
   have OR : Hid (OwnI wr 0 (.slice ra (S j).rs.length rc) (S j).rs) := w1r
   have OO : Hid (OwnI wr 0 (.slice oa (S j).os.length oc) (S j).os) := w1o
   have AP : Hid (∀ b, (Value.slice ra (S j).rs.length rc).ownBlock = some b → (Value.slice oa (S j).os.length oc).ownBlock ≠ some b) := wap
   have HV : Hid (us j = stV (S j).p ra (S j).rs.length rc oa (S j).os.length oc (S j).c) := ev
   have nR : some D ≠ (Value.slice ra (S j).rs.length rc).ownBlock := fun e => ol.ra j hlt D (by rw [ev]; exact (hasBlock_iff _ _ _ _ _).2 (.inl e.symm)) rfl
   have nO : some D ≠ (Value.slice oa (S j).os.length oc).ownBlock := fun e => ol.ra j hlt D (by rw [ev]; exact (hasBlock_iff _ _ _ _ _).2 (.inr e.symm)) rfl
   have hsl := sumL_at (lenS S) hlt
   have hS := HL.out
   have hlk : lenS S j = (S j).rs.length + (S j).os.length := rfl
   have r1 : (S j).rs.length ≤ 1048576 := by omega
   have r2 : (S j).os.length ≤ 1048576 := by omega
   have HX : Hid (mkS (k + (2 * j + sumL (lenS S) j : Nat)) (S j) = mkS (k + (2 * j + sumL (lenS S) j : Nat)) (S j)) := rfl
   generalize hx : k + (2 * j + sumL (lenS S) j : Nat) = X at *
   have x0 : 0 ≤ X := by omega
   have x1 : X ≤ 60000000 := by omega
   have HN : Hid (X + 1 + (S j).rs.length + (S j).os.length + 1 = k + (2 * (j + 1) + sumL (lenS S) (j + 1) : Nat)) := by
    show X + 1 + (S j).rs.length + (S j).os.length + 1 = k + (2 * (j + 1) + sumL (lenS S) (j + 1) : Nat)
    simp only [sumL]
    omega
   have HJ : Hid (k + (2 * j + sumL (lenS S) j : Nat) = X) := hx
   have rI : ((S j).rs.length : Int) ≤ 1048576 := by omega
   have oI : ((S j).os.length : Int) ≤ 1048576 := by omega
   clear ev wap w1r w1o how hsl hS hlk hx ol tw e1 HT HX
   go_wp2_with fail
   refine (markIntS_any ra rc 0 (S j).rs _ _ r1 (by omega) (by omega) (OR.out.blk fun b hb => Below.heap_setCell _ _ _ _ fun e => nR (by rw [hb, e]))).mono ?_
   rintro e w1 ⟨rfl, q1, g1⟩
   obtain ⟨d1, f1⟩ := gcell g1 (b := D) (by simpa using hD) nR
   have OO1 : Hid (OwnI w1 0 (.slice oa (S j).os.length oc) (S j).os) := own_apart (OO.out.blk fun b hb => Below.heap_setCell _ _ _ _ fun e => nO (by rw [hb, e])) g1 AP.out
   have hD1 : D < w1.heap.size := by have := g1.size; simp at this; omega
   have G1 : Hid (World.grownBy (wr.setCell ⟨D, j * 4, none⟩ (.int .i64 X)) w1 (Value.slice ra (S j).rs.length rc).ownBlock) := g1
   have R1 : Hid (OwnI w1 0 (.slice ra (S j).rs.length rc) (marks (X + 1) (S j).rs.length)) := q1
   clear g1 q1
   go_wp2_with fail
   refine (markIntS_any oa oc 0 (S j).os _ _ r2 (by omega) (by omega) OO1.out).mono ?_
   rintro e w2 ⟨rfl, q2, g2⟩
   obtain ⟨d2, f2⟩ := gcell g2 (b := D) hD1 nO
   have R2 : OwnI w2 0 (.slice ra (S j).rs.length rc) (marks (X + 1) (S j).rs.length) := own_apart R1.out g2 fun b hb e => AP.out b e hb
   have HM := OL.out.mark hlt HV.out X (X + 1 + (S j).rs.length + (S j).os.length) G1.out g2 R2 q2
   have HT2 : Hid ((∃ us, LS (w2.setCell ⟨D, j * 4 + 3, none⟩ (.int .i64 (X + 1 + (S j).rs.length + (S j).os.length))) P (.slice (some ⟨D, 0, none⟩) n c1) n us (fun t => if t < j + 1 then mkS (k + (2 * t + sumL (lenS S) t : Nat)) (S t) else S t)) ∧ Touch P w (w2.setCell ⟨D, j * 4 + 3, none⟩ (.int .i64 (X + 1 + (S j).rs.length + (S j).os.length)))) := by
    refine ⟨⟨_, HM.1.cast fun t ht => ?_⟩, TW.out.trans HM.2⟩
    by_cases et : t = j
    ·rw [if_pos et, if_pos (by omega), et, HJ.out]
     rfl
    ·rw [if_neg et]
     by_cases e2 : t < j
     ·rw [if_pos e2, if_pos (by omega)]
     ·rw [if_neg e2, if_neg (by omega)]
   clear g2 G1 OO1 OO OR AP HV R1 R2 HM q2 OL TW
   go_wp2
   go_roundw
   case rel => exact ⟨j + 1, by omega, by go_num, by rw [HN.out], HT2.out⟩
   case measure => simp [intOf]; omega
  ·have hkl : j = n := by omega
   subst hkl
   have HT1 : Hid ((∃ us, LS wr P (.slice a1 j c1) j us (fun i => mkS (k + (2 * i + sumL (lenS S) i : Nat)) (S i))) ∧ Touch P w wr) := by
    obtain ⟨⟨us, ol⟩, tw⟩ := HT.out
    exact ⟨⟨us, ol.cast fun t ht => by rw [if_pos ht]⟩, tw⟩
   clear HT
   go_wp2
   go_ret
   exact ⟨rfl, HT1.out⟩
theorem heldStateS_own (v : Value) (P : Nat → Prop) (n : Nat) (us : Nat → Value) (S : Nat → S4) (k : Int) (w : World) (hn : n ≤ 1048576) (hl : sumL (lenS S) n ≤ 1048576) (k0 : 0 ≤ k) (k1 : k ≤ 50000000) (o : LS w P v n us (fun i => mkS (k + (2 * i + sumL (lenS S) i : Nat)) (S i))) :
  Calls Tryz.prog 113 #[v, .int .i64 k] w fun e w' => e = .returned (.int .i64 (k + (2 * n + sumL (lenS S) n : Nat))) ∧ Below w.heap.size w w' := by
 have hl' : (n : Int) ≤ 1048576 := by omega
 obtain ⟨a1, c1, rfl⟩ := ownsRow_slice o.row
 have O : Hid (LS w P (.slice a1 n c1) n us (fun i => mkS (k + (2 * i + sumL (lenS S) i : Nat)) (S i))) := o
 have HL : Hid (sumL (lenS S) n ≤ 1048576) := hl
 clear o hl
 go_enter Tryz.func113, Tryz.ntmps113
 go_wp2_with fail
 go_loopw [1, 5] (fun q i wr => ∃ j : Nat, j ≤ n ∧ i = .int .i64 j ∧ q = .int .i64 (k + (2 * j + sumL (lenS S) j : Nat)) ∧ Below w.heap.size w wr) (fun _ i _ => n - (intOf i).toNat)
 case atStart => exact ⟨0, Nat.zero_le _, rfl, by simp [sumL], Below.refl _ _⟩
 case round =>
  obtain ⟨j, hj, rfl, rfl, hbw⟩ := hrel
  by_cases hlt : j < n
  ·have hlt' : (j : Int) < (n : Int) := by omega
   have Q := O.out.below hbw
   obtain ⟨D, m1, e1, -, hD, ⟨ra, rc, oa, oc, ev, c0, c1', c2, c3⟩, -⟩ := Q.cell hlt
   obtain rfl := slice_form e1
   have how := Q.own j hlt
   rw [ev] at how
   have hs1 := how.parts.1.slOf
   have hs2 := how.parts.2.1.slOf
   simp only [mkS, marks_length] at c0 c1' c2 c3 hs1 hs2
   have hsl := sumL_at (lenS S) hlt
   have hS := HL.out
   have hlk : lenS S j = (S j).rs.length + (S j).os.length := rfl
   have r1 : (S j).rs.length ≤ 1048576 := by omega
   have r2 : (S j).os.length ≤ 1048576 := by omega
   generalize hx : k + (2 * j + sumL (lenS S) j : Nat) = X at *
   have x0 : 0 ≤ X := by omega
   have x1 : X ≤ 60000000 := by omega
   have HN : Hid (X + 1 + (S j).rs.length + (S j).os.length + 1 = k + (2 * (j + 1) + sumL (lenS S) (j + 1) : Nat)) := by
    show X + 1 + (S j).rs.length + (S j).os.length + 1 = k + (2 * (j + 1) + sumL (lenS S) (j + 1) : Nat)
    simp only [sumL]
    omega
   have SA : Hid (Sl wr ra (marks (X + 1) (S j).rs.length) ∧ Sl wr oa (marks (X + 1 + (S j).rs.length) (S j).os.length)) := ⟨hs1, hs2⟩
   have rI : ((S j).rs.length : Int) ≤ 1048576 := by omega
   have oI : ((S j).os.length : Int) ≤ 1048576 := by omega
   have n1 : ¬ (X + 1 + ((S j).rs.length : Int) < 0) := by omega
   have n2 : ¬ (X + 1 + ((S j).rs.length : Int) + ((S j).os.length : Int) < 0) := by omega
   clear hs1 hs2 how Q ev hsl hS hlk hx e1
   go_wp2_with fail
   refine (heldIntS_marks ra rc (S j).rs.length (X + 1) wr r1 (by omega) (by omega) SA.out.1).mono ?_
   rintro e w1 ⟨rfl, hw1⟩
   rw [hw1]
   clear hw1 w1
   go_wp2_with fail
   refine (heldIntS_marks oa oc (S j).os.length (X + 1 + (S j).rs.length) wr r2 (by omega) (by omega) SA.out.2).mono ?_
   rintro e w1 ⟨rfl, hw1⟩
   rw [hw1]
   clear hw1 w1
   go_wp2
   go_roundw
   case rel => exact ⟨j + 1, by omega, by go_num, by rw [HN.out], hbw⟩
   case measure => simp [intOf]; omega
  ·have hkl : j = n := by omega
   subst hkl
   go_wp2
   go_ret
   exact ⟨rfl, hbw⟩
structure Sy.Sums (y : Sy) : Prop where
 p : y.pn ≤ 1048576 ∧ sumL y.pL y.pn ≤ 1048576
 s : y.sn ≤ 1048576 ∧ sumL (lenS y.sS) y.sn ≤ 1048576
 w : y.wn ≤ 1048576 ∧ sumL y.wL y.wn ≤ 1048576
 h : y.hn ≤ 1048576 ∧ sumL y.hL y.hn ≤ 1048576
def mkZ2 (y : Sy) (k : Int) : Int := k + 5 * (sumL y.pL y.pn : Nat)
def mkZ3 (y : Sy) (k : Int) : Int := mkZ2 y k + (2 * y.sn + sumL (lenS y.sS) y.sn : Nat)
def mkZ4 (y : Sy) (k : Int) : Int := mkZ3 y k + 2 * (sumL y.wL y.wn : Nat)
def mkZ5 (y : Sy) (k : Int) : Int := mkZ4 y k + 3 * (sumL y.hL y.hn : Nat)
def mkY (y : Sy) (k : Int) : Sy := ⟨y.pn, y.pL, fun i => mkI (k + 5 * (sumL y.pL i : Nat)), y.sn, fun i => mkS (mkZ2 y k + (2 * i + sumL (lenS y.sS) i : Nat)) (y.sS i), y.wn, y.wL, fun i => mkT (mkZ3 y k + 2 * (sumL y.wL i : Nat)), y.hn, y.hL, fun i => mkEv (mkZ4 y k + 3 * (sumL y.hL i : Nat))⟩
theorem mkZ_bd {y : Sy} (h : y.Sums) : (0 ≤ mkZ2 y 1 ∧ mkZ2 y 1 ≤ 6000000) ∧ (0 ≤ mkZ3 y 1 ∧ mkZ3 y 1 ≤ 12000000) ∧ (0 ≤ mkZ4 y 1 ∧ mkZ4 y 1 ≤ 18000000) ∧ (0 ≤ mkZ5 y 1 ∧ mkZ5 y 1 ≤ 24000000) := by
 have h1 := h.p.2
 have h2 := h.s
 have h3 := h.w.2
 have h4 := h.h.2
 simp only [mkZ5, mkZ4, mkZ3, mkZ2]
 omega
structure ShIn where
 on : Bool
 ca : Option Addr
 cn : Nat
 cc : Nat
 cH : Nat → Int
 oa : Option Addr
 ol : Nat
 oc : Nat
 oH : Nat → Bool
 ka : Option Addr
 kn : Nat
 kc : Nat
 kA : Nat → Option Addr
 kL : Nat → Nat
 kC : Nat → Nat
 kH : Nat → Nat → Int
def ShIn.size (x : ShIn) : Nat := x.cn + x.ol + (x.kn + sumL x.kL x.kn)
abbrev shV (on : Bool) (ca : Option Addr) (cn cc : Nat) (oa : Option Addr) (ol oc : Nat) (ka : Option Addr) (kn kc : Nat) : Value := .agg #[.bool on, .slice ca cn cc, .slice oa ol oc, .slice ka kn kc]
abbrev ShIn.v (x : ShIn) : Value := shV x.on x.ca x.cn x.cc x.oa x.ol x.oc x.ka x.kn x.kc
def ShIn.Row (W : World) (x : ShIn) : Prop := RowS W x.ka x.kn fun i => .slice (x.kA i) (x.kL i) (x.kC i)
structure ShIn.Max (x : ShIn) : Prop where
 c : x.cn ≤ maxLen
 o : x.ol ≤ maxLen
 k : x.kn ≤ maxLen ∧ ∀ i, i < x.kn → x.kL i ≤ maxLen
structure ShIn.Ok (W : World) (x : ShIn) : Prop where
 c : CopiesZ W x.ca x.cn x.cc x.cH
 o : CopiesB W x.oa x.ol x.oc x.oH
 k : AllInt W x.ka x.kn x.kA x.kL x.kC x.kH
theorem ShIn.Ok.row {W : World} {x : ShIn} (h : x.Ok W) : x.Row W := h.k.row
theorem ShIn.Row.below {W w : World} {x : ShIn} (h : x.Row W) (hb : Below W.heap.size W w) : x.Row w := RowS.below h hb
structure LvIn where
 s : SysIn
 h : ShIn
def LvIn.size (x : LvIn) : Nat := x.s.size + x.h.size
abbrev LvIn.v (x : LvIn) : Value := .agg #[.slice x.s.pa x.s.pn x.s.pc, .slice x.s.sa x.s.sn x.s.sc, .slice x.s.wa x.s.wn x.s.wc, .slice x.s.ha x.s.hn x.s.hc, .bool x.h.on, .slice x.h.ca x.h.cn x.h.cc, .slice x.h.oa x.h.ol x.h.oc, .slice x.h.ka x.h.kn x.h.kc]
structure LvIn.Row (W : World) (x : LvIn) : Prop where
 s : x.s.Row W
 h : x.h.Row W
structure LvIn.Max (x : LvIn) : Prop where
 s : x.s.Max
 h : x.h.Max
structure LvIn.Ok (W : World) (x : LvIn) : Prop where
 s : x.s.Ok W
 h : x.h.Ok W
theorem LvIn.Ok.row {W : World} {x : LvIn} (h : x.Ok W) : x.Row W := ⟨h.s.row, h.h.row⟩
theorem LvIn.Row.below {W w : World} {x : LvIn} (h : x.Row W) (hb : Below W.heap.size W w) : x.Row w := ⟨h.s.below hb, h.h.below hb⟩
def BoxH (w : World) (b : Nat) (c0 c1 c2 c3 c4 c5 c6 c7 : Value) : Prop := w.cell? ⟨b, 0, none⟩ = some c0 ∧ w.cell? ⟨b, 1, none⟩ = some c1 ∧ w.cell? ⟨b, 2, none⟩ = some c2 ∧ w.cell? ⟨b, 3, none⟩ = some c3 ∧ w.cell? ⟨b, 4, none⟩ = some c4 ∧ w.cell? ⟨b, 5, none⟩ = some c5 ∧ w.cell? ⟨b, 6, none⟩ = some c6 ∧ w.cell? ⟨b, 7, none⟩ = some c7
section
variable {w w' : World} {b : Nat} {c0 c1 c2 c3 c4 c5 c6 c7 : Value}
theorem BoxH.blk (h : BoxH w b c0 c1 c2 c3 c4 c5 c6 c7) (hb : w'.heap[b]? = w.heap[b]?) : BoxH w' b c0 c1 c2 c3 c4 c5 c6 c7 := by
 obtain ⟨h0, h1, h2, h3, h4, h5, h6, h7⟩ := h
 have hc : ∀ i, w'.cell? ⟨b, i, none⟩ = w.cell? ⟨b, i, none⟩ := fun i => World.cell?_of_block hb
 exact ⟨(hc _).trans h0, (hc _).trans h1, (hc _).trans h2, (hc _).trans h3, (hc _).trans h4, (hc _).trans h5, (hc _).trans h6, (hc _).trans h7⟩
theorem BoxH.lt (h : BoxH w b c0 c1 c2 c3 c4 c5 c6 c7) : b < w.heap.size := World.block_lt_of_cell? w _ h.1
theorem BoxH.below (h : BoxH w b c0 c1 c2 c3 c4 c5 c6 c7) (hb : Below w.heap.size w w') : BoxH w' b c0 c1 c2 c3 c4 c5 c6 c7 := h.blk (hb.block b h.lt)
theorem BoxH.new (w : World) (c0 c1 c2 c3 c4 c5 c6 c7 : Value) (t : TypeId) : BoxH (w.alloc (.cells #[c0, c1, c2, c3, c4, c5, c6, c7] t)) w.heap.size c0 c1 c2 c3 c4 c5 c6 c7 :=
 ⟨new_cell _ _ _ 0 rfl, new_cell _ _ _ 1 rfl, new_cell _ _ _ 2 rfl, new_cell _ _ _ 3 rfl, new_cell _ _ _ 4 rfl, new_cell _ _ _ 5 rfl, new_cell _ _ _ 6 rfl, new_cell _ _ _ 7 rfl⟩
end
theorem ZAt.blk {w w' : World} {b off len : Nat} {h : Nat → Int} (hh : ZAt w b off len h) (hb : w'.heap[b]? = w.heap[b]?) : ZAt w' b off len h := fun i hi => (World.cell?_of_block hb).trans (hh i hi)
theorem BlAt.blk {w w' : World} {b off len : Nat} {h : Nat → Bool} (hh : BlAt w b off len h) (hb : w'.heap[b]? = w.heap[b]?) : BlAt w' b off len h := fun i hi => (World.cell?_of_block hb).trans (hh i hi)
theorem IsSys.keep {w w' : World} {lo hi : Nat} {x : SysIn} {v : Value} (o : IsSys w lo hi x v) (hs : w.heap.size ≤ w'.heap.size) (hb : ∀ k, lo ≤ k → k < hi → w'.heap[k]? = w.heap[k]?) : IsSys w' lo hi x v := by
 obtain ⟨D1, D2, D3, D4, b1, vs, b3, b4, h1, h2, h3, o⟩ := o
 obtain ⟨q1, q2, q3, q4, q5⟩ := o.hi
 have := o.lo
 have := o.o1
 have := o.o2
 have := o.o3
 have := o.pp.lt
 have := o.ss.lt
 have := o.ww.lt
 exact ⟨D1, D2, D3, D4, b1, vs, b3, b4, h1, h2, h3, o.val, o.pp.keep hs fun k _ _ => hb k (by omega) (by omega), o.ss.keep hs fun k _ _ => hb k (by omega) (by omega), o.ww.keep hs fun k _ _ => hb k (by omega) (by omega), o.hh.keep hs fun k _ _ => hb k (by omega) (by omega), o.lo, o.o1, o.o2, o.o3⟩
section
variable {w wx w' : World} {a0 a1 a2 a3 r0 r1 r2 r3 o0 o1 o2 o3 : Value}
end
theorem IsSys.hi {w : World} {lo hi : Nat} {x : SysIn} {v : Value} (o : IsSys w lo hi x v) : lo < hi ∧ hi ≤ w.heap.size := by
 obtain ⟨D1, D2, D3, D4, b1, vs, b3, b4, h1, h2, h3, o⟩ := o
 exact ⟨o.hi.2.2.2.2, o.hi.2.2.2.1⟩
theorem IsSys.val {w : World} {lo hi : Nat} {x : SysIn} {v : Value} (o : IsSys w lo hi x v) : ∃ D1 D2 D3 D4, v = sysV (some ⟨D1, 0, none⟩) x.pn x.pn (some ⟨D2, 0, none⟩) x.sn x.sn (some ⟨D3, 0, none⟩) x.wn x.wn (some ⟨D4, 0, none⟩) x.hn x.hn := by
 obtain ⟨D1, D2, D3, D4, b1, vs, b3, b4, h1, h2, h3, o⟩ := o
 exact ⟨D1, D2, D3, D4, o.val⟩
def v8 (c0 c1 c2 c3 c4 c5 c6 c7 : Value) : Nat → Value
 | 0 => c0 | 1 => c1 | 2 => c2 | 3 => c3 | 4 => c4 | 5 => c5 | 6 => c6 | _ => c7
theorem box8 {w : World} {b : Nat} {c0 c1 c2 c3 c4 c5 c6 c7 : Value} (h : BoxH w b c0 c1 c2 c3 c4 c5 c6 c7) : ∀ i, i < 8 → w.cell? ⟨b, i, none⟩ = some (v8 c0 c1 c2 c3 c4 c5 c6 c7 i) := by
 intro i hi
 obtain ⟨h0, h1, h2, h3, h4, h5, h6, h7⟩ := h
 match i, hi with
 | 0, _ => exact h0
 | 1, _ => exact h1
 | 2, _ => exact h2
 | 3, _ => exact h3
 | 4, _ => exact h4
 | 5, _ => exact h5
 | 6, _ => exact h6
 | 7, _ => exact h7
end Go.Proofs.YtfdanemmefckpaaGreatDoor
