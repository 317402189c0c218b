/- The walk of the program's told, over what the library's sort does. -/
import Derived.Test.YtkoghgnbolaooaaGreatRa43
import Derived.Test.YtkoghgnbolaooaaGreatRa47
import Derived.OwnWalk
namespace Go.Proofs.YtkoghgnbolaooaaGreat
open Go.ChangeShapes Go.WideShapes Go.ChangeAt Go.RowKit Go.Deep Go.Maps

theorem LK.congr {w : World} {P : Nat → Prop} {v : Value} {n : Nat} {N N' : Nat → Int} {vs vs' : Nat → Value} {S S' : Nat → S4} (o : LK w P v n N vs S) (h : ∀ i, i < n → N i = N' i ∧ vs i = vs' i ∧ S i = S' i) : LK w P v n N' vs' S' := by
  refine ⟨?_, fun i hi => ?_, o.rb, fun i hi k hk => ?_, fun i hi k hk => ?_, fun i j hi hj hij k hk => ?_⟩
  · rw [← flat_congr (f := fun i => .int .i64 (N i) :: cellsL (vs i)) fun i hi => by rw [(h i hi).1, (h i hi).2.1]]
    exact o.row
  · rw [← (h i hi).2.1, ← (h i hi).2.2]
    exact o.own i hi
  · rw [← (h i hi).2.1] at hk
    exact o.ob i hi k hk
  · rw [← (h i hi).2.1] at hk
    exact o.ra i hi k hk
  · rw [← (h i hi).2.1] at hk
    rw [← (h j hj).2.1]
    exact o.oa i j hi hj hij k hk
/-- A state that was there already is appended. -/
theorem LK.pushOld {w w1 w2 : World} {P : Nat → Prop} {v v' : Value} {n : Nat} {N : Nat → Int} {vs : Nat → Value} {S : Nat → S4} (o : LK w P v n N vs S) (b1 : Below w.heap.size w w1) (hu : StOwn w 0 (vs n) (S n).p (S n).rs (S n).os (S n).c) (hv : w2.ownsRow 0 53 5 v' (n + 1) (flat (fun i => .int .i64 (N i) :: cellsL (vs i)) n ++ (.int .i64 (N n) :: cellsL (vs n)))) (g : w1.grownBy w2 v.ownBlock)
    (hv' : ∀ j, v'.ownBlock = some j → v.ownBlock = some j ∨ w1.heap.size ≤ j) (hb : ∀ k, hasBlock (vs n) k → P k ∧ v.ownBlock ≠ some k) (ha : ∀ i, i < n → ∀ k, hasBlock (vs i) k → ¬ hasBlock (vs n) k) (hP : ∀ k, w1.heap.size ≤ k → k < w2.heap.size → P k) : LK w2 P v' (n + 1) N vs S := by
  have hvlt : ∀ k, v.ownBlock = some k → k < w.heap.size := fun k hk => (o.row.lt k hk).2
  have h2 : ∀ {u : Value} {T : S4}, StOwn w 0 u T.p T.rs T.os T.c → (∀ k, hasBlock u k → v.ownBlock ≠ some k) → StOwn w2 0 u T.p T.rs T.os T.c := fun hu hr => hu.blk fun k hk => (g.block k (Nat.lt_of_lt_of_le (hu.lt hk).2 b1.size) fun e => hr k hk e.symm).trans (b1.block k (hu.lt hk).2)
  have nw : ∀ k, v'.ownBlock = some k → ∀ {u : Value} {T : S4}, StOwn w 0 u T.p T.rs T.os T.c → (∀ k, hasBlock u k → v.ownBlock ≠ some k) → ¬ hasBlock u k := fun k hk {u T} hu hr h => by
    rcases hv' k hk with e | e
    · exact hr k h e
    · have := (hu.lt h).2
      have := b1.size
      omega
  refine ⟨hv, fun i hi => ?_, fun k hk => ?_, fun i hi k hk => ?_, fun i hi k hk e => ?_, fun i j hi hj hij k hk => ?_⟩
  · by_cases e : i = n
    · subst e
      exact h2 hu fun k hk => (hb k hk).2
    · exact h2 (o.own i (by omega)) fun k hk => o.ra i (by omega) k hk
  · rcases hv' k hk with e | e
    · exact o.rb k e
    · exact hP k e (hv.lt k hk).2
  · by_cases e : i = n
    · subst e
      exact (hb k hk).1
    · exact o.ob i (by omega) k hk
  · by_cases ei : i = n
    · subst ei
      exact nw k e hu (fun k hk => (hb k hk).2) hk
    · exact nw k e (o.own i (by omega)) (fun k hk => o.ra i (by omega) k hk) hk
  · by_cases ei : i = n
    · subst ei
      exact fun h => ha j (by omega) k h hk
    · by_cases ej : j = n
      · subst ej
        exact ha i (by omega) k hk
      · exact o.oa i j (by omega) (by omega) hij k hk

theorem run_make_kpc (c : Nat) (hc : c ≤ 1048576) (w : World) :
    (Instr.makeSlice 26 (.int .i64 0) (.int .i64 (c : Int))).run Tryz.prog w = .ok (.slice (some ⟨w.heap.size, 0, none⟩) 0 c) (w.alloc (.cells (madeCells #[.int .i64 0, .int .i64 0, .slice none 0 0, .slice none 0 0, .int .i64 0] (c * 5)) 53)) := by
  have hinfo := infoKpt
  cases hi : Tryz.prog.info? 53 with
  | none => rw [hi] at hinfo; cases hinfo
  | some i =>
    rw [hi] at hinfo
    simp only [Option.map_some, Option.some.injEq, Prod.mk.injEq] at hinfo
    obtain ⟨hz, hs, hb⟩ := hinfo
    have h := run_make (P := Tryz.prog) w 26 53 i _ Tryz.underlying26 hi hz .i64 .i64 (0 : Int) (c : Int) (by omega) (by omega) (by rw [hb]; omega) (by omega)
    rw [hs] at h
    have h2 : (Instr.makeSlice 26 (.int .i64 0) (.int .i64 (c : Int))).run Tryz.prog w = .ok (.slice (some ⟨w.heap.size, 0, none⟩) 0 c) (w.alloc (.cells (madeCells (kpV 0 0 none 0 0 none 0 0 0).cells (c * 5)) 53)) := by simpa using h
    exact h2
theorem LK.madeC (w : World) (P : Nat → Prop) (hP : P w.heap.size) (c : Nat) (hc : c ≤ 1048576) (N : Nat → Int) (vs : Nat → Value) (S : Nat → S4) : LK (w.alloc (.cells (madeCells #[.int .i64 0, .int .i64 0, .slice none 0 0, .slice none 0 0, .int .i64 0] (c * 5)) 53)) P (.slice (some ⟨w.heap.size, 0, none⟩) 0 c) 0 N vs S :=
  ⟨World.ownsRow_made (base := 0) w _ c (Nat.zero_le _) (by unfold maxLen; omega) (size_madeCells _ _), fun i hi => (by omega), fun k hk => by cases hk; exact hP, fun i hi => (by omega), fun i hi => (by omega), fun i j hi => (by omega)⟩

/-- The state behind j events. -/
def sAt (g : Nat → I5) (n : Nat) (eh : Nat → E3) (j : Nat) : S4 := resS (rp g n eh j)

/-- Between the rounds of told: those that have come are told, each once. -/
structure To (w wr : World) (r T m k : Nat) (g : Nat → I5) (n : Nat) (eh : Nat → E3) (V : Nat → Value) (L : Nat → Nat) (v : Value) (left : Lit → Bool) : Prop where
  lk : LK wr (fun x => T ≤ x ∧ x ≠ r) v k (fun i => ((L i : Nat) : Int)) (fun i => V (L i)) (fun i => sAt g n eh (L i))
  be : Below w.heap.size w wr
  le : ∀ i, i < k → L i ≤ m ∧ L i % 8 = 0
  ne : ∀ i j, i < k → j < k → i ≠ j → L i ≠ L j
  lf : ∀ j : Nat, left (.int .i64 (j : Int)) = true ↔ (j ≤ m ∧ j % 8 = 0 ∧ ∀ i, i < k → L i ≠ j)
  vb : ∀ x, v.ownBlock = some x → w.heap.size ≤ x

end Go.Proofs.YtkoghgnbolaooaaGreat
