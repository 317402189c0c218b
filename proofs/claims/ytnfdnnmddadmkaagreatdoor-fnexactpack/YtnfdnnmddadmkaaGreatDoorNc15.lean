/- One number more behind a list of the own. -/
import Derived.Test.YtnfdnnmddadmkaaGreatDoorNc0
import Derived.Test.YtnfdnnmddadmkaaGreatDoorNc13
import Derived.Test.YtnfdnnmddadmkaaGreatDoorNc14
import Derived.Deep.RegionHeld3
import Derived.Test.YtnfdnnmddadmkaaGreatDoorNc9
import Derived.Test.YtnfdnnmddadmkaaGreatDoorNc10
import Derived.ProofKit
import Derived.OpenShut
import Derived.ShutString
import Derived.ChangeOld
import Derived.Below
import Derived.Deep.Slices
namespace Go.Proofs.YtnfdnnmddadmkaaGreatDoor
set_option maxRecDepth 100000
set_option maxHeartbeats 4000000
open Go.RowKit
theorem new_cell (w : World) (cs : Array Value) (t : TypeId) (j : Nat) {N : Nat} (h : N = w.heap.size) : (w.alloc (.cells cs t)).cell? ⟨N, j, none⟩ = cs[j]? := by
 subst h
 simp
theorem new_frozen (w : World) (cs : Array Value) (t : TypeId) (j : Nat) {N : Nat} (h : N = w.heap.size) : (w.alloc (.cells cs t)).frozen? ⟨N, j, none⟩ = false := by
 subst h
 simp
theorem StOwn.put4 {w : World} {B B' N : Nat} {v : Value} {p code : Int} {rs os : List Int} {a b c d : Value} (h : StOwn w B' v p rs os code) (hN : N < B') (hB : B ≤ B') : StOwn ((((w.setCell ⟨N, 0, none⟩ a).setCell ⟨N, 1, none⟩ b).setCell ⟨N, 2, none⟩ c).setCell ⟨N, 3, none⟩ d) B v p rs os code := by
 obtain ⟨vr, vo, e, o1, o2, ha⟩ := h
 exact ⟨vr, vo, e, ((((o1.setBelow hN _).setBelow hN _).setBelow hN _).setBelow hN _).mono hB, ((((o2.setBelow hN _).setBelow hN _).setBelow hN _).setBelow hN _).mono hB, ha⟩
structure DoBox (w : World) (N : Nat) (p vr vo code : Value) (ek eq ev : Int) : Prop where
 p0 : w.cell? ⟨N, 0, none⟩ = some p
 p1 : w.cell? ⟨N, 1, none⟩ = some vr
 p2 : w.cell? ⟨N, 2, none⟩ = some vo
 p3 : w.cell? ⟨N, 3, none⟩ = some code
 e0 : w.cell? ⟨N + 1, 0, none⟩ = some (.int .i64 ek)
 e1 : w.cell? ⟨N + 1, 1, none⟩ = some (.int .i64 eq)
 e2 : w.cell? ⟨N + 1, 2, none⟩ = some (.int .i64 ev)
 r0 : w.cell? ⟨N + 1 + 1, 0, none⟩ = some (.int .i64 0)
 r1 : w.cell? ⟨N + 1 + 1, 1, none⟩ = some (.slice none 0 0)
 r2 : w.cell? ⟨N + 1 + 1, 2, none⟩ = some (.slice none 0 0)
 r3 : w.cell? ⟨N + 1 + 1, 3, none⟩ = some (.int .i64 0)
 rf : ∀ j, w.frozen? ⟨N + 1 + 1, j, none⟩ = false
theorem DoBox.lt {w : World} {N : Nat} {p vr vo code : Value} {ek eq ev : Int} (h : DoBox w N p vr vo code ek eq ev) : N + 1 + 1 < w.heap.size := World.block_lt_of_cell? w _ h.r0
theorem DoBox.kept {w w' : World} {N : Nat} {p vr vo code : Value} {ek eq ev : Int} (h : DoBox w N p vr vo code ek eq ev) (hb : ∀ k, N ≤ k → k ≤ N + 1 + 1 → w'.heap[k]? = w.heap[k]?) : DoBox w' N p vr vo code ek eq ev :=
 ⟨(World.cell?_of_block (hb N (by omega) (by omega))).trans h.p0, (World.cell?_of_block (hb N (by omega) (by omega))).trans h.p1, (World.cell?_of_block (hb N (by omega) (by omega))).trans h.p2, (World.cell?_of_block (hb N (by omega) (by omega))).trans h.p3,
  (World.cell?_of_block (hb (N + 1) (by omega) (by omega))).trans h.e0, (World.cell?_of_block (hb (N + 1) (by omega) (by omega))).trans h.e1, (World.cell?_of_block (hb (N + 1) (by omega) (by omega))).trans h.e2,
  (World.cell?_of_block (hb (N + 1 + 1) (by omega) (by omega))).trans h.r0, (World.cell?_of_block (hb (N + 1 + 1) (by omega) (by omega))).trans h.r1, (World.cell?_of_block (hb (N + 1 + 1) (by omega) (by omega))).trans h.r2, (World.cell?_of_block (hb (N + 1 + 1) (by omega) (by omega))).trans h.r3,
  fun j => (World.frozen?_of_block (hb (N + 1 + 1) (by omega) (by omega))).trans (h.rf j)⟩
theorem DoBox.below {w w' : World} {N : Nat} {p vr vo code : Value} {ek eq ev : Int} (h : DoBox w N p vr vo code ek eq ev) (hb : Below w.heap.size w w') : DoBox w' N p vr vo code ek eq ev :=
 h.kept fun k _ hk => hb.block k (by have := h.lt; omega)
theorem DoBox.new (w : World) (p vr vo code : Value) (ek eq ev : Int) (t u v : TypeId) : DoBox (((w.alloc (.cells #[p, vr, vo, code] t)).alloc (.cells #[.int .i64 ek, .int .i64 eq, .int .i64 ev] u)).alloc (.cells #[.int .i64 0, .slice none 0 0, .slice none 0 0, .int .i64 0] v)) w.heap.size p vr vo code ek eq ev := by
 refine ⟨?_, ?_, ?_, ?_, ?_, ?_, ?_, ?_, ?_, ?_, ?_, ?_⟩
 ·rw [old_cell _ _ (by simp; omega), old_cell _ _ (by simp)]; exact new_cell w _ _ 0 rfl
 ·rw [old_cell _ _ (by simp; omega), old_cell _ _ (by simp)]; exact new_cell w _ _ 1 rfl
 ·rw [old_cell _ _ (by simp; omega), old_cell _ _ (by simp)]; exact new_cell w _ _ 2 rfl
 ·rw [old_cell _ _ (by simp; omega), old_cell _ _ (by simp)]; exact new_cell w _ _ 3 rfl
 ·rw [old_cell _ _ (by simp)]; exact new_cell _ _ _ 0 (by simp)
 ·rw [old_cell _ _ (by simp)]; exact new_cell _ _ _ 1 (by simp)
 ·rw [old_cell _ _ (by simp)]; exact new_cell _ _ _ 2 (by simp)
 ·exact new_cell _ _ _ 0 (by simp)
 ·exact new_cell _ _ _ 1 (by simp)
 ·exact new_cell _ _ _ 2 (by simp)
 ·exact new_cell _ _ _ 3 (by simp)
 ·exact fun j => new_frozen _ _ _ j (by simp)
def EvC3 (w : World) (N : Nat) (k p v : Int) : Prop := w.cell? ⟨N, 0, none⟩ = some (.int .i64 k) ∧ w.cell? ⟨N, 1, none⟩ = some (.int .i64 p) ∧ w.cell? ⟨N, 2, none⟩ = some (.int .i64 v)
theorem EvC3.below {w w' : World} {N : Nat} {k p v : Int} (h : EvC3 w N k p v) (hb : Below w.heap.size w w') : EvC3 w' N k p v := by
 obtain ⟨h0, h1, h2⟩ := h
 have hN : N < w.heap.size := World.block_lt_of_cell? w _ h0
 exact ⟨(hb.cell (p := ⟨N, 0, none⟩) hN).trans h0, (hb.cell (p := ⟨N, 1, none⟩) hN).trans h1, (hb.cell (p := ⟨N, 2, none⟩) hN).trans h2⟩
theorem EvC3.new (w : World) (k p v : Int) (t : TypeId) : EvC3 (w.alloc (.cells #[.int .i64 k, .int .i64 p, .int .i64 v] t)) w.heap.size k p v := by
 unfold EvC3
 simp
theorem StOwn.recode {w : World} {B : Nat} {p code : Int} {ra oa : Option Addr} {rn rc on oc : Nat} {rs os : List Int} (h : StOwn w B (stV p ra rn rc oa on oc code) p rs os code) (c : Int) : StOwn w B (stV p ra rn rc oa on oc c) p rs os c := by
 obtain ⟨vr, vo, e, o1, o2, ha⟩ := h
 simp only [stV, Value.agg.injEq, Array.mk.injEq, List.cons.injEq, and_true, true_and] at e
 obtain ⟨rfl, rfl⟩ := e
 exact ⟨_, _, rfl, o1, o2, ha⟩
theorem StOwn.replace {w : World} {B : Nat} {p code : Int} {ra oa : Option Addr} {rn rc on oc : Nat} {rs os : List Int} (h : StOwn w B (stV p ra rn rc oa on oc code) p rs os code) (q : Int) : StOwn w B (stV q ra rn rc oa on oc code) q rs os code := by
 obtain ⟨vr, vo, e, o1, o2, ha⟩ := h
 simp only [stV, Value.agg.injEq, Array.mk.injEq, List.cons.injEq, and_true, true_and] at e
 obtain ⟨rfl, rfl⟩ := e
 exact ⟨_, _, rfl, o1, o2, ha⟩
theorem DoBox.marked {w w' : World} {N : Nat} {p vr vo code v : Value} {ek eq ev : Int} (h : DoBox w N p vr vo code ek eq ev) (m : Marked v w w') (hv : ∀ k, hasBlock v k → N + 1 + 1 < k) : DoBox w' N p vr vo code ek eq ev :=
 h.kept fun k _ hk => m.block k (by have := h.lt; omega) (fun hh => by have := hv k hh; omega)
def evEqB (a b c a' b' c' : Int) : Bool := a == a' && (b == b' && c == c')
theorem eql_ev (a b c a' b' c' : Int) (w : World) : (binOp .eql 83 (evV a b c) (evV a' b' c')).run Tryz.prog w = .ok (.bool (evEqB a b c a' b' c')) w := by
 rw [run_eql_struct, show (10000 : Nat) = 9998 + 1 + 1 from rfl, run_equalIn_agg w (9998 + 1) 83 _ _ (by kernel_rfl) (by kernel_rfl)]
 simp only [evEqB]
 by_cases h1 : a = a' <;> by_cases h2 : b = b' <;> by_cases h3 : c = c' <;> simp [go_sem, h1, h2, h3]
theorem neq_ev (a b c a' b' c' : Int) (w : World) : (binOp .neq 83 (evV a b c) (evV a' b' c')).run Tryz.prog w = .ok (.bool (!evEqB a b c a' b' c')) w := by
 rw [run_neq_struct, show (10000 : Nat) = 9998 + 1 + 1 from rfl, run_equalIn_agg w (9998 + 1) 83 _ _ (by kernel_rfl) (by kernel_rfl)]
 simp only [evEqB]
 by_cases h1 : a = a' <;> by_cases h2 : b = b' <;> by_cases h3 : c = c' <;> simp [go_sem, h1, h2, h3]
theorem l2Do_send (b off len cap k : Nat) (g : Nat → I5) (ra oa : Option Addr) (rc oc : Nat) (rs os : List Int) (w : World) (hl : (len : Int) ≤ 30) (hb : b < w.heap.size) (hI : InsAt w b off len g) (h4 : rs.length = 4) (ho : os.length ≤ 60) (h1 : Sl w ra rs) (h2 : Sl w oa os) (hk : k < len) (hp : progOkB g len 4 = true) (np nv : Int) (HN : Hid (evK (g k).o = 2 ∧ evP (g k).o (g k).n = np ∧ evW (g k).o (g k).a rs = nv)) (H6 : Hid ((g k).o = 6)) :
  Calls Tryz.prog 107 #[.slice (some ⟨b, off, none⟩) len cap, stV k ra rs.length rc oa os.length oc 0, evV 2 np nv] w fun e w' => ∃ v, e = .returned (.tuple #[v, .bool true]) ∧ StOwn w' w.heap.size v (doneS len (g k) k rs os 0 nv).p (doneS len (g k) k rs os 0 nv).rs (doneS len (g k) k rs os 0 nv).os (doneS len (g k) k rs os 0 nv).c ∧ Below w.heap.size w w' := by
 have HI : Hid (InsAt w b off len g) := hI
 have H1 : Hid (Sl w ra rs) := h1
 have H2 : Hid (Sl w oa os) := h2
 have H4 : Hid (rs.length = 4) := h4
 have HP : Hid (progOkB g len 4 = true) := hp
 have hk' : (k : Int) < (len : Int) := by omega
 clear hI h1 h2 h4 hp
 go_enter Tryz.func107, Tryz.ntmps107
 go_wp2_with fail
 refine (l2Next_any _ _ _ _ k g _ _ _ _ _ _ rs _ (by unfold maxLen; omega) (by simp; omega) (HI.out.below (by go_grown) hb) (H1.out.below (by go_grown)) H4.out hk HP.out).mono ?_
 rintro e w1 ⟨he1, b1⟩
 rw [HN.out.1, HN.out.2.1, HN.out.2.2] at he1
 subst he1
 have B1 : Hid (Below w.heap.size w (w1.alloc (oQ0 2 np nv))) := (below_up (by go_grown) b1 (by simp; omega)).alloc (by have := b1.size; simp at this; omega) _
 have X1 : Hid (DoBox (w1.alloc (oQ0 2 np nv)) w.heap.size (.int .i64 k) (.slice ra rs.length rc) (.slice oa os.length oc) (.int .i64 0) 2 np nv) := ((DoBox.new w _ _ _ _ _ _ _ _ _ _).below b1).below (below_alloc w1 _)
 clear b1
 obtain ⟨p0, p1, p2, p3, -, -, -, -, -, -, -, -⟩ := X1.out
 go_wp2_with fail
 clear p0 p1 p2 p3
 have V1 : Hid (EvC3 (w1.alloc (oQ0 2 np nv)) w1.heap.size 2 np nv) := EvC3.new w1 _ _ _ _
 generalize w1.alloc (oQ0 2 np nv) = W1 at *
 refine (l2Copy_any _ _ _ _ _ _ rs os _ (by have := H4.out; omega) (by omega) (H1.out.below B1.out) (H2.out.below B1.out)).mono ?_
 rintro e w2 ⟨v2, rfl, o2, b2⟩
 obtain ⟨ra2, rc2, oa2, oc2, rfl, -, -⟩ := o2.read
 have bA := below_alloc w2 (oQ1 k ra2 rs.length rc2 oa2 os.length oc2 0)
 have q2 : Below W1.heap.size W1 (w2.alloc (oQ1 k ra2 rs.length rc2 oa2 os.length oc2 0)) := b2.trans (bA.mono b2.size)
 have X2 : Hid (DoBox (w2.alloc (oQ1 k ra2 rs.length rc2 oa2 os.length oc2 0)) w.heap.size (.int .i64 k) (.slice ra rs.length rc) (.slice oa os.length oc) (.int .i64 0) 2 np nv) := X1.out.below q2
 have V2 : Hid (EvC3 (w2.alloc (oQ1 k ra2 rs.length rc2 oa2 os.length oc2 0)) w1.heap.size 2 np nv) := V1.out.below q2
 have Y2 : Hid (BoxC (w2.alloc (oQ1 k ra2 rs.length rc2 oa2 os.length oc2 0)) w2.heap.size (.int .i64 k) (.slice ra2 rs.length rc2) (.slice oa2 os.length oc2) (.int .i64 0)) := BoxC.new w2 _ _ _ _ _
 have F2 : Hid (∀ j, (w2.alloc (oQ1 k ra2 rs.length rc2 oa2 os.length oc2 0)).frozen? ⟨w2.heap.size, j, none⟩ = false) := fun j => by simp
 have O2 : Hid (StOwn (w2.alloc (oQ1 k ra2 rs.length rc2 oa2 os.length oc2 0)) W1.heap.size (stV k ra2 rs.length rc2 oa2 os.length oc2 0) k rs os 0) := o2.below bA
 have L2 : Hid (∀ j, hasBlock (stV k ra2 rs.length rc2 oa2 os.length oc2 0) j → W1.heap.size ≤ j ∧ j < w2.heap.size) := fun j hj => o2.lt hj
 have B2 : Hid (Below w.heap.size w (w2.alloc (oQ1 k ra2 rs.length rc2 oa2 os.length oc2 0))) := B1.out.trans (q2.mono B1.out.size)
 have zw : w.heap.size + 1 + 1 < W1.heap.size := X1.out.lt
 have zv : w1.heap.size < W1.heap.size := World.block_lt_of_cell? W1 _ V1.out.1
 have z2 : W1.heap.size ≤ w2.heap.size := b2.size
 clear b2 o2 bA q2 X1 V1 B1
 obtain ⟨p0, p1, p2, p3, e0, e1, e2, r0, r1, r2, r3, rf⟩ := X2.out
 obtain ⟨u0, u1, u2⟩ := V2.out
 obtain ⟨t0, t1, t2, t3⟩ := Y2.out
 have tf := F2.out
 go_wp2_with fail
 clear p0 p1 p2 p3 e0 e1 e2 r0 r1 r2 r3 rf u0 u1 u2 t0 t1 t2 t3 tf
 generalize w2.alloc (oQ1 k ra2 rs.length rc2 oa2 os.length oc2 0) = W2 at *
 refine (l2Go_any _ _ _ _ _ _ _ _ _ _ _ _ (by omega) (by omega)).mono ?_
 rintro e w3 ⟨rfl, b3⟩
 have X3 : Hid (DoBox w3 w.heap.size (.int .i64 k) (.slice ra rs.length rc) (.slice oa os.length oc) (.int .i64 0) 2 np nv) := X2.out.below b3
 have O3 : Hid (StOwn w3 W1.heap.size (stV k ra2 rs.length rc2 oa2 os.length oc2 0) k rs os 0) := O2.out.below b3
 have B3 : Hid (Below w.heap.size w w3) := B2.out.trans (b3.mono B2.out.size)
 clear b3 X2 V2 Y2 F2 O2 B2
 obtain ⟨-, -, -, -, -, -, -, r0, r1, r2, r3, rf⟩ := X3.out
 go_wp2
 refine bodyPost_ret (v := .tuple #[stV (goP len k) ra2 rs.length rc2 oa2 os.length oc2 (goC len k 0), .bool true]) (by simp [results, Tryz.results107, go_sem, r0, r1, r2, r3]) rfl ⟨_, rfl, ?_, ?_⟩
 ·have hd : doneS len (g k) k rs os 0 nv = goS len k rs os 0 := by
   unfold doneS
   rw [H6.out, if_pos rfl]
  rw [hd]
  exact StOwn.put4 (B' := W1.heap.size) ((O3.out.replace _).recode _) zw (by omega)
 ·have := B3.out
  go_grown
theorem l2Do_no (b off len cap k : Nat) (g : Nat → I5) (ra oa : Option Addr) (rc oc : Nat) (rs os : List Int) (ek eq ev : Int) (w : World) (hl : (len : Int) ≤ 30) (hb : b < w.heap.size) (hI : InsAt w b off len g) (h4 : rs.length = 4) (ho : os.length ≤ 60) (h1 : Sl w ra rs) (h2 : Sl w oa os) (hk : k < len) (hp : progOkB g len 4 = true) (K np nv : Int) (hK : (K == 3) = false) (HN : Hid (evK (g k).o = K ∧ evP (g k).o (g k).n = np ∧ evW (g k).o (g k).a rs = nv)) (hE : evEqB ek eq ev K np nv = false) :
  Calls Tryz.prog 107 #[.slice (some ⟨b, off, none⟩) len cap, stV k ra rs.length rc oa os.length oc 0, evV ek eq ev] w fun e w' => ∃ v, e = .returned (.tuple #[v, .bool false]) ∧ StOwn w' w.heap.size v k rs os 0 ∧ Below w.heap.size w w' := by
 have HI : Hid (InsAt w b off len g) := hI
 have H1 : Hid (Sl w ra rs) := h1
 have H2 : Hid (Sl w oa os) := h2
 have H4 : Hid (rs.length = 4) := h4
 have HP : Hid (progOkB g len 4 = true) := hp
 have hk' : (k : Int) < (len : Int) := by omega
 clear hI h1 h2 h4 hp
 go_enter Tryz.func107, Tryz.ntmps107
 go_wp2_with fail
 refine (l2Next_any _ _ _ _ k g _ _ _ _ _ _ rs _ (by unfold maxLen; omega) (by simp; omega) (HI.out.below (by go_grown) hb) (H1.out.below (by go_grown)) H4.out hk HP.out).mono ?_
 rintro e w1 ⟨he1, b1⟩
 rw [HN.out.1, HN.out.2.1, HN.out.2.2] at he1
 subst he1
 have B1 : Hid (Below w.heap.size w (w1.alloc (oQ0 K np nv))) := (below_up (by go_grown) b1 (by simp; omega)).alloc (by have := b1.size; simp at this; omega) _
 have X1 : Hid (DoBox (w1.alloc (oQ0 K np nv)) w.heap.size (.int .i64 k) (.slice ra rs.length rc) (.slice oa os.length oc) (.int .i64 0) ek eq ev) := ((DoBox.new w _ _ _ _ _ _ _ _ _ _).below b1).below (below_alloc w1 _)
 clear b1
 obtain ⟨p0, p1, p2, p3, -, -, -, -, -, -, -, -⟩ := X1.out
 go_wp2_with fail
 clear p0 p1 p2 p3
 have V1 : Hid (EvC3 (w1.alloc (oQ0 K np nv)) w1.heap.size K np nv) := EvC3.new w1 _ _ _ _
 generalize w1.alloc (oQ0 K np nv) = W1 at *
 refine (l2Copy_any _ _ _ _ _ _ rs os _ (by have := H4.out; omega) (by omega) (H1.out.below B1.out) (H2.out.below B1.out)).mono ?_
 rintro e w2 ⟨v2, rfl, o2, b2⟩
 obtain ⟨ra2, rc2, oa2, oc2, rfl, -, -⟩ := o2.read
 have bA := below_alloc w2 (oQ1 k ra2 rs.length rc2 oa2 os.length oc2 0)
 have q2 : Below W1.heap.size W1 (w2.alloc (oQ1 k ra2 rs.length rc2 oa2 os.length oc2 0)) := b2.trans (bA.mono b2.size)
 have X2 : Hid (DoBox (w2.alloc (oQ1 k ra2 rs.length rc2 oa2 os.length oc2 0)) w.heap.size (.int .i64 k) (.slice ra rs.length rc) (.slice oa os.length oc) (.int .i64 0) ek eq ev) := X1.out.below q2
 have V2 : Hid (EvC3 (w2.alloc (oQ1 k ra2 rs.length rc2 oa2 os.length oc2 0)) w1.heap.size K np nv) := V1.out.below q2
 have Y2 : Hid (BoxC (w2.alloc (oQ1 k ra2 rs.length rc2 oa2 os.length oc2 0)) w2.heap.size (.int .i64 k) (.slice ra2 rs.length rc2) (.slice oa2 os.length oc2) (.int .i64 0)) := BoxC.new w2 _ _ _ _ _
 have F2 : Hid (∀ j, (w2.alloc (oQ1 k ra2 rs.length rc2 oa2 os.length oc2 0)).frozen? ⟨w2.heap.size, j, none⟩ = false) := fun j => by simp
 have O2 : Hid (StOwn (w2.alloc (oQ1 k ra2 rs.length rc2 oa2 os.length oc2 0)) W1.heap.size (stV k ra2 rs.length rc2 oa2 os.length oc2 0) k rs os 0) := o2.below bA
 have L2 : Hid (∀ j, hasBlock (stV k ra2 rs.length rc2 oa2 os.length oc2 0) j → W1.heap.size ≤ j ∧ j < w2.heap.size) := fun j hj => o2.lt hj
 have B2 : Hid (Below w.heap.size w (w2.alloc (oQ1 k ra2 rs.length rc2 oa2 os.length oc2 0))) := B1.out.trans (q2.mono B1.out.size)
 have zw : w.heap.size + 1 + 1 < W1.heap.size := X1.out.lt
 have zv : w1.heap.size < W1.heap.size := World.block_lt_of_cell? W1 _ V1.out.1
 have z2 : W1.heap.size ≤ w2.heap.size := b2.size
 clear b2 o2 bA q2 X1 V1 B1
 obtain ⟨p0, p1, p2, p3, e0, e1, e2, r0, r1, r2, r3, rf⟩ := X2.out
 obtain ⟨u0, u1, u2⟩ := V2.out
 obtain ⟨t0, t1, t2, t3⟩ := Y2.out
 have tf := F2.out
 have hne : ∀ wx, (binOp .neq 83 (evV ek eq ev) (evV K np nv)).run Tryz.prog wx = .ok (.bool true) wx := fun wx => by rw [neq_ev, hE]; rfl
 clear hE
 go_wp2
 refine bodyPost_ret (v := .tuple #[stV k ra2 rs.length rc2 oa2 os.length oc2 0, .bool false]) (by simp [results, Tryz.results107, go_sem, r0, r1, r2, r3]) rfl ⟨_, rfl, ?_, ?_⟩
 ·exact StOwn.put4 (B' := W1.heap.size) O2.out zw (by omega)
 ·have := B2.out
  go_grown
theorem l2Do_full (b off len cap k : Nat) (g : Nat → I5) (ra oa : Option Addr) (rc oc : Nat) (rs os : List Int) (w : World) (hl : (len : Int) ≤ 30) (hb : b < w.heap.size) (hI : InsAt w b off len g) (h4 : rs.length = 4) (ho : os.length ≤ 60) (h1 : Sl w ra rs) (h2 : Sl w oa os) (hk : k < len) (hp : progOkB g len 4 = true) (np nv : Int) (HN : Hid (evK (g k).o = 4 ∧ evP (g k).o (g k).n = np ∧ evW (g k).o (g k).a rs = nv)) (H8 : Hid ((g k).o = 8 ∧ os.length = 60)) (h60 : ((os.length : Int) == 60) = true) :
  Calls Tryz.prog 107 #[.slice (some ⟨b, off, none⟩) len cap, stV k ra rs.length rc oa os.length oc 0, evV 4 np nv] w fun e w' => ∃ v, e = .returned (.tuple #[v, .bool true]) ∧ StOwn w' w.heap.size v (doneS len (g k) k rs os 0 nv).p (doneS len (g k) k rs os 0 nv).rs (doneS len (g k) k rs os 0 nv).os (doneS len (g k) k rs os 0 nv).c ∧ Below w.heap.size w w' := by
 have HI : Hid (InsAt w b off len g) := hI
 have H1 : Hid (Sl w ra rs) := h1
 have H2 : Hid (Sl w oa os) := h2
 have H4 : Hid (rs.length = 4) := h4
 have HP : Hid (progOkB g len 4 = true) := hp
 have hk' : (k : Int) < (len : Int) := by omega
 clear hI h1 h2 h4 hp
 go_enter Tryz.func107, Tryz.ntmps107
 go_wp2_with fail
 refine (l2Next_any _ _ _ _ k g _ _ _ _ _ _ rs _ (by unfold maxLen; omega) (by simp; omega) (HI.out.below (by go_grown) hb) (H1.out.below (by go_grown)) H4.out hk HP.out).mono ?_
 rintro e w1 ⟨he1, b1⟩
 rw [HN.out.1, HN.out.2.1, HN.out.2.2] at he1
 subst he1
 have B1 : Hid (Below w.heap.size w (w1.alloc (oQ0 4 np nv))) := (below_up (by go_grown) b1 (by simp; omega)).alloc (by have := b1.size; simp at this; omega) _
 have X1 : Hid (DoBox (w1.alloc (oQ0 4 np nv)) w.heap.size (.int .i64 k) (.slice ra rs.length rc) (.slice oa os.length oc) (.int .i64 0) 4 np nv) := ((DoBox.new w _ _ _ _ _ _ _ _ _ _).below b1).below (below_alloc w1 _)
 clear b1
 obtain ⟨p0, p1, p2, p3, -, -, -, -, -, -, -, -⟩ := X1.out
 go_wp2_with fail
 clear p0 p1 p2 p3
 have V1 : Hid (EvC3 (w1.alloc (oQ0 4 np nv)) w1.heap.size 4 np nv) := EvC3.new w1 _ _ _ _
 generalize w1.alloc (oQ0 4 np nv) = W1 at *
 refine (l2Copy_any _ _ _ _ _ _ rs os _ (by have := H4.out; omega) (by omega) (H1.out.below B1.out) (H2.out.below B1.out)).mono ?_
 rintro e w2 ⟨v2, rfl, o2, b2⟩
 obtain ⟨ra2, rc2, oa2, oc2, rfl, -, -⟩ := o2.read
 have bA := below_alloc w2 (oQ1 k ra2 rs.length rc2 oa2 os.length oc2 0)
 have q2 : Below W1.heap.size W1 (w2.alloc (oQ1 k ra2 rs.length rc2 oa2 os.length oc2 0)) := b2.trans (bA.mono b2.size)
 have X2 : Hid (DoBox (w2.alloc (oQ1 k ra2 rs.length rc2 oa2 os.length oc2 0)) w.heap.size (.int .i64 k) (.slice ra rs.length rc) (.slice oa os.length oc) (.int .i64 0) 4 np nv) := X1.out.below q2
 have V2 : Hid (EvC3 (w2.alloc (oQ1 k ra2 rs.length rc2 oa2 os.length oc2 0)) w1.heap.size 4 np nv) := V1.out.below q2
 have Y2 : Hid (BoxC (w2.alloc (oQ1 k ra2 rs.length rc2 oa2 os.length oc2 0)) w2.heap.size (.int .i64 k) (.slice ra2 rs.length rc2) (.slice oa2 os.length oc2) (.int .i64 0)) := BoxC.new w2 _ _ _ _ _
 have F2 : Hid (∀ j, (w2.alloc (oQ1 k ra2 rs.length rc2 oa2 os.length oc2 0)).frozen? ⟨w2.heap.size, j, none⟩ = false) := fun j => by simp
 have O2 : Hid (StOwn (w2.alloc (oQ1 k ra2 rs.length rc2 oa2 os.length oc2 0)) W1.heap.size (stV k ra2 rs.length rc2 oa2 os.length oc2 0) k rs os 0) := o2.below bA
 have L2 : Hid (∀ j, hasBlock (stV k ra2 rs.length rc2 oa2 os.length oc2 0) j → W1.heap.size ≤ j ∧ j < w2.heap.size) := fun j hj => o2.lt hj
 have B2 : Hid (Below w.heap.size w (w2.alloc (oQ1 k ra2 rs.length rc2 oa2 os.length oc2 0))) := B1.out.trans (q2.mono B1.out.size)
 have zw : w.heap.size + 1 + 1 < W1.heap.size := X1.out.lt
 have zv : w1.heap.size < W1.heap.size := World.block_lt_of_cell? W1 _ V1.out.1
 have z2 : W1.heap.size ≤ w2.heap.size := b2.size
 clear b2 o2 bA q2 X1 V1 B1
 obtain ⟨p0, p1, p2, p3, e0, e1, e2, r0, r1, r2, r3, rf⟩ := X2.out
 obtain ⟨u0, u1, u2⟩ := V2.out
 obtain ⟨t0, t1, t2, t3⟩ := Y2.out
 have tf := F2.out
 go_wp2_with fail
 clear p0 p1 p2 p3 e0 e1 e2 r0 r1 r2 r3 rf u0 u1 u2 t0 t1 t2 t3 tf
 generalize w2.alloc (oQ1 k ra2 rs.length rc2 oa2 os.length oc2 0) = W2 at *
 refine (l2Fault_any _ _ _ _ _ _ _ _ _).mono ?_
 rintro e w3 ⟨rfl, b3⟩
 have X3 : Hid (DoBox w3 w.heap.size (.int .i64 k) (.slice ra rs.length rc) (.slice oa os.length oc) (.int .i64 0) 4 np nv) := X2.out.below b3
 have O3 : Hid (StOwn w3 W1.heap.size (stV k ra2 rs.length rc2 oa2 os.length oc2 0) k rs os 0) := O2.out.below b3
 have B3 : Hid (Below w.heap.size w w3) := B2.out.trans (b3.mono B2.out.size)
 clear b3 X2 V2 Y2 F2 O2 B2
 obtain ⟨-, -, -, -, -, -, -, r0, r1, r2, r3, rf⟩ := X3.out
 go_wp2
 refine bodyPost_ret (v := .tuple #[stV k ra2 rs.length rc2 oa2 os.length oc2 2, .bool true]) (by simp [results, Tryz.results107, go_sem, r0, r1, r2, r3]) rfl ⟨_, rfl, ?_, ?_⟩
 ·have hd : doneS len (g k) k rs os 0 nv = ⟨k, rs, os, 2⟩ := by
   unfold doneS
   rw [H8.out.1, if_neg (by decide), if_neg (by decide), if_pos rfl, if_pos H8.out.2]
  rw [hd]
  exact StOwn.put4 (B' := W1.heap.size) (O3.out.recode 2) zw (by omega)
 ·have := B3.out
  go_grown
theorem l2Do_take_no (b off len cap k : Nat) (g : Nat → I5) (ra oa : Option Addr) (rc oc : Nat) (rs os : List Int) (ek eq ev : Int) (w : World) (hl : (len : Int) ≤ 30) (hb : b < w.heap.size) (hI : InsAt w b off len g) (h4 : rs.length = 4) (ho : os.length ≤ 60) (h1 : Sl w ra rs) (h2 : Sl w oa os) (hk : k < len) (hp : progOkB g len 4 = true) (np nv : Int) (HN : Hid (evK (g k).o = 3 ∧ evP (g k).o (g k).n = np ∧ evW (g k).o (g k).a rs = nv)) (HQ : Hid ((ek != 3) = true ∨ ((ek != 3) = false ∧ inB ev (-1000000000) 1000000000 = false) ∨ ((ek != 3) = false ∧ inB ev (-1000000000) 1000000000 = true ∧ (np != 9) = true ∧ (eq != np) = true) ∨ ((ek != 3) = false ∧ inB ev (-1000000000) 1000000000 = true ∧ (np != 9) = false ∧ inB eq 0 3 = false))) :
  Calls Tryz.prog 107 #[.slice (some ⟨b, off, none⟩) len cap, stV k ra rs.length rc oa os.length oc 0, evV ek eq ev] w fun e w' => ∃ v, e = .returned (.tuple #[v, .bool false]) ∧ StOwn w' w.heap.size v k rs os 0 ∧ Below w.heap.size w w' := by
 have HI : Hid (InsAt w b off len g) := hI
 have H1 : Hid (Sl w ra rs) := h1
 have H2 : Hid (Sl w oa os) := h2
 have H4 : Hid (rs.length = 4) := h4
 have HP : Hid (progOkB g len 4 = true) := hp
 have hk' : (k : Int) < (len : Int) := by omega
 clear hI h1 h2 h4 hp
 go_enter Tryz.func107, Tryz.ntmps107
 go_wp2_with fail
 refine (l2Next_any _ _ _ _ k g _ _ _ _ _ _ rs _ (by unfold maxLen; omega) (by simp; omega) (HI.out.below (by go_grown) hb) (H1.out.below (by go_grown)) H4.out hk HP.out).mono ?_
 rintro e w1 ⟨he1, b1⟩
 rw [HN.out.1, HN.out.2.1, HN.out.2.2] at he1
 subst he1
 have B1 : Hid (Below w.heap.size w (w1.alloc (oQ0 3 np nv))) := (below_up (by go_grown) b1 (by simp; omega)).alloc (by have := b1.size; simp at this; omega) _
 have X1 : Hid (DoBox (w1.alloc (oQ0 3 np nv)) w.heap.size (.int .i64 k) (.slice ra rs.length rc) (.slice oa os.length oc) (.int .i64 0) ek eq ev) := ((DoBox.new w _ _ _ _ _ _ _ _ _ _).below b1).below (below_alloc w1 _)
 clear b1
 obtain ⟨p0, p1, p2, p3, -, -, -, -, -, -, -, -⟩ := X1.out
 go_wp2_with fail
 clear p0 p1 p2 p3
 have V1 : Hid (EvC3 (w1.alloc (oQ0 3 np nv)) w1.heap.size 3 np nv) := EvC3.new w1 _ _ _ _
 generalize w1.alloc (oQ0 3 np nv) = W1 at *
 refine (l2Copy_any _ _ _ _ _ _ rs os _ (by have := H4.out; omega) (by omega) (H1.out.below B1.out) (H2.out.below B1.out)).mono ?_
 rintro e w2 ⟨v2, rfl, o2, b2⟩
 obtain ⟨ra2, rc2, oa2, oc2, rfl, -, -⟩ := o2.read
 have bA := below_alloc w2 (oQ1 k ra2 rs.length rc2 oa2 os.length oc2 0)
 have q2 : Below W1.heap.size W1 (w2.alloc (oQ1 k ra2 rs.length rc2 oa2 os.length oc2 0)) := b2.trans (bA.mono b2.size)
 have X2 : Hid (DoBox (w2.alloc (oQ1 k ra2 rs.length rc2 oa2 os.length oc2 0)) w.heap.size (.int .i64 k) (.slice ra rs.length rc) (.slice oa os.length oc) (.int .i64 0) ek eq ev) := X1.out.below q2
 have V2 : Hid (EvC3 (w2.alloc (oQ1 k ra2 rs.length rc2 oa2 os.length oc2 0)) w1.heap.size 3 np nv) := V1.out.below q2
 have Y2 : Hid (BoxC (w2.alloc (oQ1 k ra2 rs.length rc2 oa2 os.length oc2 0)) w2.heap.size (.int .i64 k) (.slice ra2 rs.length rc2) (.slice oa2 os.length oc2) (.int .i64 0)) := BoxC.new w2 _ _ _ _ _
 have F2 : Hid (∀ j, (w2.alloc (oQ1 k ra2 rs.length rc2 oa2 os.length oc2 0)).frozen? ⟨w2.heap.size, j, none⟩ = false) := fun j => by simp
 have O2 : Hid (StOwn (w2.alloc (oQ1 k ra2 rs.length rc2 oa2 os.length oc2 0)) W1.heap.size (stV k ra2 rs.length rc2 oa2 os.length oc2 0) k rs os 0) := o2.below bA
 have L2 : Hid (∀ j, hasBlock (stV k ra2 rs.length rc2 oa2 os.length oc2 0) j → W1.heap.size ≤ j ∧ j < w2.heap.size) := fun j hj => o2.lt hj
 have B2 : Hid (Below w.heap.size w (w2.alloc (oQ1 k ra2 rs.length rc2 oa2 os.length oc2 0))) := B1.out.trans (q2.mono B1.out.size)
 have zw : w.heap.size + 1 + 1 < W1.heap.size := X1.out.lt
 have zv : w1.heap.size < W1.heap.size := World.block_lt_of_cell? W1 _ V1.out.1
 have z2 : W1.heap.size ≤ w2.heap.size := b2.size
 clear b2 o2 bA q2 X1 V1 B1
 obtain ⟨p0, p1, p2, p3, e0, e1, e2, r0, r1, r2, r3, rf⟩ := X2.out
 obtain ⟨u0, u1, u2⟩ := V2.out
 obtain ⟨t0, t1, t2, t3⟩ := Y2.out
 have tf := F2.out
 rcases HQ.out with q1 | ⟨q1, q2⟩ | ⟨q1, q2, q3, q4⟩ | ⟨q1, q2, q3, q5⟩
 all_goals
  go_wp2_with (first | (go_at_call 170; refine (l1Num_any _ _).mono ?_; rintro e w' ⟨rfl, rfl⟩) | (go_at_call 41; refine (l1In_any _ _ _ _).mono ?_; rintro e w' ⟨rfl, rfl⟩))
  refine bodyPost_ret (v := .tuple #[stV k ra2 rs.length rc2 oa2 os.length oc2 0, .bool false]) (by simp [results, Tryz.results107, go_sem, r0, r1, r2, r3]) rfl ⟨_, rfl, ?_, ?_⟩
  ·exact StOwn.put4 (B' := W1.heap.size) O2.out zw (by omega)
  ·have := B2.out
   go_grown
open Go.ChangeShapes Go.WideShapes Go.ChangeAt
theorem Tryz.own : ownKnob Tryz.prog.godebug = none := by kernel_rfl
theorem Tryz.laidOut : laidOutB Tryz.prog = true := by kernel_rfl
theorem cellsLawIns : Tryz.prog.cellsOf 225 = 5 := by kernel_rfl
theorem cellsLawState : Tryz.prog.cellsOf 165 = 4 := by kernel_rfl
theorem cellsInt : Tryz.prog.cellsOf 3 = 1 := by kernel_rfl
theorem cellsInts : Tryz.prog.cellsOf 44 = 1 := by kernel_rfl
theorem array4 {cs : Array Value} (h : cs.size = 4) : ∃ c0 c1 c2 c3, cs = #[c0, c1, c2, c3] := by
 obtain ⟨l⟩ := cs
 match l, h with
 | [c0, c1, c2, c3], _ => exact ⟨c0, c1, c2, c3, rfl⟩
theorem open_insCells {H : Type} {enc : TypeId × Value → H} {w : World} {base fuel : Nat} {spare : Nat → Bool} {held : Bool} {c0 c1 c2 c3 c4 : Value} {x : DataW H × List MemPlace}
  (hf : DataW.trod enc Tryz.prog w base spare held fuel 225 [c0, c1, c2, c3, c4] = some x) :
  ∃ op r a b n : Int, c0 = .int .i64 op ∧ c1 = .int .i64 r ∧ c2 = .int .i64 a ∧ c3 = .int .i64 b ∧ c4 = .int .i64 n := by
 obtain ⟨xs, m, -, -, -, hl, hx⟩ := DataW.trod_struct Tryz.underlying225 hf
 have hl : xs.length = 5 := hl
 have q0 : DataW.trod enc Tryz.prog w base spare held m 3 [c0] = xs[0]? := by simpa [cellsInt] using hx 0 _ rfl
 have q1 : DataW.trod enc Tryz.prog w base spare held m 3 [c1] = xs[1]? := by simpa [cellsInt] using hx 1 _ rfl
 have q2 : DataW.trod enc Tryz.prog w base spare held m 3 [c2] = xs[2]? := by simpa [cellsInt] using hx 2 _ rfl
 have q3 : DataW.trod enc Tryz.prog w base spare held m 3 [c3] = xs[3]? := by simpa [cellsInt] using hx 3 _ rfl
 have q4 : DataW.trod enc Tryz.prog w base spare held m 3 [c4] = xs[4]? := by simpa [cellsInt] using hx 4 _ rfl
 rw [List.getElem?_eq_getElem (by omega)] at q0 q1 q2 q3 q4
 obtain ⟨z0, e0, -, -⟩ := DataW.trod_int Tryz.underlying3 q0
 obtain ⟨z1, e1, -, -⟩ := DataW.trod_int Tryz.underlying3 q1
 obtain ⟨z2, e2, -, -⟩ := DataW.trod_int Tryz.underlying3 q2
 obtain ⟨z3, e3, -, -⟩ := DataW.trod_int Tryz.underlying3 q3
 obtain ⟨z4, e4, -, -⟩ := DataW.trod_int Tryz.underlying3 q4
 simp only [List.cons.injEq, and_true] at e0 e1 e2 e3 e4
 exact ⟨z0, z1, z2, z3, z4, e0, e1, e2, e3, e4⟩
theorem addr_addO (b off j : Nat) : Addr.add ⟨b, off, none⟩ j = ⟨b, off + j, none⟩ := by
 unfold Addr.add
 by_cases h : j = 0
 ·rw [if_pos h, h, Nat.add_zero]
 ·rw [if_neg h]
theorem cell_lt {w : World} {p : Addr} {v : Value} (h : w.cell? p = some v) : p.block < w.heap.size := World.block_lt_of_cell? w p h
theorem open_insRow {H : Type} {enc : TypeId × Value → H} {w : World} {spare : Nat → Bool} {held : Bool} {base : Nat} {a0 : Option Addr} {len cap : Nat} {d : DataW H} {p : List MemPlace}
  (h : DataW.Trod enc Tryz.prog w base spare held 163 (.slice a0 len cap) d p) :
  len ≤ maxLen ∧ (len = 0 ∨ ∃ b off g, a0 = some ⟨b, off, none⟩ ∧ b < w.heap.size ∧ InsAt w b off len g) := by
 obtain ⟨fuel, hf⟩ := h
 rcases Go.Deep.open_slice Tryz.underlying163 hf with ⟨hcs, _⟩ | ⟨a, len', cap', m, n, D, Pl, hcs, _, hl, hm, hmm, _, hx⟩
 ·simp [Value.cells] at hcs
  obtain ⟨_, rfl, _⟩ := hcs
  exact ⟨Nat.zero_le _, .inl rfl⟩
 ·simp [Value.cells] at hcs
  obtain ⟨rfl, rfl, rfl⟩ := hcs
  refine ⟨Nat.le_trans hl hm, ?_⟩
  by_cases h0 : len = 0
  ·exact .inl h0
  right
  have hle : len ≤ m := by rw [hmm]; split <;> omega
  rw [cellsLawIns] at hx
  obtain ⟨b, off, spot⟩ := a
  have hcell : ∀ i, i < len → ∃ x : I5, w.cell? (Addr.add (Addr.add ⟨b, off, spot⟩ (i * 5)) 0) = some (.int .i64 x.o) ∧ w.cell? (Addr.add (Addr.add ⟨b, off, spot⟩ (i * 5)) 1) = some (.int .i64 x.r) ∧ w.cell? (Addr.add (Addr.add ⟨b, off, spot⟩ (i * 5)) 2) = some (.int .i64 x.a) ∧ w.cell? (Addr.add (Addr.add ⟨b, off, spot⟩ (i * 5)) 3) = some (.int .i64 x.b) ∧ w.cell? (Addr.add (Addr.add ⟨b, off, spot⟩ (i * 5)) 4) = some (.int .i64 x.n) := by
   intro i hi
   obtain ⟨cs', h1, h2⟩ := hx i (by omega)
   obtain ⟨_, hlen, hc⟩ := World.cells?_some h1
   match cs', hlen with
   | [c0, c1, c2, c3, c4], _ =>
    obtain ⟨o, r, a, b, n, rfl, rfl, rfl, rfl, rfl⟩ := open_insCells h2
    exact ⟨⟨o, r, a, b, n⟩, hc 0 (by omega), hc 1 (by omega), hc 2 (by omega), hc 3 (by omega), hc 4 (by omega)⟩
  have hspot : spot = none := by
   obtain ⟨x, hx0, _⟩ := hcell 0 (by omega)
   simpa [Addr.add] using World.cell?_spot hx0
  subst hspot
  have inh : Inhabited I5 := ⟨⟨0, 0, 0, 0, 0⟩⟩
  obtain ⟨g, hg⟩ := Go.Deep.choose_lt (α := I5) hcell
  have hI : InsAt w b off len g := by
   intro i hi
   obtain ⟨q0, q1, q2, q3, q4⟩ := hg i hi
   rw [addr_addO, addr_addO] at q0 q1 q2 q3 q4
   exact ⟨q0, q1, q2, q3, q4⟩
  exact ⟨b, off, g, rfl, cell_lt (hI 0 (by omega)).1, hI⟩
theorem open_intRow {H : Type} {enc : TypeId × Value → H} {w : World} {held : Bool} {base fuel : Nat} {v : Value} {x : DataW H × List MemPlace}
  (hf : DataW.trod enc Tryz.prog w base (fun _ => true) held fuel 44 [v] = some x) :
  ∃ a0 cap xs, v = .slice a0 xs.length cap ∧ xs.length ≤ maxLen ∧ Sl w a0 xs := by
 rcases open_ints Tryz.underlying44 Tryz.underlying3 cellsInt hf with ⟨hcs, _⟩ | ⟨a, l, c, zs, hcs, _, hl, hm, hz, _, hcell, _⟩
 ·simp at hcs
  exact ⟨none, 0, [], hcs, Nat.zero_le _, .inl rfl⟩
 ·simp at hcs
  have hz' : zs.length = c := by simpa using hz
  have hlen : (zs.take l).length = l := by simp; omega
  refine ⟨some a, c, zs.take l, by rw [hlen]; exact hcs, by rw [hlen]; exact Nat.le_trans hl hm, ?_⟩
  by_cases h0 : l = 0
  ·exact .inl (by simp [h0])
  obtain ⟨b, off, rfl, hc⟩ := ints_at hcell (by omega)
  refine .inr ⟨b, off, rfl, cell_lt (hc 0 (by omega)), fun i hi => ?_⟩
  rw [hlen] at hi
  rw [hc i (by omega)]
  unfold zi
  rw [List.getD_eq_getElem?_getD, List.getD_eq_getElem?_getD, List.getElem?_take, if_pos hi]
open Go.Deep
theorem append_one {ops : Array Oper} {rest : List Oper} {op : Oper} {act : Act} {Q : Exit → Act → World → Prop} (w : World) (hgd : op.guard = none) (s x : Operand)
  (ho : op.op = .call { callee := .builtin .append, args := #[s, x], argTypes := #[44, 44] })
  (B : Nat) (v : Value) (xs : List Int) (hs : act.eval s = v) (hv : OwnI w B v xs) (y : Int) (hx : act.eval x = .slice (some ⟨w.heap.size, 0, none⟩) 1 1) (hn : xs.length ≤ 1048576) (hB : B ≤ w.heap.size)
  (h : ∀ v' w', OwnI w' B v' (xs ++ [y]) → Below B w w' → wpList Tryz.prog ops Q rest (act.put op.dst v') w') :
  wpList Tryz.prog ops Q (op :: rest) act (w.alloc (.cells #[.int .i64 y] 3)) := by
 have hb : Below w.heap.size w (w.alloc (.cells #[.int .i64 y] 3)) := (Below.refl _ _).alloc (Nat.le_refl _) _
 refine wpList_append_ints _ hgd s x ho B 1 v (some ⟨w.heap.size, 0, none⟩) xs [y] hs hx (hv.below hb) (.inr ⟨w.heap.size, 0, rfl, by simp, fun i hi => ?_⟩) (by simp; omega) (by simp; omega) ?_
 ·have : i = 0 := by simp at hi; omega
  subst this
  exact new_cell _ _ _ 0 rfl
 ·intro v' w' o g _
  refine h v' w' o (Below.grown (hb.mono hB) g (by simp; omega) (fun k hk => (hv.lt k hk).1))
theorem append_oneN {ops : Array Oper} {rest : List Oper} {op : Oper} {act : Act} {Q : Exit → Act → World → Prop} (w : World) {N : Nat} (hN : N = w.heap.size) (hgd : op.guard = none) (s x : Operand)
  (ho : op.op = .call { callee := .builtin .append, args := #[s, x], argTypes := #[44, 44] })
  (B : Nat) (v : Value) (xs : List Int) (hs : act.eval s = v) (hv : OwnI w B v xs) (y : Int) (hx : act.eval x = .slice (some ⟨N, 0, none⟩) 1 1) (hn : xs.length ≤ 1048576) (hB : B ≤ w.heap.size)
  (h : ∀ v' w', OwnI w' B v' (xs ++ [y]) → Below B w w' → wpList Tryz.prog ops Q rest (act.put op.dst v') w') :
  wpList Tryz.prog ops Q (op :: rest) act (w.alloc (.cells #[.int .i64 y] 3)) := by
 subst hN
 exact append_one w hgd s x ho B v xs hs hv y hx hn hB h
theorem OwnI.to {w : World} {B : Nat} {v : Value} {xs ys : List Int} (h : OwnI w B v xs) (e : ys = xs) : OwnI w B v ys := e ▸ h
end Go.Proofs.YtnfdnnmddadmkaaGreatDoor
