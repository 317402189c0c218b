/- The walks of the model's l2Local, a theorem an op. -/
import Derived.Test.YtcmmlklanjhfoaaGreatDoorGa12
import Derived.Test.YtcmmlklanjhfoaaGreatDoorGa10
import Derived.Deep.RegionHeld3
namespace Go.Proofs.YtcmmlklanjhfoaaGreatDoor
open Go.RowKit

theorem new_cell (w : World) (cs : Array Value) (t : TypeId) (j : Nat) {N : Nat} (h : N = w.heap.size) : (w.alloc (.cells cs t)).cell? ⟨N, j, none⟩ = cs[j]? := by
  subst h
  simp
theorem new_frozen (w : World) (cs : Array Value) (t : TypeId) (j : Nat) {N : Nat} (h : N = w.heap.size) : (w.alloc (.cells cs t)).frozen? ⟨N, j, none⟩ = false := by
  subst h
  simp

/-- A state of its own stays where four cells are written in a block below. -/
theorem StOwn.put4 {w : World} {B B' N : Nat} {v : Value} {p code : Int} {rs os : List Int} {a b c d : Value} (h : StOwn w B' v p rs os code) (hN : N < B') (hB : B ≤ B') : StOwn ((((w.setCell ⟨N, 0, none⟩ a).setCell ⟨N, 1, none⟩ b).setCell ⟨N, 2, none⟩ c).setCell ⟨N, 3, none⟩ d) B v p rs os code := by
  obtain ⟨vr, vo, e, o1, o2, ha⟩ := h
  exact ⟨vr, vo, e, ((((o1.setBelow hN _).setBelow hN _).setBelow hN _).setBelow hN _).mono hB, ((((o2.setBelow hN _).setBelow hN _).setBelow hN _).setBelow hN _).mono hB, ha⟩

/-- The state, the event and the place of the answer, in three blocks from N on. -/
structure DoBox (w : World) (N : Nat) (p vr vo code : Value) (ek eq ev : Int) : Prop where
  p0 : w.cell? ⟨N, 0, none⟩ = some p
  p1 : w.cell? ⟨N, 1, none⟩ = some vr
  p2 : w.cell? ⟨N, 2, none⟩ = some vo
  p3 : w.cell? ⟨N, 3, none⟩ = some code
  e0 : w.cell? ⟨N + 1, 0, none⟩ = some (.int .i64 ek)
  e1 : w.cell? ⟨N + 1, 1, none⟩ = some (.int .i64 eq)
  e2 : w.cell? ⟨N + 1, 2, none⟩ = some (.int .i64 ev)
  r0 : w.cell? ⟨N + 1 + 1, 0, none⟩ = some (.int .i64 0)
  r1 : w.cell? ⟨N + 1 + 1, 1, none⟩ = some (.slice none 0 0)
  r2 : w.cell? ⟨N + 1 + 1, 2, none⟩ = some (.slice none 0 0)
  r3 : w.cell? ⟨N + 1 + 1, 3, none⟩ = some (.int .i64 0)
  rf : ∀ j, w.frozen? ⟨N + 1 + 1, j, none⟩ = false

theorem DoBox.lt {w : World} {N : Nat} {p vr vo code : Value} {ek eq ev : Int} (h : DoBox w N p vr vo code ek eq ev) : N + 1 + 1 < w.heap.size := World.block_lt_of_cell? w _ h.r0
theorem DoBox.kept {w w' : World} {N : Nat} {p vr vo code : Value} {ek eq ev : Int} (h : DoBox w N p vr vo code ek eq ev) (hb : ∀ k, N ≤ k → k ≤ N + 1 + 1 → w'.heap[k]? = w.heap[k]?) : DoBox w' N p vr vo code ek eq ev :=
  ⟨(World.cell?_of_block (hb N (by omega) (by omega))).trans h.p0, (World.cell?_of_block (hb N (by omega) (by omega))).trans h.p1, (World.cell?_of_block (hb N (by omega) (by omega))).trans h.p2, (World.cell?_of_block (hb N (by omega) (by omega))).trans h.p3,
   (World.cell?_of_block (hb (N + 1) (by omega) (by omega))).trans h.e0, (World.cell?_of_block (hb (N + 1) (by omega) (by omega))).trans h.e1, (World.cell?_of_block (hb (N + 1) (by omega) (by omega))).trans h.e2,
   (World.cell?_of_block (hb (N + 1 + 1) (by omega) (by omega))).trans h.r0, (World.cell?_of_block (hb (N + 1 + 1) (by omega) (by omega))).trans h.r1, (World.cell?_of_block (hb (N + 1 + 1) (by omega) (by omega))).trans h.r2, (World.cell?_of_block (hb (N + 1 + 1) (by omega) (by omega))).trans h.r3,
   fun j => (World.frozen?_of_block (hb (N + 1 + 1) (by omega) (by omega))).trans (h.rf j)⟩
theorem DoBox.below {w w' : World} {N : Nat} {p vr vo code : Value} {ek eq ev : Int} (h : DoBox w N p vr vo code ek eq ev) (hb : Below w.heap.size w w') : DoBox w' N p vr vo code ek eq ev :=
  h.kept fun k _ hk => hb.block k (by have := h.lt; omega)
theorem DoBox.new (w : World) (p vr vo code : Value) (ek eq ev : Int) (t u v : TypeId) : DoBox (((w.alloc (.cells #[p, vr, vo, code] t)).alloc (.cells #[.int .i64 ek, .int .i64 eq, .int .i64 ev] u)).alloc (.cells #[.int .i64 0, .slice none 0 0, .slice none 0 0, .int .i64 0] v)) w.heap.size p vr vo code ek eq ev := by
  refine ⟨?_, ?_, ?_, ?_, ?_, ?_, ?_, ?_, ?_, ?_, ?_, ?_⟩
  · rw [old_cell _ _ (by simp; omega), old_cell _ _ (by simp)]; exact new_cell w _ _ 0 rfl
  · rw [old_cell _ _ (by simp; omega), old_cell _ _ (by simp)]; exact new_cell w _ _ 1 rfl
  · rw [old_cell _ _ (by simp; omega), old_cell _ _ (by simp)]; exact new_cell w _ _ 2 rfl
  · rw [old_cell _ _ (by simp; omega), old_cell _ _ (by simp)]; exact new_cell w _ _ 3 rfl
  · rw [old_cell _ _ (by simp)]; exact new_cell _ _ _ 0 (by simp)
  · rw [old_cell _ _ (by simp)]; exact new_cell _ _ _ 1 (by simp)
  · rw [old_cell _ _ (by simp)]; exact new_cell _ _ _ 2 (by simp)
  · exact new_cell _ _ _ 0 (by simp)
  · exact new_cell _ _ _ 1 (by simp)
  · exact new_cell _ _ _ 2 (by simp)
  · exact new_cell _ _ _ 3 (by simp)
  · exact fun j => new_frozen _ _ _ j (by simp)

/-- The three cells of an event in a block. -/
def EvC3 (w : World) (N : Nat) (k p v : Int) : Prop := w.cell? ⟨N, 0, none⟩ = some (.int .i64 k) ∧ w.cell? ⟨N, 1, none⟩ = some (.int .i64 p) ∧ w.cell? ⟨N, 2, none⟩ = some (.int .i64 v)
theorem EvC3.below {w w' : World} {N : Nat} {k p v : Int} (h : EvC3 w N k p v) (hb : Below w.heap.size w w') : EvC3 w' N k p v := by
  obtain ⟨h0, h1, h2⟩ := h
  have hN : N < w.heap.size := World.block_lt_of_cell? w _ h0
  exact ⟨(hb.cell (p := ⟨N, 0, none⟩) hN).trans h0, (hb.cell (p := ⟨N, 1, none⟩) hN).trans h1, (hb.cell (p := ⟨N, 2, none⟩) hN).trans h2⟩
theorem EvC3.new (w : World) (k p v : Int) (t : TypeId) : EvC3 (w.alloc (.cells #[.int .i64 k, .int .i64 p, .int .i64 v] t)) w.heap.size k p v := by
  unfold EvC3
  simp

theorem StOwn.recode {w : World} {B : Nat} {p code : Int} {ra oa : Option Addr} {rn rc on oc : Nat} {rs os : List Int} (h : StOwn w B (stV p ra rn rc oa on oc code) p rs os code) (c : Int) : StOwn w B (stV p ra rn rc oa on oc c) p rs os c := by
  obtain ⟨vr, vo, e, o1, o2, ha⟩ := h
  simp only [stV, Value.agg.injEq, Array.mk.injEq, List.cons.injEq, and_true, true_and] at e
  obtain ⟨rfl, rfl⟩ := e
  exact ⟨_, _, rfl, o1, o2, ha⟩
theorem StOwn.replace {w : World} {B : Nat} {p code : Int} {ra oa : Option Addr} {rn rc on oc : Nat} {rs os : List Int} (h : StOwn w B (stV p ra rn rc oa on oc code) p rs os code) (q : Int) : StOwn w B (stV q ra rn rc oa on oc code) q rs os code := by
  obtain ⟨vr, vo, e, o1, o2, ha⟩ := h
  simp only [stV, Value.agg.injEq, Array.mk.injEq, List.cons.injEq, and_true, true_and] at e
  obtain ⟨rfl, rfl⟩ := e
  exact ⟨_, _, rfl, o1, o2, ha⟩
theorem DoBox.marked {w w' : World} {N : Nat} {p vr vo code v : Value} {ek eq ev : Int} (h : DoBox w N p vr vo code ek eq ev) (m : Marked v w w') (hv : ∀ k, hasBlock v k → N + 1 + 1 < k) : DoBox w' N p vr vo code ek eq ev :=
  h.kept fun k _ hk => m.block k (by have := h.lt; omega) (fun hh => by have := hv k hh; omega)

def evEqB (a b c a' b' c' : Int) : Bool := a == a' && (b == b' && c == c')
theorem eql_ev (a b c a' b' c' : Int) (w : World) : (binOp .eql 62 (evV a b c) (evV a' b' c')).run Tryz.prog w = .ok (.bool (evEqB a b c a' b' c')) w := by
  rw [run_eql_struct, show (10000 : Nat) = 9998 + 1 + 1 from rfl, run_equalIn_agg w (9998 + 1) 62 _ _ (by kernel_rfl) (by kernel_rfl)]
  simp only [evEqB]
  by_cases h1 : a = a' <;> by_cases h2 : b = b' <;> by_cases h3 : c = c' <;> simp [go_sem, h1, h2, h3]
theorem neq_ev (a b c a' b' c' : Int) (w : World) : (binOp .neq 62 (evV a b c) (evV a' b' c')).run Tryz.prog w = .ok (.bool (!evEqB a b c a' b' c')) w := by
  rw [run_neq_struct, show (10000 : Nat) = 9998 + 1 + 1 from rfl, run_equalIn_agg w (9998 + 1) 62 _ _ (by kernel_rfl) (by kernel_rfl)]
  simp only [evEqB]
  by_cases h1 : a = a' <;> by_cases h2 : b = b' <;> by_cases h3 : c = c' <;> simp [go_sem, h1, h2, h3]

set_option maxRecDepth 100000 in
set_option maxHeartbeats 4000000 in
theorem l2Do_send (b off len cap k : Nat) (g : Nat → I5) (ra oa : Option Addr) (rc oc : Nat) (rs os : List Int) (w : World) (hl : (len : Int) ≤ 30) (hb : b < w.heap.size) (hI : InsAt w b off len g) (h4 : rs.length = 4) (ho : os.length ≤ 60) (h1 : Sl w ra rs) (h2 : Sl w oa os) (hk : k < len) (hp : progOkB g len 4 = true) (np nv : Int) (HN : Hid (evK (g k).o = 2 ∧ evP (g k).o (g k).n = np ∧ evW (g k).o (g k).a rs = nv)) (H6 : Hid ((g k).o = 6)) :
    Calls Tryz.prog 33 #[.slice (some ⟨b, off, none⟩) len cap, stV k ra rs.length rc oa os.length oc 0, evV 2 np nv] w fun e w' => ∃ v, e = .returned (.tuple #[v, .bool true]) ∧ StOwn w' w.heap.size v (doneS len (g k) k rs os 0 nv).p (doneS len (g k) k rs os 0 nv).rs (doneS len (g k) k rs os 0 nv).os (doneS len (g k) k rs os 0 nv).c ∧ Below w.heap.size w w' := by
  have HI : Hid (InsAt w b off len g) := hI
  have H1 : Hid (Sl w ra rs) := h1
  have H2 : Hid (Sl w oa os) := h2
  have H4 : Hid (rs.length = 4) := h4
  have HP : Hid (progOkB g len 4 = true) := hp
  have hk' : (k : Int) < (len : Int) := by omega
  clear hI h1 h2 h4 hp
  go_enter Tryz.func33, Tryz.ntmps33
  go_wp2_with fail
  refine (l2Next_any _ _ _ _ k g _ _ _ _ _ _ rs _ (by unfold maxLen; omega) (by simp; omega) (HI.out.below (by go_grown) hb) (H1.out.below (by go_grown)) H4.out hk HP.out).mono ?_
  rintro e w1 ⟨he1, b1⟩
  rw [HN.out.1, HN.out.2.1, HN.out.2.2] at he1
  subst he1
  have B1 : Hid (Below w.heap.size w (w1.alloc (.cells #[.int .i64 2, .int .i64 np, .int .i64 nv] 62))) := (below_up (by go_grown) b1 (by simp; omega)).alloc (by have := b1.size; simp at this; omega) _
  have X1 : Hid (DoBox (w1.alloc (.cells #[.int .i64 2, .int .i64 np, .int .i64 nv] 62)) w.heap.size (.int .i64 k) (.slice ra rs.length rc) (.slice oa os.length oc) (.int .i64 0) 2 np nv) := ((DoBox.new w _ _ _ _ _ _ _ _ _ _).below b1).below (below_alloc w1 _)
  clear b1
  obtain ⟨p0, p1, p2, p3, -, -, -, -, -, -, -, -⟩ := X1.out
  go_wp2_with fail
  clear p0 p1 p2 p3
  have V1 : Hid (EvC3 (w1.alloc (.cells #[.int .i64 2, .int .i64 np, .int .i64 nv] 62)) w1.heap.size 2 np nv) := EvC3.new w1 _ _ _ _
  generalize w1.alloc (.cells #[.int .i64 2, .int .i64 np, .int .i64 nv] 62) = W1 at *
  refine (l2Copy_any _ _ _ _ _ _ rs os _ (by have := H4.out; omega) (by omega) (H1.out.below B1.out) (H2.out.below B1.out)).mono ?_
  rintro e w2 ⟨v2, rfl, o2, b2⟩
  obtain ⟨ra2, rc2, oa2, oc2, rfl, -, -⟩ := o2.read
  have bA := below_alloc w2 (.cells #[.int .i64 k, .slice ra2 rs.length rc2, .slice oa2 os.length oc2, .int .i64 0] 32)
  have q2 : Below W1.heap.size W1 (w2.alloc (.cells #[.int .i64 k, .slice ra2 rs.length rc2, .slice oa2 os.length oc2, .int .i64 0] 32)) := b2.trans (bA.mono b2.size)
  have X2 : Hid (DoBox (w2.alloc (.cells #[.int .i64 k, .slice ra2 rs.length rc2, .slice oa2 os.length oc2, .int .i64 0] 32)) w.heap.size (.int .i64 k) (.slice ra rs.length rc) (.slice oa os.length oc) (.int .i64 0) 2 np nv) := X1.out.below q2
  have V2 : Hid (EvC3 (w2.alloc (.cells #[.int .i64 k, .slice ra2 rs.length rc2, .slice oa2 os.length oc2, .int .i64 0] 32)) w1.heap.size 2 np nv) := V1.out.below q2
  have Y2 : Hid (BoxC (w2.alloc (.cells #[.int .i64 k, .slice ra2 rs.length rc2, .slice oa2 os.length oc2, .int .i64 0] 32)) w2.heap.size (.int .i64 k) (.slice ra2 rs.length rc2) (.slice oa2 os.length oc2) (.int .i64 0)) := BoxC.new w2 _ _ _ _ _
  have F2 : Hid (∀ j, (w2.alloc (.cells #[.int .i64 k, .slice ra2 rs.length rc2, .slice oa2 os.length oc2, .int .i64 0] 32)).frozen? ⟨w2.heap.size, j, none⟩ = false) := fun j => by simp
  have O2 : Hid (StOwn (w2.alloc (.cells #[.int .i64 k, .slice ra2 rs.length rc2, .slice oa2 os.length oc2, .int .i64 0] 32)) W1.heap.size (stV k ra2 rs.length rc2 oa2 os.length oc2 0) k rs os 0) := o2.below bA
  have L2 : Hid (∀ j, hasBlock (stV k ra2 rs.length rc2 oa2 os.length oc2 0) j → W1.heap.size ≤ j ∧ j < w2.heap.size) := fun j hj => o2.lt hj
  have B2 : Hid (Below w.heap.size w (w2.alloc (.cells #[.int .i64 k, .slice ra2 rs.length rc2, .slice oa2 os.length oc2, .int .i64 0] 32))) := B1.out.trans (q2.mono B1.out.size)
  have zw : w.heap.size + 1 + 1 < W1.heap.size := X1.out.lt
  have zv : w1.heap.size < W1.heap.size := World.block_lt_of_cell? W1 _ V1.out.1
  have z2 : W1.heap.size ≤ w2.heap.size := b2.size
  clear b2 o2 bA q2 X1 V1 B1
  obtain ⟨p0, p1, p2, p3, e0, e1, e2, r0, r1, r2, r3, rf⟩ := X2.out
  obtain ⟨u0, u1, u2⟩ := V2.out
  obtain ⟨t0, t1, t2, t3⟩ := Y2.out
  have tf := F2.out
  go_wp2_with fail
  clear p0 p1 p2 p3 e0 e1 e2 r0 r1 r2 r3 rf u0 u1 u2 t0 t1 t2 t3 tf
  generalize w2.alloc (.cells #[.int .i64 k, .slice ra2 rs.length rc2, .slice oa2 os.length oc2, .int .i64 0] 32) = W2 at *
  refine (l2Go_any _ _ _ _ _ _ _ _ _ _ _ _ (by omega) (by omega)).mono ?_
  rintro e w3 ⟨rfl, b3⟩
  have X3 : Hid (DoBox w3 w.heap.size (.int .i64 k) (.slice ra rs.length rc) (.slice oa os.length oc) (.int .i64 0) 2 np nv) := X2.out.below b3
  have O3 : Hid (StOwn w3 W1.heap.size (stV k ra2 rs.length rc2 oa2 os.length oc2 0) k rs os 0) := O2.out.below b3
  have B3 : Hid (Below w.heap.size w w3) := B2.out.trans (b3.mono B2.out.size)
  clear b3 X2 V2 Y2 F2 O2 B2
  obtain ⟨-, -, -, -, -, -, -, r0, r1, r2, r3, rf⟩ := X3.out
  go_wp2
  refine bodyPost_ret (v := .tuple #[stV (goP len k) ra2 rs.length rc2 oa2 os.length oc2 (goC len k 0), .bool true]) (by simp [results, Tryz.results33, go_sem, r0, r1, r2, r3]) rfl ⟨_, rfl, ?_, ?_⟩
  · have hd : doneS len (g k) k rs os 0 nv = goS len k rs os 0 := by
      unfold doneS
      rw [H6.out, if_pos rfl]
    rw [hd]
    exact StOwn.put4 (B' := W1.heap.size) ((O3.out.replace _).recode _) zw (by omega)
  · have := B3.out
    go_grown

set_option maxRecDepth 100000 in
set_option maxHeartbeats 4000000 in
theorem l2Do_no (b off len cap k : Nat) (g : Nat → I5) (ra oa : Option Addr) (rc oc : Nat) (rs os : List Int) (ek eq ev : Int) (w : World) (hl : (len : Int) ≤ 30) (hb : b < w.heap.size) (hI : InsAt w b off len g) (h4 : rs.length = 4) (ho : os.length ≤ 60) (h1 : Sl w ra rs) (h2 : Sl w oa os) (hk : k < len) (hp : progOkB g len 4 = true) (K np nv : Int) (hK : (K == 3) = false) (HN : Hid (evK (g k).o = K ∧ evP (g k).o (g k).n = np ∧ evW (g k).o (g k).a rs = nv)) (hE : evEqB ek eq ev K np nv = false) :
    Calls Tryz.prog 33 #[.slice (some ⟨b, off, none⟩) len cap, stV k ra rs.length rc oa os.length oc 0, evV ek eq ev] w fun e w' => ∃ v, e = .returned (.tuple #[v, .bool false]) ∧ StOwn w' w.heap.size v k rs os 0 ∧ Below w.heap.size w w' := by
  have HI : Hid (InsAt w b off len g) := hI
  have H1 : Hid (Sl w ra rs) := h1
  have H2 : Hid (Sl w oa os) := h2
  have H4 : Hid (rs.length = 4) := h4
  have HP : Hid (progOkB g len 4 = true) := hp
  have hk' : (k : Int) < (len : Int) := by omega
  clear hI h1 h2 h4 hp
  go_enter Tryz.func33, Tryz.ntmps33
  go_wp2_with fail
  refine (l2Next_any _ _ _ _ k g _ _ _ _ _ _ rs _ (by unfold maxLen; omega) (by simp; omega) (HI.out.below (by go_grown) hb) (H1.out.below (by go_grown)) H4.out hk HP.out).mono ?_
  rintro e w1 ⟨he1, b1⟩
  rw [HN.out.1, HN.out.2.1, HN.out.2.2] at he1
  subst he1
  have B1 : Hid (Below w.heap.size w (w1.alloc (.cells #[.int .i64 K, .int .i64 np, .int .i64 nv] 62))) := (below_up (by go_grown) b1 (by simp; omega)).alloc (by have := b1.size; simp at this; omega) _
  have X1 : Hid (DoBox (w1.alloc (.cells #[.int .i64 K, .int .i64 np, .int .i64 nv] 62)) w.heap.size (.int .i64 k) (.slice ra rs.length rc) (.slice oa os.length oc) (.int .i64 0) ek eq ev) := ((DoBox.new w _ _ _ _ _ _ _ _ _ _).below b1).below (below_alloc w1 _)
  clear b1
  obtain ⟨p0, p1, p2, p3, -, -, -, -, -, -, -, -⟩ := X1.out
  go_wp2_with fail
  clear p0 p1 p2 p3
  have V1 : Hid (EvC3 (w1.alloc (.cells #[.int .i64 K, .int .i64 np, .int .i64 nv] 62)) w1.heap.size K np nv) := EvC3.new w1 _ _ _ _
  generalize w1.alloc (.cells #[.int .i64 K, .int .i64 np, .int .i64 nv] 62) = W1 at *
  refine (l2Copy_any _ _ _ _ _ _ rs os _ (by have := H4.out; omega) (by omega) (H1.out.below B1.out) (H2.out.below B1.out)).mono ?_
  rintro e w2 ⟨v2, rfl, o2, b2⟩
  obtain ⟨ra2, rc2, oa2, oc2, rfl, -, -⟩ := o2.read
  have bA := below_alloc w2 (.cells #[.int .i64 k, .slice ra2 rs.length rc2, .slice oa2 os.length oc2, .int .i64 0] 32)
  have q2 : Below W1.heap.size W1 (w2.alloc (.cells #[.int .i64 k, .slice ra2 rs.length rc2, .slice oa2 os.length oc2, .int .i64 0] 32)) := b2.trans (bA.mono b2.size)
  have X2 : Hid (DoBox (w2.alloc (.cells #[.int .i64 k, .slice ra2 rs.length rc2, .slice oa2 os.length oc2, .int .i64 0] 32)) w.heap.size (.int .i64 k) (.slice ra rs.length rc) (.slice oa os.length oc) (.int .i64 0) ek eq ev) := X1.out.below q2
  have V2 : Hid (EvC3 (w2.alloc (.cells #[.int .i64 k, .slice ra2 rs.length rc2, .slice oa2 os.length oc2, .int .i64 0] 32)) w1.heap.size K np nv) := V1.out.below q2
  have Y2 : Hid (BoxC (w2.alloc (.cells #[.int .i64 k, .slice ra2 rs.length rc2, .slice oa2 os.length oc2, .int .i64 0] 32)) w2.heap.size (.int .i64 k) (.slice ra2 rs.length rc2) (.slice oa2 os.length oc2) (.int .i64 0)) := BoxC.new w2 _ _ _ _ _
  have F2 : Hid (∀ j, (w2.alloc (.cells #[.int .i64 k, .slice ra2 rs.length rc2, .slice oa2 os.length oc2, .int .i64 0] 32)).frozen? ⟨w2.heap.size, j, none⟩ = false) := fun j => by simp
  have O2 : Hid (StOwn (w2.alloc (.cells #[.int .i64 k, .slice ra2 rs.length rc2, .slice oa2 os.length oc2, .int .i64 0] 32)) W1.heap.size (stV k ra2 rs.length rc2 oa2 os.length oc2 0) k rs os 0) := o2.below bA
  have L2 : Hid (∀ j, hasBlock (stV k ra2 rs.length rc2 oa2 os.length oc2 0) j → W1.heap.size ≤ j ∧ j < w2.heap.size) := fun j hj => o2.lt hj
  have B2 : Hid (Below w.heap.size w (w2.alloc (.cells #[.int .i64 k, .slice ra2 rs.length rc2, .slice oa2 os.length oc2, .int .i64 0] 32))) := B1.out.trans (q2.mono B1.out.size)
  have zw : w.heap.size + 1 + 1 < W1.heap.size := X1.out.lt
  have zv : w1.heap.size < W1.heap.size := World.block_lt_of_cell? W1 _ V1.out.1
  have z2 : W1.heap.size ≤ w2.heap.size := b2.size
  clear b2 o2 bA q2 X1 V1 B1
  obtain ⟨p0, p1, p2, p3, e0, e1, e2, r0, r1, r2, r3, rf⟩ := X2.out
  obtain ⟨u0, u1, u2⟩ := V2.out
  obtain ⟨t0, t1, t2, t3⟩ := Y2.out
  have tf := F2.out
  have hne : ∀ wx, (binOp .neq 62 (evV ek eq ev) (evV K np nv)).run Tryz.prog wx = .ok (.bool true) wx := fun wx => by rw [neq_ev, hE]; rfl
  clear hE
  go_wp2
  refine bodyPost_ret (v := .tuple #[stV k ra2 rs.length rc2 oa2 os.length oc2 0, .bool false]) (by simp [results, Tryz.results33, go_sem, r0, r1, r2, r3]) rfl ⟨_, rfl, ?_, ?_⟩
  · exact StOwn.put4 (B' := W1.heap.size) O2.out zw (by omega)
  · have := B2.out
    go_grown

set_option maxRecDepth 100000 in
set_option maxHeartbeats 4000000 in
theorem l2Do_full (b off len cap k : Nat) (g : Nat → I5) (ra oa : Option Addr) (rc oc : Nat) (rs os : List Int) (w : World) (hl : (len : Int) ≤ 30) (hb : b < w.heap.size) (hI : InsAt w b off len g) (h4 : rs.length = 4) (ho : os.length ≤ 60) (h1 : Sl w ra rs) (h2 : Sl w oa os) (hk : k < len) (hp : progOkB g len 4 = true) (np nv : Int) (HN : Hid (evK (g k).o = 4 ∧ evP (g k).o (g k).n = np ∧ evW (g k).o (g k).a rs = nv)) (H8 : Hid ((g k).o = 8 ∧ os.length = 60)) (h60 : ((os.length : Int) == 60) = true) :
    Calls Tryz.prog 33 #[.slice (some ⟨b, off, none⟩) len cap, stV k ra rs.length rc oa os.length oc 0, evV 4 np nv] w fun e w' => ∃ v, e = .returned (.tuple #[v, .bool true]) ∧ StOwn w' w.heap.size v (doneS len (g k) k rs os 0 nv).p (doneS len (g k) k rs os 0 nv).rs (doneS len (g k) k rs os 0 nv).os (doneS len (g k) k rs os 0 nv).c ∧ Below w.heap.size w w' := by
  have HI : Hid (InsAt w b off len g) := hI
  have H1 : Hid (Sl w ra rs) := h1
  have H2 : Hid (Sl w oa os) := h2
  have H4 : Hid (rs.length = 4) := h4
  have HP : Hid (progOkB g len 4 = true) := hp
  have hk' : (k : Int) < (len : Int) := by omega
  clear hI h1 h2 h4 hp
  go_enter Tryz.func33, Tryz.ntmps33
  go_wp2_with fail
  refine (l2Next_any _ _ _ _ k g _ _ _ _ _ _ rs _ (by unfold maxLen; omega) (by simp; omega) (HI.out.below (by go_grown) hb) (H1.out.below (by go_grown)) H4.out hk HP.out).mono ?_
  rintro e w1 ⟨he1, b1⟩
  rw [HN.out.1, HN.out.2.1, HN.out.2.2] at he1
  subst he1
  have B1 : Hid (Below w.heap.size w (w1.alloc (.cells #[.int .i64 4, .int .i64 np, .int .i64 nv] 62))) := (below_up (by go_grown) b1 (by simp; omega)).alloc (by have := b1.size; simp at this; omega) _
  have X1 : Hid (DoBox (w1.alloc (.cells #[.int .i64 4, .int .i64 np, .int .i64 nv] 62)) w.heap.size (.int .i64 k) (.slice ra rs.length rc) (.slice oa os.length oc) (.int .i64 0) 4 np nv) := ((DoBox.new w _ _ _ _ _ _ _ _ _ _).below b1).below (below_alloc w1 _)
  clear b1
  obtain ⟨p0, p1, p2, p3, -, -, -, -, -, -, -, -⟩ := X1.out
  go_wp2_with fail
  clear p0 p1 p2 p3
  have V1 : Hid (EvC3 (w1.alloc (.cells #[.int .i64 4, .int .i64 np, .int .i64 nv] 62)) w1.heap.size 4 np nv) := EvC3.new w1 _ _ _ _
  generalize w1.alloc (.cells #[.int .i64 4, .int .i64 np, .int .i64 nv] 62) = W1 at *
  refine (l2Copy_any _ _ _ _ _ _ rs os _ (by have := H4.out; omega) (by omega) (H1.out.below B1.out) (H2.out.below B1.out)).mono ?_
  rintro e w2 ⟨v2, rfl, o2, b2⟩
  obtain ⟨ra2, rc2, oa2, oc2, rfl, -, -⟩ := o2.read
  have bA := below_alloc w2 (.cells #[.int .i64 k, .slice ra2 rs.length rc2, .slice oa2 os.length oc2, .int .i64 0] 32)
  have q2 : Below W1.heap.size W1 (w2.alloc (.cells #[.int .i64 k, .slice ra2 rs.length rc2, .slice oa2 os.length oc2, .int .i64 0] 32)) := b2.trans (bA.mono b2.size)
  have X2 : Hid (DoBox (w2.alloc (.cells #[.int .i64 k, .slice ra2 rs.length rc2, .slice oa2 os.length oc2, .int .i64 0] 32)) w.heap.size (.int .i64 k) (.slice ra rs.length rc) (.slice oa os.length oc) (.int .i64 0) 4 np nv) := X1.out.below q2
  have V2 : Hid (EvC3 (w2.alloc (.cells #[.int .i64 k, .slice ra2 rs.length rc2, .slice oa2 os.length oc2, .int .i64 0] 32)) w1.heap.size 4 np nv) := V1.out.below q2
  have Y2 : Hid (BoxC (w2.alloc (.cells #[.int .i64 k, .slice ra2 rs.length rc2, .slice oa2 os.length oc2, .int .i64 0] 32)) w2.heap.size (.int .i64 k) (.slice ra2 rs.length rc2) (.slice oa2 os.length oc2) (.int .i64 0)) := BoxC.new w2 _ _ _ _ _
  have F2 : Hid (∀ j, (w2.alloc (.cells #[.int .i64 k, .slice ra2 rs.length rc2, .slice oa2 os.length oc2, .int .i64 0] 32)).frozen? ⟨w2.heap.size, j, none⟩ = false) := fun j => by simp
  have O2 : Hid (StOwn (w2.alloc (.cells #[.int .i64 k, .slice ra2 rs.length rc2, .slice oa2 os.length oc2, .int .i64 0] 32)) W1.heap.size (stV k ra2 rs.length rc2 oa2 os.length oc2 0) k rs os 0) := o2.below bA
  have L2 : Hid (∀ j, hasBlock (stV k ra2 rs.length rc2 oa2 os.length oc2 0) j → W1.heap.size ≤ j ∧ j < w2.heap.size) := fun j hj => o2.lt hj
  have B2 : Hid (Below w.heap.size w (w2.alloc (.cells #[.int .i64 k, .slice ra2 rs.length rc2, .slice oa2 os.length oc2, .int .i64 0] 32))) := B1.out.trans (q2.mono B1.out.size)
  have zw : w.heap.size + 1 + 1 < W1.heap.size := X1.out.lt
  have zv : w1.heap.size < W1.heap.size := World.block_lt_of_cell? W1 _ V1.out.1
  have z2 : W1.heap.size ≤ w2.heap.size := b2.size
  clear b2 o2 bA q2 X1 V1 B1
  obtain ⟨p0, p1, p2, p3, e0, e1, e2, r0, r1, r2, r3, rf⟩ := X2.out
  obtain ⟨u0, u1, u2⟩ := V2.out
  obtain ⟨t0, t1, t2, t3⟩ := Y2.out
  have tf := F2.out
  go_wp2_with fail
  clear p0 p1 p2 p3 e0 e1 e2 r0 r1 r2 r3 rf u0 u1 u2 t0 t1 t2 t3 tf
  generalize w2.alloc (.cells #[.int .i64 k, .slice ra2 rs.length rc2, .slice oa2 os.length oc2, .int .i64 0] 32) = W2 at *
  refine (l2Fault_any _ _ _ _ _ _ _ _ _).mono ?_
  rintro e w3 ⟨rfl, b3⟩
  have X3 : Hid (DoBox w3 w.heap.size (.int .i64 k) (.slice ra rs.length rc) (.slice oa os.length oc) (.int .i64 0) 4 np nv) := X2.out.below b3
  have O3 : Hid (StOwn w3 W1.heap.size (stV k ra2 rs.length rc2 oa2 os.length oc2 0) k rs os 0) := O2.out.below b3
  have B3 : Hid (Below w.heap.size w w3) := B2.out.trans (b3.mono B2.out.size)
  clear b3 X2 V2 Y2 F2 O2 B2
  obtain ⟨-, -, -, -, -, -, -, r0, r1, r2, r3, rf⟩ := X3.out
  go_wp2
  refine bodyPost_ret (v := .tuple #[stV k ra2 rs.length rc2 oa2 os.length oc2 2, .bool true]) (by simp [results, Tryz.results33, go_sem, r0, r1, r2, r3]) rfl ⟨_, rfl, ?_, ?_⟩
  · have hd : doneS len (g k) k rs os 0 nv = ⟨k, rs, os, 2⟩ := by
      unfold doneS
      rw [H8.out.1, if_neg (by decide), if_neg (by decide), if_pos rfl, if_pos H8.out.2]
    rw [hd]
    exact StOwn.put4 (B' := W1.heap.size) (O3.out.recode 2) zw (by omega)
  · have := B3.out
    go_grown

set_option maxRecDepth 100000 in
set_option maxHeartbeats 4000000 in
theorem l2Do_take_no (b off len cap k : Nat) (g : Nat → I5) (ra oa : Option Addr) (rc oc : Nat) (rs os : List Int) (ek eq ev : Int) (w : World) (hl : (len : Int) ≤ 30) (hb : b < w.heap.size) (hI : InsAt w b off len g) (h4 : rs.length = 4) (ho : os.length ≤ 60) (h1 : Sl w ra rs) (h2 : Sl w oa os) (hk : k < len) (hp : progOkB g len 4 = true) (np nv : Int) (HN : Hid (evK (g k).o = 3 ∧ evP (g k).o (g k).n = np ∧ evW (g k).o (g k).a rs = nv)) (HQ : Hid ((ek != 3) = true ∨ ((ek != 3) = false ∧ inB ev (-1000000000) 1000000000 = false) ∨ ((ek != 3) = false ∧ inB ev (-1000000000) 1000000000 = true ∧ (np != 9) = true ∧ (eq != np) = true) ∨ ((ek != 3) = false ∧ inB ev (-1000000000) 1000000000 = true ∧ (np != 9) = false ∧ inB eq 0 3 = false))) :
    Calls Tryz.prog 33 #[.slice (some ⟨b, off, none⟩) len cap, stV k ra rs.length rc oa os.length oc 0, evV ek eq ev] w fun e w' => ∃ v, e = .returned (.tuple #[v, .bool false]) ∧ StOwn w' w.heap.size v k rs os 0 ∧ Below w.heap.size w w' := by
  have HI : Hid (InsAt w b off len g) := hI
  have H1 : Hid (Sl w ra rs) := h1
  have H2 : Hid (Sl w oa os) := h2
  have H4 : Hid (rs.length = 4) := h4
  have HP : Hid (progOkB g len 4 = true) := hp
  have hk' : (k : Int) < (len : Int) := by omega
  clear hI h1 h2 h4 hp
  go_enter Tryz.func33, Tryz.ntmps33
  go_wp2_with fail
  refine (l2Next_any _ _ _ _ k g _ _ _ _ _ _ rs _ (by unfold maxLen; omega) (by simp; omega) (HI.out.below (by go_grown) hb) (H1.out.below (by go_grown)) H4.out hk HP.out).mono ?_
  rintro e w1 ⟨he1, b1⟩
  rw [HN.out.1, HN.out.2.1, HN.out.2.2] at he1
  subst he1
  have B1 : Hid (Below w.heap.size w (w1.alloc (.cells #[.int .i64 3, .int .i64 np, .int .i64 nv] 62))) := (below_up (by go_grown) b1 (by simp; omega)).alloc (by have := b1.size; simp at this; omega) _
  have X1 : Hid (DoBox (w1.alloc (.cells #[.int .i64 3, .int .i64 np, .int .i64 nv] 62)) w.heap.size (.int .i64 k) (.slice ra rs.length rc) (.slice oa os.length oc) (.int .i64 0) ek eq ev) := ((DoBox.new w _ _ _ _ _ _ _ _ _ _).below b1).below (below_alloc w1 _)
  clear b1
  obtain ⟨p0, p1, p2, p3, -, -, -, -, -, -, -, -⟩ := X1.out
  go_wp2_with fail
  clear p0 p1 p2 p3
  have V1 : Hid (EvC3 (w1.alloc (.cells #[.int .i64 3, .int .i64 np, .int .i64 nv] 62)) w1.heap.size 3 np nv) := EvC3.new w1 _ _ _ _
  generalize w1.alloc (.cells #[.int .i64 3, .int .i64 np, .int .i64 nv] 62) = W1 at *
  refine (l2Copy_any _ _ _ _ _ _ rs os _ (by have := H4.out; omega) (by omega) (H1.out.below B1.out) (H2.out.below B1.out)).mono ?_
  rintro e w2 ⟨v2, rfl, o2, b2⟩
  obtain ⟨ra2, rc2, oa2, oc2, rfl, -, -⟩ := o2.read
  have bA := below_alloc w2 (.cells #[.int .i64 k, .slice ra2 rs.length rc2, .slice oa2 os.length oc2, .int .i64 0] 32)
  have q2 : Below W1.heap.size W1 (w2.alloc (.cells #[.int .i64 k, .slice ra2 rs.length rc2, .slice oa2 os.length oc2, .int .i64 0] 32)) := b2.trans (bA.mono b2.size)
  have X2 : Hid (DoBox (w2.alloc (.cells #[.int .i64 k, .slice ra2 rs.length rc2, .slice oa2 os.length oc2, .int .i64 0] 32)) w.heap.size (.int .i64 k) (.slice ra rs.length rc) (.slice oa os.length oc) (.int .i64 0) ek eq ev) := X1.out.below q2
  have V2 : Hid (EvC3 (w2.alloc (.cells #[.int .i64 k, .slice ra2 rs.length rc2, .slice oa2 os.length oc2, .int .i64 0] 32)) w1.heap.size 3 np nv) := V1.out.below q2
  have Y2 : Hid (BoxC (w2.alloc (.cells #[.int .i64 k, .slice ra2 rs.length rc2, .slice oa2 os.length oc2, .int .i64 0] 32)) w2.heap.size (.int .i64 k) (.slice ra2 rs.length rc2) (.slice oa2 os.length oc2) (.int .i64 0)) := BoxC.new w2 _ _ _ _ _
  have F2 : Hid (∀ j, (w2.alloc (.cells #[.int .i64 k, .slice ra2 rs.length rc2, .slice oa2 os.length oc2, .int .i64 0] 32)).frozen? ⟨w2.heap.size, j, none⟩ = false) := fun j => by simp
  have O2 : Hid (StOwn (w2.alloc (.cells #[.int .i64 k, .slice ra2 rs.length rc2, .slice oa2 os.length oc2, .int .i64 0] 32)) W1.heap.size (stV k ra2 rs.length rc2 oa2 os.length oc2 0) k rs os 0) := o2.below bA
  have L2 : Hid (∀ j, hasBlock (stV k ra2 rs.length rc2 oa2 os.length oc2 0) j → W1.heap.size ≤ j ∧ j < w2.heap.size) := fun j hj => o2.lt hj
  have B2 : Hid (Below w.heap.size w (w2.alloc (.cells #[.int .i64 k, .slice ra2 rs.length rc2, .slice oa2 os.length oc2, .int .i64 0] 32))) := B1.out.trans (q2.mono B1.out.size)
  have zw : w.heap.size + 1 + 1 < W1.heap.size := X1.out.lt
  have zv : w1.heap.size < W1.heap.size := World.block_lt_of_cell? W1 _ V1.out.1
  have z2 : W1.heap.size ≤ w2.heap.size := b2.size
  clear b2 o2 bA q2 X1 V1 B1
  obtain ⟨p0, p1, p2, p3, e0, e1, e2, r0, r1, r2, r3, rf⟩ := X2.out
  obtain ⟨u0, u1, u2⟩ := V2.out
  obtain ⟨t0, t1, t2, t3⟩ := Y2.out
  have tf := F2.out
  rcases HQ.out with q1 | ⟨q1, q2⟩ | ⟨q1, q2, q3, q4⟩ | ⟨q1, q2, q3, q5⟩
  all_goals
    go_wp2_with (first | (go_at_call 59; refine (l1Num_any _ _).mono ?_; rintro e w' ⟨rfl, rfl⟩) | (go_at_call 31; refine (l1In_any _ _ _ _).mono ?_; rintro e w' ⟨rfl, rfl⟩))
    refine bodyPost_ret (v := .tuple #[stV k ra2 rs.length rc2 oa2 os.length oc2 0, .bool false]) (by simp [results, Tryz.results33, go_sem, r0, r1, r2, r3]) rfl ⟨_, rfl, ?_, ?_⟩
    · exact StOwn.put4 (B' := W1.heap.size) O2.out zw (by omega)
    · have := B2.out
      go_grown

end Go.Proofs.YtcmmlklanjhfoaaGreatDoor

namespace Go.Proofs.YtcmmlklanjhfoaaGreatDoor
open Go.RowKit

set_option maxRecDepth 100000 in
set_option maxHeartbeats 4000000 in
theorem l2Local_1 (b off len cap k : Nat) (g : Nat → I5) (G rc : Nat) (oa : Option Addr) (on oc : Nat) (code : Int) (rs : List Int) (B : Nat) (w : World) (hl : (len : Int) ≤ 30) (hb : b < w.heap.size) (hI : InsAt w b off len g) (hO : OwnI w B (.slice (some ⟨G, 0, none⟩) 4 rc) rs) (h4 : rs.length = 4) (hk : k < len) (jr ja jb : Nat) (hr : (g k).r = jr) (ha : (g k).a = ja) (hbb : (g k).b = jb) (jr3 : jr < 4) (ja3 : ja < 4) (jb3 : jb < 4) (ho : (g k).o = 1) (hnum : ∀ j, j < 4 → numB (zi rs j) = true) (os : List Int) :
    Calls Tryz.prog 62 #[.slice (some ⟨b, off, none⟩) len cap, stV k (some ⟨G, 0, none⟩) 4 rc oa on oc code] w fun e w' => e = .returned (stV (doneS len (g k) k rs os code 0).p (some ⟨G, 0, none⟩) 4 rc oa on oc (doneS len (g k) k rs os code 0).c) ∧ OwnI w' B (.slice (some ⟨G, 0, none⟩) 4 rc) (doneS len (g k) k rs os code 0).rs ∧ w.grownBy w' (some G) := by
  have hk' : (k : Int) < (len : Int) := by omega
  obtain ⟨c0, c1, c2, c3, c4⟩ := hI k hk
  rw [ho] at c0
  rw [hr] at c1
  rw [ha] at c2
  rw [hbb] at c3
  have hGl : G < w.heap.size := (hO.lt G rfl).2
  have HO : Hid (OwnI w B (.slice (some ⟨G, 0, none⟩) 4 rc) rs) := hO
  have ca : w.cell? ⟨G, ja, none⟩ = some (.int .i64 (zi rs ja)) := by rw [← h4] at hO ja3; exact hO.cell ja3
  have cb : w.cell? ⟨G, jb, none⟩ = some (.int .i64 (zi rs jb)) := by rw [← h4] at hO jb3; exact hO.cell jb3
  have cr : w.cell? ⟨G, jr, none⟩ = some (.int .i64 (zi rs jr)) := by rw [← h4] at hO jr3; exact hO.cell jr3
  have fr : w.frozen? ⟨G, jr, none⟩ = false := by rw [← h4] at hO; exact hO.frozen jr
  have na := numB_iff.1 (hnum ja ja3)
  have nb := numB_iff.1 (hnum jb jb3)
  have mb := mul_bound (hnum ja ja3) (hnum jb jb3)
  obtain ⟨na1, na2⟩ := na
  obtain ⟨nb1, nb2⟩ := nb
  obtain ⟨mb1, mb2⟩ := mb
  have hG1 : G < w.heap.size + 1 := by omega
  have hG2 : G < w.heap.size + 1 + 1 := by omega
  have jr' : (jr : Int) < 4 := by omega
  have ja' : (ja : Int) < 4 := by omega
  have jb' : (jb : Int) < 4 := by omega
  have hn0 : -1000000000 ≤ (g k).n ∨ True := .inr trivial
  have HH : Hid (rs.length = 4 ∧ (g k).r = jr ∧ (g k).a = ja ∧ (g k).b = jb ∧ (g k).o = 1) := ⟨h4, hr, ha, hbb, ho⟩
  have hv : calcN (g k).o (zi rs (g k).a.toNat) (zi rs (g k).b.toNat) (g k).n = (g k).n := by
    have e1 : (g k).a.toNat = ja := by rw [HH.out.2.2.1]; exact Int.toNat_natCast ja
    have e2 : (g k).b.toNat = jb := by rw [HH.out.2.2.2.1]; exact Int.toNat_natCast jb
    rw [HH.out.2.2.2.2]; rfl
  have er : (g k).r.toNat = jr := by rw [HH.out.2.1]; exact Int.toNat_natCast jr
  rcases Bool.eq_false_or_eq_true (numB ((g k).n)) with tn | tn
  · have hd : doneS len (g k) k rs os code 0 = goS len k (rs.set jr ((g k).n)) os code := by
      unfold doneS
      rw [HH.out.2.2.2.2] at hv ⊢
      rw [if_neg (by decide), if_neg (by decide), if_neg (by decide), if_neg (by decide), if_neg (by decide), if_neg (by decide), hv, if_pos tn, er]
    rw [hd]
    have tn1 : inB ((g k).n) (-1000000000) 1000000000 = true := tn
    clear hd hv tn er hr ha hbb ho hnum hI hO h4
    go_enter Tryz.func62, Tryz.ntmps62
    go_wp2_with fail
    go_quiet (fail)
    go_wp2_with (go_at_call 59; refine (l1Num_any _ _).mono ?_; rintro e w' ⟨rfl, rfl⟩)
    have hbW : Below w.heap.size w (((w.alloc (.cells #[.int .i64 k, .slice (some ⟨G, 0, none⟩) 4 rc, .slice oa on oc, .int .i64 code] 32)).alloc (.cells #[.int .i64 0, .slice none 0 0, .slice none 0 0, .int .i64 0] 32)).alloc (.cells #[.int .i64 1, .int .i64 jr, .int .i64 ja, .int .i64 jb, .int .i64 (g k).n] 97)) := by go_grown
    have HW : Hid (OwnI (((((w.alloc (.cells #[.int .i64 k, .slice (some ⟨G, 0, none⟩) 4 rc, .slice oa on oc, .int .i64 code] 32)).alloc (.cells #[.int .i64 0, .slice none 0 0, .slice none 0 0, .int .i64 0] 32)).alloc (.cells #[.int .i64 1, .int .i64 jr, .int .i64 ja, .int .i64 jb, .int .i64 (g k).n] 97)).drewN nq).setCell ⟨G, jr, none⟩ (.int .i64 ((g k).n))) B (.slice (some ⟨G, 0, none⟩) 4 rc) (rs.set jr ((g k).n))) := (((HO.out.below hbW).drewN nq).set HH.out.1.symm jr _).1
    have GW : Hid (w.grownBy (((((w.alloc (.cells #[.int .i64 k, .slice (some ⟨G, 0, none⟩) 4 rc, .slice oa on oc, .int .i64 code] 32)).alloc (.cells #[.int .i64 0, .slice none 0 0, .slice none 0 0, .int .i64 0] 32)).alloc (.cells #[.int .i64 1, .int .i64 jr, .int .i64 ja, .int .i64 jb, .int .i64 (g k).n] 97)).drewN nq).setCell ⟨G, jr, none⟩ (.int .i64 ((g k).n))) (some G)) := grown_setCell (p := ⟨G, jr, none⟩) (grown_drewN (grown_any (grown_of_below hbW) _) nq) (.inl rfl) _
    clear hbW
    refine (l2Go_any _ _ _ _ _ _ _ _ _ _ _ _ (by omega) (by omega)).mono ?_
    rintro e w1 ⟨rfl, b1⟩
    obtain ⟨hc1, hf1⟩ := bcell b1
    have HW1 : Hid (OwnI w1 B (.slice (some ⟨G, 0, none⟩) 4 rc) (rs.set jr ((g k).n)) ∧ w.grownBy w1 (some G)) := ⟨HW.out.below b1, GW.out.trans (grown_any (grown_of_below b1) _)⟩
    clear b1 HW GW
    go_wp2
    refine bodyPost_ret (v := stV (goP len k) (some ⟨G, 0, none⟩) 4 rc oa on oc (goC len k code)) (by simp [results, Tryz.results62, go_sem, hc1]) rfl ⟨rfl, ?_, ?_⟩
    · repeat (refine OwnI.setOther ?_ (by simp [Value.ownBlock]; omega) _)
      exact HW1.out.1
    · repeat (refine grown_setCell ?_ (.inr (by simp)) _)
      exact HW1.out.2
  · have hd : doneS len (g k) k rs os code 0 = ⟨k, rs, os, 2⟩ := by
      unfold doneS
      rw [HH.out.2.2.2.2] at hv ⊢
      rw [if_neg (by decide), if_neg (by decide), if_neg (by decide), if_neg (by decide), if_neg (by decide), if_neg (by decide), hv, if_neg (by rw [tn]; decide)]
    rw [hd]
    have tn1 : inB ((g k).n) (-1000000000) 1000000000 = false := tn
    clear hd hv tn er hr ha hbb ho hnum hI hO h4
    go_enter Tryz.func62, Tryz.ntmps62
    go_wp2_with fail
    go_quiet (fail)
    go_wp2_with (go_at_call 59; refine (l1Num_any _ _).mono ?_; rintro e w' ⟨rfl, rfl⟩)
    have hbW : Below w.heap.size w ((((w.alloc (.cells #[.int .i64 k, .slice (some ⟨G, 0, none⟩) 4 rc, .slice oa on oc, .int .i64 code] 32)).alloc (.cells #[.int .i64 0, .slice none 0 0, .slice none 0 0, .int .i64 0] 32)).alloc (.cells #[.int .i64 1, .int .i64 jr, .int .i64 ja, .int .i64 jb, .int .i64 (g k).n] 97)).drewN nq) := below_drewN (by go_grown) nq
    refine (l2Fault_any _ _ _ _ _ _ _ _ _).mono ?_
    rintro e w1 ⟨rfl, b1⟩
    obtain ⟨hc1, hf1⟩ := bcell b1
    have b1' : Below w.heap.size w w1 := hbW.trans (b1.mono hbW.size)
    have HW1 : Hid (OwnI w1 B (.slice (some ⟨G, 0, none⟩) 4 rc) rs ∧ w.grownBy w1 (some G)) := ⟨HO.out.below b1', grown_any (grown_of_below b1') _⟩
    clear b1 b1' hbW
    go_wp2
    refine bodyPost_ret (v := stV k (some ⟨G, 0, none⟩) 4 rc oa on oc 2) (by simp [results, Tryz.results62, go_sem, hc1]) rfl ⟨rfl, ?_, ?_⟩
    · repeat (refine OwnI.setOther ?_ (by simp [Value.ownBlock]; omega) _)
      exact HW1.out.1
    · repeat (refine grown_setCell ?_ (.inr (by simp)) _)
      exact HW1.out.2

set_option maxRecDepth 100000 in
set_option maxHeartbeats 4000000 in
theorem l2Local_2 (b off len cap k : Nat) (g : Nat → I5) (G rc : Nat) (oa : Option Addr) (on oc : Nat) (code : Int) (rs : List Int) (B : Nat) (w : World) (hl : (len : Int) ≤ 30) (hb : b < w.heap.size) (hI : InsAt w b off len g) (hO : OwnI w B (.slice (some ⟨G, 0, none⟩) 4 rc) rs) (h4 : rs.length = 4) (hk : k < len) (jr ja jb : Nat) (hr : (g k).r = jr) (ha : (g k).a = ja) (hbb : (g k).b = jb) (jr3 : jr < 4) (ja3 : ja < 4) (jb3 : jb < 4) (ho : (g k).o = 2) (hnum : ∀ j, j < 4 → numB (zi rs j) = true) (os : List Int) :
    Calls Tryz.prog 62 #[.slice (some ⟨b, off, none⟩) len cap, stV k (some ⟨G, 0, none⟩) 4 rc oa on oc code] w fun e w' => e = .returned (stV (doneS len (g k) k rs os code 0).p (some ⟨G, 0, none⟩) 4 rc oa on oc (doneS len (g k) k rs os code 0).c) ∧ OwnI w' B (.slice (some ⟨G, 0, none⟩) 4 rc) (doneS len (g k) k rs os code 0).rs ∧ w.grownBy w' (some G) := by
  have hk' : (k : Int) < (len : Int) := by omega
  obtain ⟨c0, c1, c2, c3, c4⟩ := hI k hk
  rw [ho] at c0
  rw [hr] at c1
  rw [ha] at c2
  rw [hbb] at c3
  have hGl : G < w.heap.size := (hO.lt G rfl).2
  have HO : Hid (OwnI w B (.slice (some ⟨G, 0, none⟩) 4 rc) rs) := hO
  have ca : w.cell? ⟨G, ja, none⟩ = some (.int .i64 (zi rs ja)) := by rw [← h4] at hO ja3; exact hO.cell ja3
  have cb : w.cell? ⟨G, jb, none⟩ = some (.int .i64 (zi rs jb)) := by rw [← h4] at hO jb3; exact hO.cell jb3
  have cr : w.cell? ⟨G, jr, none⟩ = some (.int .i64 (zi rs jr)) := by rw [← h4] at hO jr3; exact hO.cell jr3
  have fr : w.frozen? ⟨G, jr, none⟩ = false := by rw [← h4] at hO; exact hO.frozen jr
  have na := numB_iff.1 (hnum ja ja3)
  have nb := numB_iff.1 (hnum jb jb3)
  have mb := mul_bound (hnum ja ja3) (hnum jb jb3)
  obtain ⟨na1, na2⟩ := na
  obtain ⟨nb1, nb2⟩ := nb
  obtain ⟨mb1, mb2⟩ := mb
  have hG1 : G < w.heap.size + 1 := by omega
  have hG2 : G < w.heap.size + 1 + 1 := by omega
  have jr' : (jr : Int) < 4 := by omega
  have ja' : (ja : Int) < 4 := by omega
  have jb' : (jb : Int) < 4 := by omega
  have hn0 : -1000000000 ≤ (g k).n ∨ True := .inr trivial
  have HH : Hid (rs.length = 4 ∧ (g k).r = jr ∧ (g k).a = ja ∧ (g k).b = jb ∧ (g k).o = 2) := ⟨h4, hr, ha, hbb, ho⟩
  have hv : calcN (g k).o (zi rs (g k).a.toNat) (zi rs (g k).b.toNat) (g k).n = zi rs ja + zi rs jb := by
    have e1 : (g k).a.toNat = ja := by rw [HH.out.2.2.1]; exact Int.toNat_natCast ja
    have e2 : (g k).b.toNat = jb := by rw [HH.out.2.2.2.1]; exact Int.toNat_natCast jb
    rw [HH.out.2.2.2.2, e1, e2]; rfl
  have er : (g k).r.toNat = jr := by rw [HH.out.2.1]; exact Int.toNat_natCast jr
  rcases Bool.eq_false_or_eq_true (numB (zi rs ja + zi rs jb)) with tn | tn
  · have hd : doneS len (g k) k rs os code 0 = goS len k (rs.set jr (zi rs ja + zi rs jb)) os code := by
      unfold doneS
      rw [HH.out.2.2.2.2] at hv ⊢
      rw [if_neg (by decide), if_neg (by decide), if_neg (by decide), if_neg (by decide), if_neg (by decide), if_neg (by decide), hv, if_pos tn, er]
    rw [hd]
    have tn1 : inB (zi rs ja + zi rs jb) (-1000000000) 1000000000 = true := tn
    clear hd hv tn er hr ha hbb ho hnum hI hO h4
    go_enter Tryz.func62, Tryz.ntmps62
    go_wp2_with fail
    go_quiet (fail)
    go_wp2_with (go_at_call 59; refine (l1Num_any _ _).mono ?_; rintro e w' ⟨rfl, rfl⟩)
    have hbW : Below w.heap.size w (((w.alloc (.cells #[.int .i64 k, .slice (some ⟨G, 0, none⟩) 4 rc, .slice oa on oc, .int .i64 code] 32)).alloc (.cells #[.int .i64 0, .slice none 0 0, .slice none 0 0, .int .i64 0] 32)).alloc (.cells #[.int .i64 2, .int .i64 jr, .int .i64 ja, .int .i64 jb, .int .i64 (g k).n] 97)) := by go_grown
    have HW : Hid (OwnI (((((w.alloc (.cells #[.int .i64 k, .slice (some ⟨G, 0, none⟩) 4 rc, .slice oa on oc, .int .i64 code] 32)).alloc (.cells #[.int .i64 0, .slice none 0 0, .slice none 0 0, .int .i64 0] 32)).alloc (.cells #[.int .i64 2, .int .i64 jr, .int .i64 ja, .int .i64 jb, .int .i64 (g k).n] 97)).drewN nq).setCell ⟨G, jr, none⟩ (.int .i64 (zi rs ja + zi rs jb))) B (.slice (some ⟨G, 0, none⟩) 4 rc) (rs.set jr (zi rs ja + zi rs jb))) := (((HO.out.below hbW).drewN nq).set HH.out.1.symm jr _).1
    have GW : Hid (w.grownBy (((((w.alloc (.cells #[.int .i64 k, .slice (some ⟨G, 0, none⟩) 4 rc, .slice oa on oc, .int .i64 code] 32)).alloc (.cells #[.int .i64 0, .slice none 0 0, .slice none 0 0, .int .i64 0] 32)).alloc (.cells #[.int .i64 2, .int .i64 jr, .int .i64 ja, .int .i64 jb, .int .i64 (g k).n] 97)).drewN nq).setCell ⟨G, jr, none⟩ (.int .i64 (zi rs ja + zi rs jb))) (some G)) := grown_setCell (p := ⟨G, jr, none⟩) (grown_drewN (grown_any (grown_of_below hbW) _) nq) (.inl rfl) _
    clear hbW
    refine (l2Go_any _ _ _ _ _ _ _ _ _ _ _ _ (by omega) (by omega)).mono ?_
    rintro e w1 ⟨rfl, b1⟩
    obtain ⟨hc1, hf1⟩ := bcell b1
    have HW1 : Hid (OwnI w1 B (.slice (some ⟨G, 0, none⟩) 4 rc) (rs.set jr (zi rs ja + zi rs jb)) ∧ w.grownBy w1 (some G)) := ⟨HW.out.below b1, GW.out.trans (grown_any (grown_of_below b1) _)⟩
    clear b1 HW GW
    go_wp2
    refine bodyPost_ret (v := stV (goP len k) (some ⟨G, 0, none⟩) 4 rc oa on oc (goC len k code)) (by simp [results, Tryz.results62, go_sem, hc1]) rfl ⟨rfl, ?_, ?_⟩
    · repeat (refine OwnI.setOther ?_ (by simp [Value.ownBlock]; omega) _)
      exact HW1.out.1
    · repeat (refine grown_setCell ?_ (.inr (by simp)) _)
      exact HW1.out.2
  · have hd : doneS len (g k) k rs os code 0 = ⟨k, rs, os, 2⟩ := by
      unfold doneS
      rw [HH.out.2.2.2.2] at hv ⊢
      rw [if_neg (by decide), if_neg (by decide), if_neg (by decide), if_neg (by decide), if_neg (by decide), if_neg (by decide), hv, if_neg (by rw [tn]; decide)]
    rw [hd]
    have tn1 : inB (zi rs ja + zi rs jb) (-1000000000) 1000000000 = false := tn
    clear hd hv tn er hr ha hbb ho hnum hI hO h4
    go_enter Tryz.func62, Tryz.ntmps62
    go_wp2_with fail
    go_quiet (fail)
    go_wp2_with (go_at_call 59; refine (l1Num_any _ _).mono ?_; rintro e w' ⟨rfl, rfl⟩)
    have hbW : Below w.heap.size w ((((w.alloc (.cells #[.int .i64 k, .slice (some ⟨G, 0, none⟩) 4 rc, .slice oa on oc, .int .i64 code] 32)).alloc (.cells #[.int .i64 0, .slice none 0 0, .slice none 0 0, .int .i64 0] 32)).alloc (.cells #[.int .i64 2, .int .i64 jr, .int .i64 ja, .int .i64 jb, .int .i64 (g k).n] 97)).drewN nq) := below_drewN (by go_grown) nq
    refine (l2Fault_any _ _ _ _ _ _ _ _ _).mono ?_
    rintro e w1 ⟨rfl, b1⟩
    obtain ⟨hc1, hf1⟩ := bcell b1
    have b1' : Below w.heap.size w w1 := hbW.trans (b1.mono hbW.size)
    have HW1 : Hid (OwnI w1 B (.slice (some ⟨G, 0, none⟩) 4 rc) rs ∧ w.grownBy w1 (some G)) := ⟨HO.out.below b1', grown_any (grown_of_below b1') _⟩
    clear b1 b1' hbW
    go_wp2
    refine bodyPost_ret (v := stV k (some ⟨G, 0, none⟩) 4 rc oa on oc 2) (by simp [results, Tryz.results62, go_sem, hc1]) rfl ⟨rfl, ?_, ?_⟩
    · repeat (refine OwnI.setOther ?_ (by simp [Value.ownBlock]; omega) _)
      exact HW1.out.1
    · repeat (refine grown_setCell ?_ (.inr (by simp)) _)
      exact HW1.out.2

set_option maxRecDepth 100000 in
set_option maxHeartbeats 4000000 in
theorem l2Local_3 (b off len cap k : Nat) (g : Nat → I5) (G rc : Nat) (oa : Option Addr) (on oc : Nat) (code : Int) (rs : List Int) (B : Nat) (w : World) (hl : (len : Int) ≤ 30) (hb : b < w.heap.size) (hI : InsAt w b off len g) (hO : OwnI w B (.slice (some ⟨G, 0, none⟩) 4 rc) rs) (h4 : rs.length = 4) (hk : k < len) (jr ja jb : Nat) (hr : (g k).r = jr) (ha : (g k).a = ja) (hbb : (g k).b = jb) (jr3 : jr < 4) (ja3 : ja < 4) (jb3 : jb < 4) (ho : (g k).o = 3) (hnum : ∀ j, j < 4 → numB (zi rs j) = true) (os : List Int) :
    Calls Tryz.prog 62 #[.slice (some ⟨b, off, none⟩) len cap, stV k (some ⟨G, 0, none⟩) 4 rc oa on oc code] w fun e w' => e = .returned (stV (doneS len (g k) k rs os code 0).p (some ⟨G, 0, none⟩) 4 rc oa on oc (doneS len (g k) k rs os code 0).c) ∧ OwnI w' B (.slice (some ⟨G, 0, none⟩) 4 rc) (doneS len (g k) k rs os code 0).rs ∧ w.grownBy w' (some G) := by
  have hk' : (k : Int) < (len : Int) := by omega
  obtain ⟨c0, c1, c2, c3, c4⟩ := hI k hk
  rw [ho] at c0
  rw [hr] at c1
  rw [ha] at c2
  rw [hbb] at c3
  have hGl : G < w.heap.size := (hO.lt G rfl).2
  have HO : Hid (OwnI w B (.slice (some ⟨G, 0, none⟩) 4 rc) rs) := hO
  have ca : w.cell? ⟨G, ja, none⟩ = some (.int .i64 (zi rs ja)) := by rw [← h4] at hO ja3; exact hO.cell ja3
  have cb : w.cell? ⟨G, jb, none⟩ = some (.int .i64 (zi rs jb)) := by rw [← h4] at hO jb3; exact hO.cell jb3
  have cr : w.cell? ⟨G, jr, none⟩ = some (.int .i64 (zi rs jr)) := by rw [← h4] at hO jr3; exact hO.cell jr3
  have fr : w.frozen? ⟨G, jr, none⟩ = false := by rw [← h4] at hO; exact hO.frozen jr
  have na := numB_iff.1 (hnum ja ja3)
  have nb := numB_iff.1 (hnum jb jb3)
  have mb := mul_bound (hnum ja ja3) (hnum jb jb3)
  obtain ⟨na1, na2⟩ := na
  obtain ⟨nb1, nb2⟩ := nb
  obtain ⟨mb1, mb2⟩ := mb
  have hG1 : G < w.heap.size + 1 := by omega
  have hG2 : G < w.heap.size + 1 + 1 := by omega
  have jr' : (jr : Int) < 4 := by omega
  have ja' : (ja : Int) < 4 := by omega
  have jb' : (jb : Int) < 4 := by omega
  have hn0 : -1000000000 ≤ (g k).n ∨ True := .inr trivial
  have HH : Hid (rs.length = 4 ∧ (g k).r = jr ∧ (g k).a = ja ∧ (g k).b = jb ∧ (g k).o = 3) := ⟨h4, hr, ha, hbb, ho⟩
  have hv : calcN (g k).o (zi rs (g k).a.toNat) (zi rs (g k).b.toNat) (g k).n = zi rs ja - zi rs jb := by
    have e1 : (g k).a.toNat = ja := by rw [HH.out.2.2.1]; exact Int.toNat_natCast ja
    have e2 : (g k).b.toNat = jb := by rw [HH.out.2.2.2.1]; exact Int.toNat_natCast jb
    rw [HH.out.2.2.2.2, e1, e2]; rfl
  have er : (g k).r.toNat = jr := by rw [HH.out.2.1]; exact Int.toNat_natCast jr
  rcases Bool.eq_false_or_eq_true (numB (zi rs ja - zi rs jb)) with tn | tn
  · have hd : doneS len (g k) k rs os code 0 = goS len k (rs.set jr (zi rs ja - zi rs jb)) os code := by
      unfold doneS
      rw [HH.out.2.2.2.2] at hv ⊢
      rw [if_neg (by decide), if_neg (by decide), if_neg (by decide), if_neg (by decide), if_neg (by decide), if_neg (by decide), hv, if_pos tn, er]
    rw [hd]
    have tn1 : inB (zi rs ja - zi rs jb) (-1000000000) 1000000000 = true := tn
    clear hd hv tn er hr ha hbb ho hnum hI hO h4
    go_enter Tryz.func62, Tryz.ntmps62
    go_wp2_with fail
    go_quiet (fail)
    go_wp2_with (go_at_call 59; refine (l1Num_any _ _).mono ?_; rintro e w' ⟨rfl, rfl⟩)
    have hbW : Below w.heap.size w (((w.alloc (.cells #[.int .i64 k, .slice (some ⟨G, 0, none⟩) 4 rc, .slice oa on oc, .int .i64 code] 32)).alloc (.cells #[.int .i64 0, .slice none 0 0, .slice none 0 0, .int .i64 0] 32)).alloc (.cells #[.int .i64 3, .int .i64 jr, .int .i64 ja, .int .i64 jb, .int .i64 (g k).n] 97)) := by go_grown
    have HW : Hid (OwnI (((((w.alloc (.cells #[.int .i64 k, .slice (some ⟨G, 0, none⟩) 4 rc, .slice oa on oc, .int .i64 code] 32)).alloc (.cells #[.int .i64 0, .slice none 0 0, .slice none 0 0, .int .i64 0] 32)).alloc (.cells #[.int .i64 3, .int .i64 jr, .int .i64 ja, .int .i64 jb, .int .i64 (g k).n] 97)).drewN nq).setCell ⟨G, jr, none⟩ (.int .i64 (zi rs ja - zi rs jb))) B (.slice (some ⟨G, 0, none⟩) 4 rc) (rs.set jr (zi rs ja - zi rs jb))) := (((HO.out.below hbW).drewN nq).set HH.out.1.symm jr _).1
    have GW : Hid (w.grownBy (((((w.alloc (.cells #[.int .i64 k, .slice (some ⟨G, 0, none⟩) 4 rc, .slice oa on oc, .int .i64 code] 32)).alloc (.cells #[.int .i64 0, .slice none 0 0, .slice none 0 0, .int .i64 0] 32)).alloc (.cells #[.int .i64 3, .int .i64 jr, .int .i64 ja, .int .i64 jb, .int .i64 (g k).n] 97)).drewN nq).setCell ⟨G, jr, none⟩ (.int .i64 (zi rs ja - zi rs jb))) (some G)) := grown_setCell (p := ⟨G, jr, none⟩) (grown_drewN (grown_any (grown_of_below hbW) _) nq) (.inl rfl) _
    clear hbW
    refine (l2Go_any _ _ _ _ _ _ _ _ _ _ _ _ (by omega) (by omega)).mono ?_
    rintro e w1 ⟨rfl, b1⟩
    obtain ⟨hc1, hf1⟩ := bcell b1
    have HW1 : Hid (OwnI w1 B (.slice (some ⟨G, 0, none⟩) 4 rc) (rs.set jr (zi rs ja - zi rs jb)) ∧ w.grownBy w1 (some G)) := ⟨HW.out.below b1, GW.out.trans (grown_any (grown_of_below b1) _)⟩
    clear b1 HW GW
    go_wp2
    refine bodyPost_ret (v := stV (goP len k) (some ⟨G, 0, none⟩) 4 rc oa on oc (goC len k code)) (by simp [results, Tryz.results62, go_sem, hc1]) rfl ⟨rfl, ?_, ?_⟩
    · repeat (refine OwnI.setOther ?_ (by simp [Value.ownBlock]; omega) _)
      exact HW1.out.1
    · repeat (refine grown_setCell ?_ (.inr (by simp)) _)
      exact HW1.out.2
  · have hd : doneS len (g k) k rs os code 0 = ⟨k, rs, os, 2⟩ := by
      unfold doneS
      rw [HH.out.2.2.2.2] at hv ⊢
      rw [if_neg (by decide), if_neg (by decide), if_neg (by decide), if_neg (by decide), if_neg (by decide), if_neg (by decide), hv, if_neg (by rw [tn]; decide)]
    rw [hd]
    have tn1 : inB (zi rs ja - zi rs jb) (-1000000000) 1000000000 = false := tn
    clear hd hv tn er hr ha hbb ho hnum hI hO h4
    go_enter Tryz.func62, Tryz.ntmps62
    go_wp2_with fail
    go_quiet (fail)
    go_wp2_with (go_at_call 59; refine (l1Num_any _ _).mono ?_; rintro e w' ⟨rfl, rfl⟩)
    have hbW : Below w.heap.size w ((((w.alloc (.cells #[.int .i64 k, .slice (some ⟨G, 0, none⟩) 4 rc, .slice oa on oc, .int .i64 code] 32)).alloc (.cells #[.int .i64 0, .slice none 0 0, .slice none 0 0, .int .i64 0] 32)).alloc (.cells #[.int .i64 3, .int .i64 jr, .int .i64 ja, .int .i64 jb, .int .i64 (g k).n] 97)).drewN nq) := below_drewN (by go_grown) nq
    refine (l2Fault_any _ _ _ _ _ _ _ _ _).mono ?_
    rintro e w1 ⟨rfl, b1⟩
    obtain ⟨hc1, hf1⟩ := bcell b1
    have b1' : Below w.heap.size w w1 := hbW.trans (b1.mono hbW.size)
    have HW1 : Hid (OwnI w1 B (.slice (some ⟨G, 0, none⟩) 4 rc) rs ∧ w.grownBy w1 (some G)) := ⟨HO.out.below b1', grown_any (grown_of_below b1') _⟩
    clear b1 b1' hbW
    go_wp2
    refine bodyPost_ret (v := stV k (some ⟨G, 0, none⟩) 4 rc oa on oc 2) (by simp [results, Tryz.results62, go_sem, hc1]) rfl ⟨rfl, ?_, ?_⟩
    · repeat (refine OwnI.setOther ?_ (by simp [Value.ownBlock]; omega) _)
      exact HW1.out.1
    · repeat (refine grown_setCell ?_ (.inr (by simp)) _)
      exact HW1.out.2

set_option maxRecDepth 100000 in
set_option maxHeartbeats 4000000 in
theorem l2Local_4 (b off len cap k : Nat) (g : Nat → I5) (G rc : Nat) (oa : Option Addr) (on oc : Nat) (code : Int) (rs : List Int) (B : Nat) (w : World) (hl : (len : Int) ≤ 30) (hb : b < w.heap.size) (hI : InsAt w b off len g) (hO : OwnI w B (.slice (some ⟨G, 0, none⟩) 4 rc) rs) (h4 : rs.length = 4) (hk : k < len) (jr ja jb : Nat) (hr : (g k).r = jr) (ha : (g k).a = ja) (hbb : (g k).b = jb) (jr3 : jr < 4) (ja3 : ja < 4) (jb3 : jb < 4) (ho : (g k).o = 4) (hnum : ∀ j, j < 4 → numB (zi rs j) = true) (os : List Int) :
    Calls Tryz.prog 62 #[.slice (some ⟨b, off, none⟩) len cap, stV k (some ⟨G, 0, none⟩) 4 rc oa on oc code] w fun e w' => e = .returned (stV (doneS len (g k) k rs os code 0).p (some ⟨G, 0, none⟩) 4 rc oa on oc (doneS len (g k) k rs os code 0).c) ∧ OwnI w' B (.slice (some ⟨G, 0, none⟩) 4 rc) (doneS len (g k) k rs os code 0).rs ∧ w.grownBy w' (some G) := by
  have hk' : (k : Int) < (len : Int) := by omega
  obtain ⟨c0, c1, c2, c3, c4⟩ := hI k hk
  rw [ho] at c0
  rw [hr] at c1
  rw [ha] at c2
  rw [hbb] at c3
  have hGl : G < w.heap.size := (hO.lt G rfl).2
  have HO : Hid (OwnI w B (.slice (some ⟨G, 0, none⟩) 4 rc) rs) := hO
  have ca : w.cell? ⟨G, ja, none⟩ = some (.int .i64 (zi rs ja)) := by rw [← h4] at hO ja3; exact hO.cell ja3
  have cb : w.cell? ⟨G, jb, none⟩ = some (.int .i64 (zi rs jb)) := by rw [← h4] at hO jb3; exact hO.cell jb3
  have cr : w.cell? ⟨G, jr, none⟩ = some (.int .i64 (zi rs jr)) := by rw [← h4] at hO jr3; exact hO.cell jr3
  have fr : w.frozen? ⟨G, jr, none⟩ = false := by rw [← h4] at hO; exact hO.frozen jr
  have na := numB_iff.1 (hnum ja ja3)
  have nb := numB_iff.1 (hnum jb jb3)
  have mb := mul_bound (hnum ja ja3) (hnum jb jb3)
  obtain ⟨na1, na2⟩ := na
  obtain ⟨nb1, nb2⟩ := nb
  obtain ⟨mb1, mb2⟩ := mb
  have hG1 : G < w.heap.size + 1 := by omega
  have hG2 : G < w.heap.size + 1 + 1 := by omega
  have jr' : (jr : Int) < 4 := by omega
  have ja' : (ja : Int) < 4 := by omega
  have jb' : (jb : Int) < 4 := by omega
  have hn0 : -1000000000 ≤ (g k).n ∨ True := .inr trivial
  have HH : Hid (rs.length = 4 ∧ (g k).r = jr ∧ (g k).a = ja ∧ (g k).b = jb ∧ (g k).o = 4) := ⟨h4, hr, ha, hbb, ho⟩
  have hv : calcN (g k).o (zi rs (g k).a.toNat) (zi rs (g k).b.toNat) (g k).n = zi rs ja * zi rs jb := by
    have e1 : (g k).a.toNat = ja := by rw [HH.out.2.2.1]; exact Int.toNat_natCast ja
    have e2 : (g k).b.toNat = jb := by rw [HH.out.2.2.2.1]; exact Int.toNat_natCast jb
    rw [HH.out.2.2.2.2, e1, e2]; rfl
  have er : (g k).r.toNat = jr := by rw [HH.out.2.1]; exact Int.toNat_natCast jr
  rcases Bool.eq_false_or_eq_true (numB (zi rs ja * zi rs jb)) with tn | tn
  · have hd : doneS len (g k) k rs os code 0 = goS len k (rs.set jr (zi rs ja * zi rs jb)) os code := by
      unfold doneS
      rw [HH.out.2.2.2.2] at hv ⊢
      rw [if_neg (by decide), if_neg (by decide), if_neg (by decide), if_neg (by decide), if_neg (by decide), if_neg (by decide), hv, if_pos tn, er]
    rw [hd]
    have tn1 : inB (zi rs ja * zi rs jb) (-1000000000) 1000000000 = true := tn
    clear hd hv tn er hr ha hbb ho hnum hI hO h4
    go_enter Tryz.func62, Tryz.ntmps62
    go_wp2_with fail
    go_quiet (fail)
    go_wp2_with (go_at_call 59; refine (l1Num_any _ _).mono ?_; rintro e w' ⟨rfl, rfl⟩)
    have hbW : Below w.heap.size w (((w.alloc (.cells #[.int .i64 k, .slice (some ⟨G, 0, none⟩) 4 rc, .slice oa on oc, .int .i64 code] 32)).alloc (.cells #[.int .i64 0, .slice none 0 0, .slice none 0 0, .int .i64 0] 32)).alloc (.cells #[.int .i64 4, .int .i64 jr, .int .i64 ja, .int .i64 jb, .int .i64 (g k).n] 97)) := by go_grown
    have HW : Hid (OwnI (((((w.alloc (.cells #[.int .i64 k, .slice (some ⟨G, 0, none⟩) 4 rc, .slice oa on oc, .int .i64 code] 32)).alloc (.cells #[.int .i64 0, .slice none 0 0, .slice none 0 0, .int .i64 0] 32)).alloc (.cells #[.int .i64 4, .int .i64 jr, .int .i64 ja, .int .i64 jb, .int .i64 (g k).n] 97)).drewN nq).setCell ⟨G, jr, none⟩ (.int .i64 (zi rs ja * zi rs jb))) B (.slice (some ⟨G, 0, none⟩) 4 rc) (rs.set jr (zi rs ja * zi rs jb))) := (((HO.out.below hbW).drewN nq).set HH.out.1.symm jr _).1
    have GW : Hid (w.grownBy (((((w.alloc (.cells #[.int .i64 k, .slice (some ⟨G, 0, none⟩) 4 rc, .slice oa on oc, .int .i64 code] 32)).alloc (.cells #[.int .i64 0, .slice none 0 0, .slice none 0 0, .int .i64 0] 32)).alloc (.cells #[.int .i64 4, .int .i64 jr, .int .i64 ja, .int .i64 jb, .int .i64 (g k).n] 97)).drewN nq).setCell ⟨G, jr, none⟩ (.int .i64 (zi rs ja * zi rs jb))) (some G)) := grown_setCell (p := ⟨G, jr, none⟩) (grown_drewN (grown_any (grown_of_below hbW) _) nq) (.inl rfl) _
    clear hbW
    refine (l2Go_any _ _ _ _ _ _ _ _ _ _ _ _ (by omega) (by omega)).mono ?_
    rintro e w1 ⟨rfl, b1⟩
    obtain ⟨hc1, hf1⟩ := bcell b1
    have HW1 : Hid (OwnI w1 B (.slice (some ⟨G, 0, none⟩) 4 rc) (rs.set jr (zi rs ja * zi rs jb)) ∧ w.grownBy w1 (some G)) := ⟨HW.out.below b1, GW.out.trans (grown_any (grown_of_below b1) _)⟩
    clear b1 HW GW
    go_wp2
    refine bodyPost_ret (v := stV (goP len k) (some ⟨G, 0, none⟩) 4 rc oa on oc (goC len k code)) (by simp [results, Tryz.results62, go_sem, hc1]) rfl ⟨rfl, ?_, ?_⟩
    · repeat (refine OwnI.setOther ?_ (by simp [Value.ownBlock]; omega) _)
      exact HW1.out.1
    · repeat (refine grown_setCell ?_ (.inr (by simp)) _)
      exact HW1.out.2
  · have hd : doneS len (g k) k rs os code 0 = ⟨k, rs, os, 2⟩ := by
      unfold doneS
      rw [HH.out.2.2.2.2] at hv ⊢
      rw [if_neg (by decide), if_neg (by decide), if_neg (by decide), if_neg (by decide), if_neg (by decide), if_neg (by decide), hv, if_neg (by rw [tn]; decide)]
    rw [hd]
    have tn1 : inB (zi rs ja * zi rs jb) (-1000000000) 1000000000 = false := tn
    clear hd hv tn er hr ha hbb ho hnum hI hO h4
    go_enter Tryz.func62, Tryz.ntmps62
    go_wp2_with fail
    go_quiet (fail)
    go_wp2_with (go_at_call 59; refine (l1Num_any _ _).mono ?_; rintro e w' ⟨rfl, rfl⟩)
    have hbW : Below w.heap.size w ((((w.alloc (.cells #[.int .i64 k, .slice (some ⟨G, 0, none⟩) 4 rc, .slice oa on oc, .int .i64 code] 32)).alloc (.cells #[.int .i64 0, .slice none 0 0, .slice none 0 0, .int .i64 0] 32)).alloc (.cells #[.int .i64 4, .int .i64 jr, .int .i64 ja, .int .i64 jb, .int .i64 (g k).n] 97)).drewN nq) := below_drewN (by go_grown) nq
    refine (l2Fault_any _ _ _ _ _ _ _ _ _).mono ?_
    rintro e w1 ⟨rfl, b1⟩
    obtain ⟨hc1, hf1⟩ := bcell b1
    have b1' : Below w.heap.size w w1 := hbW.trans (b1.mono hbW.size)
    have HW1 : Hid (OwnI w1 B (.slice (some ⟨G, 0, none⟩) 4 rc) rs ∧ w.grownBy w1 (some G)) := ⟨HO.out.below b1', grown_any (grown_of_below b1') _⟩
    clear b1 b1' hbW
    go_wp2
    refine bodyPost_ret (v := stV k (some ⟨G, 0, none⟩) 4 rc oa on oc 2) (by simp [results, Tryz.results62, go_sem, hc1]) rfl ⟨rfl, ?_, ?_⟩
    · repeat (refine OwnI.setOther ?_ (by simp [Value.ownBlock]; omega) _)
      exact HW1.out.1
    · repeat (refine grown_setCell ?_ (.inr (by simp)) _)
      exact HW1.out.2

set_option maxRecDepth 100000 in
set_option maxHeartbeats 4000000 in
theorem l2Local_5 (b off len cap k : Nat) (g : Nat → I5) (G rc : Nat) (oa : Option Addr) (on oc : Nat) (code : Int) (rs : List Int) (B : Nat) (w : World) (hl : (len : Int) ≤ 30) (hb : b < w.heap.size) (hI : InsAt w b off len g) (hO : OwnI w B (.slice (some ⟨G, 0, none⟩) 4 rc) rs) (h4 : rs.length = 4) (hk : k < len) (jr ja jb : Nat) (hr : (g k).r = jr) (ha : (g k).a = ja) (hbb : (g k).b = jb) (jr3 : jr < 4) (ja3 : ja < 4) (jb3 : jb < 4) (ho : (g k).o = 5) (hnum : ∀ j, j < 4 → numB (zi rs j) = true) (os : List Int) :
    Calls Tryz.prog 62 #[.slice (some ⟨b, off, none⟩) len cap, stV k (some ⟨G, 0, none⟩) 4 rc oa on oc code] w fun e w' => e = .returned (stV (doneS len (g k) k rs os code 0).p (some ⟨G, 0, none⟩) 4 rc oa on oc (doneS len (g k) k rs os code 0).c) ∧ OwnI w' B (.slice (some ⟨G, 0, none⟩) 4 rc) (doneS len (g k) k rs os code 0).rs ∧ w.grownBy w' (some G) := by
  have hk' : (k : Int) < (len : Int) := by omega
  obtain ⟨c0, c1, c2, c3, c4⟩ := hI k hk
  rw [ho] at c0
  rw [hr] at c1
  rw [ha] at c2
  rw [hbb] at c3
  have hGl : G < w.heap.size := (hO.lt G rfl).2
  have HO : Hid (OwnI w B (.slice (some ⟨G, 0, none⟩) 4 rc) rs) := hO
  have ca : w.cell? ⟨G, ja, none⟩ = some (.int .i64 (zi rs ja)) := by rw [← h4] at hO ja3; exact hO.cell ja3
  have cb : w.cell? ⟨G, jb, none⟩ = some (.int .i64 (zi rs jb)) := by rw [← h4] at hO jb3; exact hO.cell jb3
  have cr : w.cell? ⟨G, jr, none⟩ = some (.int .i64 (zi rs jr)) := by rw [← h4] at hO jr3; exact hO.cell jr3
  have fr : w.frozen? ⟨G, jr, none⟩ = false := by rw [← h4] at hO; exact hO.frozen jr
  have na := numB_iff.1 (hnum ja ja3)
  have nb := numB_iff.1 (hnum jb jb3)
  have mb := mul_bound (hnum ja ja3) (hnum jb jb3)
  obtain ⟨na1, na2⟩ := na
  obtain ⟨nb1, nb2⟩ := nb
  obtain ⟨mb1, mb2⟩ := mb
  have hG1 : G < w.heap.size + 1 := by omega
  have hG2 : G < w.heap.size + 1 + 1 := by omega
  have jr' : (jr : Int) < 4 := by omega
  have ja' : (ja : Int) < 4 := by omega
  have jb' : (jb : Int) < 4 := by omega
  have hn0 : -1000000000 ≤ (g k).n ∨ True := .inr trivial
  have HH : Hid (rs.length = 4 ∧ (g k).r = jr ∧ (g k).a = ja ∧ (g k).b = jb ∧ (g k).o = 5) := ⟨h4, hr, ha, hbb, ho⟩
  by_cases hab : zi rs ja < zi rs jb
  · have HC : Hid (zi rs ja < zi rs jb) := hab
    have hv : calcN (g k).o (zi rs (g k).a.toNat) (zi rs (g k).b.toNat) (g k).n = 1 := by
      have e1 : (g k).a.toNat = ja := by rw [HH.out.2.2.1]; exact Int.toNat_natCast ja
      have e2 : (g k).b.toNat = jb := by rw [HH.out.2.2.2.1]; exact Int.toNat_natCast jb
      rw [HH.out.2.2.2.2, e1, e2]; exact if_pos HC.out
    have er : (g k).r.toNat = jr := by rw [HH.out.2.1]; exact Int.toNat_natCast jr
    rcases Bool.eq_false_or_eq_true (numB (1)) with tn | tn
    · have hd : doneS len (g k) k rs os code 0 = goS len k (rs.set jr (1)) os code := by
        unfold doneS
        rw [HH.out.2.2.2.2] at hv ⊢
        rw [if_neg (by decide), if_neg (by decide), if_neg (by decide), if_neg (by decide), if_neg (by decide), if_neg (by decide), hv, if_pos tn, er]
      rw [hd]
      have tn1 : inB (1) (-1000000000) 1000000000 = true := tn
      clear hd hv tn er hr ha hbb ho hnum hI hO h4
      go_enter Tryz.func62, Tryz.ntmps62
      go_wp2_with fail
      go_quiet (fail)
      go_wp2_with (go_at_call 59; refine (l1Num_any _ _).mono ?_; rintro e w' ⟨rfl, rfl⟩)
      have hbW : Below w.heap.size w (((w.alloc (.cells #[.int .i64 k, .slice (some ⟨G, 0, none⟩) 4 rc, .slice oa on oc, .int .i64 code] 32)).alloc (.cells #[.int .i64 0, .slice none 0 0, .slice none 0 0, .int .i64 0] 32)).alloc (.cells #[.int .i64 5, .int .i64 jr, .int .i64 ja, .int .i64 jb, .int .i64 (g k).n] 97)) := by go_grown
      have HW : Hid (OwnI (((((w.alloc (.cells #[.int .i64 k, .slice (some ⟨G, 0, none⟩) 4 rc, .slice oa on oc, .int .i64 code] 32)).alloc (.cells #[.int .i64 0, .slice none 0 0, .slice none 0 0, .int .i64 0] 32)).alloc (.cells #[.int .i64 5, .int .i64 jr, .int .i64 ja, .int .i64 jb, .int .i64 (g k).n] 97)).drewN nq).setCell ⟨G, jr, none⟩ (.int .i64 (1))) B (.slice (some ⟨G, 0, none⟩) 4 rc) (rs.set jr (1))) := (((HO.out.below hbW).drewN nq).set HH.out.1.symm jr _).1
      have GW : Hid (w.grownBy (((((w.alloc (.cells #[.int .i64 k, .slice (some ⟨G, 0, none⟩) 4 rc, .slice oa on oc, .int .i64 code] 32)).alloc (.cells #[.int .i64 0, .slice none 0 0, .slice none 0 0, .int .i64 0] 32)).alloc (.cells #[.int .i64 5, .int .i64 jr, .int .i64 ja, .int .i64 jb, .int .i64 (g k).n] 97)).drewN nq).setCell ⟨G, jr, none⟩ (.int .i64 (1))) (some G)) := grown_setCell (p := ⟨G, jr, none⟩) (grown_drewN (grown_any (grown_of_below hbW) _) nq) (.inl rfl) _
      clear hbW
      refine (l2Go_any _ _ _ _ _ _ _ _ _ _ _ _ (by omega) (by omega)).mono ?_
      rintro e w1 ⟨rfl, b1⟩
      obtain ⟨hc1, hf1⟩ := bcell b1
      have HW1 : Hid (OwnI w1 B (.slice (some ⟨G, 0, none⟩) 4 rc) (rs.set jr (1)) ∧ w.grownBy w1 (some G)) := ⟨HW.out.below b1, GW.out.trans (grown_any (grown_of_below b1) _)⟩
      clear b1 HW GW
      go_wp2
      refine bodyPost_ret (v := stV (goP len k) (some ⟨G, 0, none⟩) 4 rc oa on oc (goC len k code)) (by simp [results, Tryz.results62, go_sem, hc1]) rfl ⟨rfl, ?_, ?_⟩
      · repeat (refine OwnI.setOther ?_ (by simp [Value.ownBlock]; omega) _)
        exact HW1.out.1
      · repeat (refine grown_setCell ?_ (.inr (by simp)) _)
        exact HW1.out.2
    · exact absurd tn (by decide)
  · have HC : Hid (¬ zi rs ja < zi rs jb) := hab
    have hv : calcN (g k).o (zi rs (g k).a.toNat) (zi rs (g k).b.toNat) (g k).n = 0 := by
      have e1 : (g k).a.toNat = ja := by rw [HH.out.2.2.1]; exact Int.toNat_natCast ja
      have e2 : (g k).b.toNat = jb := by rw [HH.out.2.2.2.1]; exact Int.toNat_natCast jb
      rw [HH.out.2.2.2.2, e1, e2]; exact if_neg HC.out
    have er : (g k).r.toNat = jr := by rw [HH.out.2.1]; exact Int.toNat_natCast jr
    rcases Bool.eq_false_or_eq_true (numB (0)) with tn | tn
    · have hd : doneS len (g k) k rs os code 0 = goS len k (rs.set jr (0)) os code := by
        unfold doneS
        rw [HH.out.2.2.2.2] at hv ⊢
        rw [if_neg (by decide), if_neg (by decide), if_neg (by decide), if_neg (by decide), if_neg (by decide), if_neg (by decide), hv, if_pos tn, er]
      rw [hd]
      have tn1 : inB (0) (-1000000000) 1000000000 = true := tn
      clear hd hv tn er hr ha hbb ho hnum hI hO h4
      go_enter Tryz.func62, Tryz.ntmps62
      go_wp2_with fail
      go_quiet (fail)
      go_wp2_with (go_at_call 59; refine (l1Num_any _ _).mono ?_; rintro e w' ⟨rfl, rfl⟩)
      have hbW : Below w.heap.size w (((w.alloc (.cells #[.int .i64 k, .slice (some ⟨G, 0, none⟩) 4 rc, .slice oa on oc, .int .i64 code] 32)).alloc (.cells #[.int .i64 0, .slice none 0 0, .slice none 0 0, .int .i64 0] 32)).alloc (.cells #[.int .i64 5, .int .i64 jr, .int .i64 ja, .int .i64 jb, .int .i64 (g k).n] 97)) := by go_grown
      have HW : Hid (OwnI (((((w.alloc (.cells #[.int .i64 k, .slice (some ⟨G, 0, none⟩) 4 rc, .slice oa on oc, .int .i64 code] 32)).alloc (.cells #[.int .i64 0, .slice none 0 0, .slice none 0 0, .int .i64 0] 32)).alloc (.cells #[.int .i64 5, .int .i64 jr, .int .i64 ja, .int .i64 jb, .int .i64 (g k).n] 97)).drewN nq).setCell ⟨G, jr, none⟩ (.int .i64 (0))) B (.slice (some ⟨G, 0, none⟩) 4 rc) (rs.set jr (0))) := (((HO.out.below hbW).drewN nq).set HH.out.1.symm jr _).1
      have GW : Hid (w.grownBy (((((w.alloc (.cells #[.int .i64 k, .slice (some ⟨G, 0, none⟩) 4 rc, .slice oa on oc, .int .i64 code] 32)).alloc (.cells #[.int .i64 0, .slice none 0 0, .slice none 0 0, .int .i64 0] 32)).alloc (.cells #[.int .i64 5, .int .i64 jr, .int .i64 ja, .int .i64 jb, .int .i64 (g k).n] 97)).drewN nq).setCell ⟨G, jr, none⟩ (.int .i64 (0))) (some G)) := grown_setCell (p := ⟨G, jr, none⟩) (grown_drewN (grown_any (grown_of_below hbW) _) nq) (.inl rfl) _
      clear hbW
      refine (l2Go_any _ _ _ _ _ _ _ _ _ _ _ _ (by omega) (by omega)).mono ?_
      rintro e w1 ⟨rfl, b1⟩
      obtain ⟨hc1, hf1⟩ := bcell b1
      have HW1 : Hid (OwnI w1 B (.slice (some ⟨G, 0, none⟩) 4 rc) (rs.set jr (0)) ∧ w.grownBy w1 (some G)) := ⟨HW.out.below b1, GW.out.trans (grown_any (grown_of_below b1) _)⟩
      clear b1 HW GW
      go_wp2
      refine bodyPost_ret (v := stV (goP len k) (some ⟨G, 0, none⟩) 4 rc oa on oc (goC len k code)) (by simp [results, Tryz.results62, go_sem, hc1]) rfl ⟨rfl, ?_, ?_⟩
      · repeat (refine OwnI.setOther ?_ (by simp [Value.ownBlock]; omega) _)
        exact HW1.out.1
      · repeat (refine grown_setCell ?_ (.inr (by simp)) _)
        exact HW1.out.2
    · exact absurd tn (by decide)

set_option maxRecDepth 100000 in
set_option maxHeartbeats 4000000 in
theorem l2Local_9 (b off len cap k : Nat) (g : Nat → I5) (G rc : Nat) (oa : Option Addr) (on oc : Nat) (code : Int) (rs : List Int) (B : Nat) (w : World) (_hl : (len : Int) ≤ 30) (hb : b < w.heap.size) (hI : InsAt w b off len g) (hO : OwnI w B (.slice (some ⟨G, 0, none⟩) 4 rc) rs) (h4 : rs.length = 4) (hk : k < len) (jr ja jb : Nat) (hr : (g k).r = jr) (ha : (g k).a = ja) (hbb : (g k).b = jb) (jr3 : jr < 4) (ja3 : ja < 4) (jb3 : jb < 4) (ho : (g k).o = 9) (hnum : ∀ j, j < 4 → numB (zi rs j) = true) (os : List Int) :
    Calls Tryz.prog 62 #[.slice (some ⟨b, off, none⟩) len cap, stV k (some ⟨G, 0, none⟩) 4 rc oa on oc code] w fun e w' => e = .returned (stV (doneS len (g k) k rs os code 0).p (some ⟨G, 0, none⟩) 4 rc oa on oc (doneS len (g k) k rs os code 0).c) ∧ OwnI w' B (.slice (some ⟨G, 0, none⟩) 4 rc) (doneS len (g k) k rs os code 0).rs ∧ w.grownBy w' (some G) := by
  have hk' : (k : Int) < (len : Int) := by omega
  obtain ⟨c0, c1, c2, c3, c4⟩ := hI k hk
  rw [ho] at c0
  rw [hr] at c1
  rw [ha] at c2
  rw [hbb] at c3
  have hGl : G < w.heap.size := (hO.lt G rfl).2
  have HO : Hid (OwnI w B (.slice (some ⟨G, 0, none⟩) 4 rc) rs) := hO
  have ca : w.cell? ⟨G, ja, none⟩ = some (.int .i64 (zi rs ja)) := by rw [← h4] at hO ja3; exact hO.cell ja3
  have cb : w.cell? ⟨G, jb, none⟩ = some (.int .i64 (zi rs jb)) := by rw [← h4] at hO jb3; exact hO.cell jb3
  have cr : w.cell? ⟨G, jr, none⟩ = some (.int .i64 (zi rs jr)) := by rw [← h4] at hO jr3; exact hO.cell jr3
  have fr : w.frozen? ⟨G, jr, none⟩ = false := by rw [← h4] at hO; exact hO.frozen jr
  have na := numB_iff.1 (hnum ja ja3)
  have nb := numB_iff.1 (hnum jb jb3)
  have mb := mul_bound (hnum ja ja3) (hnum jb jb3)
  obtain ⟨na1, na2⟩ := na
  obtain ⟨nb1, nb2⟩ := nb
  obtain ⟨mb1, mb2⟩ := mb
  have hG1 : G < w.heap.size + 1 := by omega
  have hG2 : G < w.heap.size + 1 + 1 := by omega
  have jr' : (jr : Int) < 4 := by omega
  have ja' : (ja : Int) < 4 := by omega
  have jb' : (jb : Int) < 4 := by omega
  have hn0 : -1000000000 ≤ (g k).n ∨ True := .inr trivial
  have HH : Hid (rs.length = 4 ∧ (g k).r = jr ∧ (g k).a = ja ∧ (g k).b = jb ∧ (g k).o = 9) := ⟨h4, hr, ha, hbb, ho⟩
  have ea : (g k).a.toNat = ja := by rw [HH.out.2.2.1]; exact Int.toNat_natCast ja
  have hd : doneS len (g k) k rs os code 0 = ⟨(g k).n, rs, os, code⟩ := by
    unfold doneS
    rw [HH.out.2.2.2.2]
    rw [if_neg (by decide), if_neg (by decide), if_neg (by decide), if_pos rfl]
  rw [hd]
  clear hd ea hr ha hbb ho hnum hI hO h4
  go_enter Tryz.func62, Tryz.ntmps62
  go_wp2_with fail
  go_quiet (fail)
  have s0 : ((((w.alloc (.cells #[.int .i64 k, .slice (some ⟨G, 0, none⟩) 4 rc, .slice oa on oc, .int .i64 code] 32)).alloc (.cells #[.int .i64 0, .slice none 0 0, .slice none 0 0, .int .i64 0] 32)).alloc (.cells #[.int .i64 9, .int .i64 jr, .int .i64 ja, .int .i64 jb, .int .i64 (g k).n] 97)).drewN nq).cell? ⟨w.heap.size, 0, none⟩ = some (.int .i64 k) := (old_cell (w := (w.alloc (.cells #[.int .i64 k, .slice (some ⟨G, 0, none⟩) 4 rc, .slice oa on oc, .int .i64 code] 32)).alloc (.cells #[.int .i64 0, .slice none 0 0, .slice none 0 0, .int .i64 0] 32)) _ _ (by simp; omega)).trans ((old_cell (w := w.alloc (.cells #[.int .i64 k, .slice (some ⟨G, 0, none⟩) 4 rc, .slice oa on oc, .int .i64 code] 32)) _ _ (by simp)).trans (by simp))
  have s1 : ((((w.alloc (.cells #[.int .i64 k, .slice (some ⟨G, 0, none⟩) 4 rc, .slice oa on oc, .int .i64 code] 32)).alloc (.cells #[.int .i64 0, .slice none 0 0, .slice none 0 0, .int .i64 0] 32)).alloc (.cells #[.int .i64 9, .int .i64 jr, .int .i64 ja, .int .i64 jb, .int .i64 (g k).n] 97)).drewN nq).cell? ⟨w.heap.size, 1, none⟩ = some (.slice (some ⟨G, 0, none⟩) 4 rc) := (old_cell (w := (w.alloc (.cells #[.int .i64 k, .slice (some ⟨G, 0, none⟩) 4 rc, .slice oa on oc, .int .i64 code] 32)).alloc (.cells #[.int .i64 0, .slice none 0 0, .slice none 0 0, .int .i64 0] 32)) _ _ (by simp; omega)).trans ((old_cell (w := w.alloc (.cells #[.int .i64 k, .slice (some ⟨G, 0, none⟩) 4 rc, .slice oa on oc, .int .i64 code] 32)) _ _ (by simp)).trans (by simp))
  have s2 : ((((w.alloc (.cells #[.int .i64 k, .slice (some ⟨G, 0, none⟩) 4 rc, .slice oa on oc, .int .i64 code] 32)).alloc (.cells #[.int .i64 0, .slice none 0 0, .slice none 0 0, .int .i64 0] 32)).alloc (.cells #[.int .i64 9, .int .i64 jr, .int .i64 ja, .int .i64 jb, .int .i64 (g k).n] 97)).drewN nq).cell? ⟨w.heap.size, 2, none⟩ = some (.slice oa on oc) := (old_cell (w := (w.alloc (.cells #[.int .i64 k, .slice (some ⟨G, 0, none⟩) 4 rc, .slice oa on oc, .int .i64 code] 32)).alloc (.cells #[.int .i64 0, .slice none 0 0, .slice none 0 0, .int .i64 0] 32)) _ _ (by simp; omega)).trans ((old_cell (w := w.alloc (.cells #[.int .i64 k, .slice (some ⟨G, 0, none⟩) 4 rc, .slice oa on oc, .int .i64 code] 32)) _ _ (by simp)).trans (by simp))
  have s3 : ((((w.alloc (.cells #[.int .i64 k, .slice (some ⟨G, 0, none⟩) 4 rc, .slice oa on oc, .int .i64 code] 32)).alloc (.cells #[.int .i64 0, .slice none 0 0, .slice none 0 0, .int .i64 0] 32)).alloc (.cells #[.int .i64 9, .int .i64 jr, .int .i64 ja, .int .i64 jb, .int .i64 (g k).n] 97)).drewN nq).cell? ⟨w.heap.size, 3, none⟩ = some (.int .i64 code) := (old_cell (w := (w.alloc (.cells #[.int .i64 k, .slice (some ⟨G, 0, none⟩) 4 rc, .slice oa on oc, .int .i64 code] 32)).alloc (.cells #[.int .i64 0, .slice none 0 0, .slice none 0 0, .int .i64 0] 32)) _ _ (by simp; omega)).trans ((old_cell (w := w.alloc (.cells #[.int .i64 k, .slice (some ⟨G, 0, none⟩) 4 rc, .slice oa on oc, .int .i64 code] 32)) _ _ (by simp)).trans (by simp))
  go_wp2
  have hbW : Below w.heap.size w ((((w.alloc (.cells #[.int .i64 k, .slice (some ⟨G, 0, none⟩) 4 rc, .slice oa on oc, .int .i64 code] 32)).alloc (.cells #[.int .i64 0, .slice none 0 0, .slice none 0 0, .int .i64 0] 32)).alloc (.cells #[.int .i64 9, .int .i64 jr, .int .i64 ja, .int .i64 jb, .int .i64 (g k).n] 97)).drewN nq) := below_drewN (by go_grown) nq
  have HW1 : Hid (OwnI ((((w.alloc (.cells #[.int .i64 k, .slice (some ⟨G, 0, none⟩) 4 rc, .slice oa on oc, .int .i64 code] 32)).alloc (.cells #[.int .i64 0, .slice none 0 0, .slice none 0 0, .int .i64 0] 32)).alloc (.cells #[.int .i64 9, .int .i64 jr, .int .i64 ja, .int .i64 jb, .int .i64 (g k).n] 97)).drewN nq) B (.slice (some ⟨G, 0, none⟩) 4 rc) rs ∧ w.grownBy ((((w.alloc (.cells #[.int .i64 k, .slice (some ⟨G, 0, none⟩) 4 rc, .slice oa on oc, .int .i64 code] 32)).alloc (.cells #[.int .i64 0, .slice none 0 0, .slice none 0 0, .int .i64 0] 32)).alloc (.cells #[.int .i64 9, .int .i64 jr, .int .i64 ja, .int .i64 jb, .int .i64 (g k).n] 97)).drewN nq) (some G)) := ⟨HO.out.below hbW, grown_any (grown_of_below hbW) _⟩
  refine bodyPost_ret (v := stV (g k).n (some ⟨G, 0, none⟩) 4 rc oa on oc code) (by simp [results, Tryz.results62, go_sem]) rfl ⟨rfl, ?_, ?_⟩
  · repeat (refine OwnI.setOther ?_ (by simp [Value.ownBlock]; omega) _)
    exact HW1.out.1
  · repeat (refine grown_setCell ?_ (.inr (by simp)) _)
    exact HW1.out.2

set_option maxRecDepth 100000 in
set_option maxHeartbeats 4000000 in
theorem l2Local_10 (b off len cap k : Nat) (g : Nat → I5) (G rc : Nat) (oa : Option Addr) (on oc : Nat) (code : Int) (rs : List Int) (B : Nat) (w : World) (hl : (len : Int) ≤ 30) (hb : b < w.heap.size) (hI : InsAt w b off len g) (hO : OwnI w B (.slice (some ⟨G, 0, none⟩) 4 rc) rs) (h4 : rs.length = 4) (hk : k < len) (jr ja jb : Nat) (hr : (g k).r = jr) (ha : (g k).a = ja) (hbb : (g k).b = jb) (jr3 : jr < 4) (ja3 : ja < 4) (jb3 : jb < 4) (ho : (g k).o = 10) (hnum : ∀ j, j < 4 → numB (zi rs j) = true) (os : List Int) :
    Calls Tryz.prog 62 #[.slice (some ⟨b, off, none⟩) len cap, stV k (some ⟨G, 0, none⟩) 4 rc oa on oc code] w fun e w' => e = .returned (stV (doneS len (g k) k rs os code 0).p (some ⟨G, 0, none⟩) 4 rc oa on oc (doneS len (g k) k rs os code 0).c) ∧ OwnI w' B (.slice (some ⟨G, 0, none⟩) 4 rc) (doneS len (g k) k rs os code 0).rs ∧ w.grownBy w' (some G) := by
  have hk' : (k : Int) < (len : Int) := by omega
  obtain ⟨c0, c1, c2, c3, c4⟩ := hI k hk
  rw [ho] at c0
  rw [hr] at c1
  rw [ha] at c2
  rw [hbb] at c3
  have hGl : G < w.heap.size := (hO.lt G rfl).2
  have HO : Hid (OwnI w B (.slice (some ⟨G, 0, none⟩) 4 rc) rs) := hO
  have ca : w.cell? ⟨G, ja, none⟩ = some (.int .i64 (zi rs ja)) := by rw [← h4] at hO ja3; exact hO.cell ja3
  have cb : w.cell? ⟨G, jb, none⟩ = some (.int .i64 (zi rs jb)) := by rw [← h4] at hO jb3; exact hO.cell jb3
  have cr : w.cell? ⟨G, jr, none⟩ = some (.int .i64 (zi rs jr)) := by rw [← h4] at hO jr3; exact hO.cell jr3
  have fr : w.frozen? ⟨G, jr, none⟩ = false := by rw [← h4] at hO; exact hO.frozen jr
  have na := numB_iff.1 (hnum ja ja3)
  have nb := numB_iff.1 (hnum jb jb3)
  have mb := mul_bound (hnum ja ja3) (hnum jb jb3)
  obtain ⟨na1, na2⟩ := na
  obtain ⟨nb1, nb2⟩ := nb
  obtain ⟨mb1, mb2⟩ := mb
  have hG1 : G < w.heap.size + 1 := by omega
  have hG2 : G < w.heap.size + 1 + 1 := by omega
  have jr' : (jr : Int) < 4 := by omega
  have ja' : (ja : Int) < 4 := by omega
  have jb' : (jb : Int) < 4 := by omega
  have hn0 : -1000000000 ≤ (g k).n ∨ True := .inr trivial
  have HH : Hid (rs.length = 4 ∧ (g k).r = jr ∧ (g k).a = ja ∧ (g k).b = jb ∧ (g k).o = 10) := ⟨h4, hr, ha, hbb, ho⟩
  have ea : (g k).a.toNat = ja := by rw [HH.out.2.2.1]; exact Int.toNat_natCast ja
  rcases Bool.eq_false_or_eq_true (zi rs ja == 0) with t0 | t0
  · have z0 : zi rs ja = 0 := by simpa using t0
    have hd : doneS len (g k) k rs os code 0 = ⟨(g k).n, rs, os, code⟩ := by
      unfold doneS
      rw [HH.out.2.2.2.2]
      rw [if_neg (by decide), if_neg (by decide), if_neg (by decide), if_neg (by decide), if_pos rfl, ea, if_pos z0]
    rw [hd]
    clear z0
    clear hd ea hr ha hbb ho hnum hI hO h4
    go_enter Tryz.func62, Tryz.ntmps62
    go_wp2_with fail
    go_quiet (fail)
    have s0 : ((((w.alloc (.cells #[.int .i64 k, .slice (some ⟨G, 0, none⟩) 4 rc, .slice oa on oc, .int .i64 code] 32)).alloc (.cells #[.int .i64 0, .slice none 0 0, .slice none 0 0, .int .i64 0] 32)).alloc (.cells #[.int .i64 10, .int .i64 jr, .int .i64 ja, .int .i64 jb, .int .i64 (g k).n] 97)).drewN nq).cell? ⟨w.heap.size, 0, none⟩ = some (.int .i64 k) := (old_cell (w := (w.alloc (.cells #[.int .i64 k, .slice (some ⟨G, 0, none⟩) 4 rc, .slice oa on oc, .int .i64 code] 32)).alloc (.cells #[.int .i64 0, .slice none 0 0, .slice none 0 0, .int .i64 0] 32)) _ _ (by simp; omega)).trans ((old_cell (w := w.alloc (.cells #[.int .i64 k, .slice (some ⟨G, 0, none⟩) 4 rc, .slice oa on oc, .int .i64 code] 32)) _ _ (by simp)).trans (by simp))
    have s1 : ((((w.alloc (.cells #[.int .i64 k, .slice (some ⟨G, 0, none⟩) 4 rc, .slice oa on oc, .int .i64 code] 32)).alloc (.cells #[.int .i64 0, .slice none 0 0, .slice none 0 0, .int .i64 0] 32)).alloc (.cells #[.int .i64 10, .int .i64 jr, .int .i64 ja, .int .i64 jb, .int .i64 (g k).n] 97)).drewN nq).cell? ⟨w.heap.size, 1, none⟩ = some (.slice (some ⟨G, 0, none⟩) 4 rc) := (old_cell (w := (w.alloc (.cells #[.int .i64 k, .slice (some ⟨G, 0, none⟩) 4 rc, .slice oa on oc, .int .i64 code] 32)).alloc (.cells #[.int .i64 0, .slice none 0 0, .slice none 0 0, .int .i64 0] 32)) _ _ (by simp; omega)).trans ((old_cell (w := w.alloc (.cells #[.int .i64 k, .slice (some ⟨G, 0, none⟩) 4 rc, .slice oa on oc, .int .i64 code] 32)) _ _ (by simp)).trans (by simp))
    have s2 : ((((w.alloc (.cells #[.int .i64 k, .slice (some ⟨G, 0, none⟩) 4 rc, .slice oa on oc, .int .i64 code] 32)).alloc (.cells #[.int .i64 0, .slice none 0 0, .slice none 0 0, .int .i64 0] 32)).alloc (.cells #[.int .i64 10, .int .i64 jr, .int .i64 ja, .int .i64 jb, .int .i64 (g k).n] 97)).drewN nq).cell? ⟨w.heap.size, 2, none⟩ = some (.slice oa on oc) := (old_cell (w := (w.alloc (.cells #[.int .i64 k, .slice (some ⟨G, 0, none⟩) 4 rc, .slice oa on oc, .int .i64 code] 32)).alloc (.cells #[.int .i64 0, .slice none 0 0, .slice none 0 0, .int .i64 0] 32)) _ _ (by simp; omega)).trans ((old_cell (w := w.alloc (.cells #[.int .i64 k, .slice (some ⟨G, 0, none⟩) 4 rc, .slice oa on oc, .int .i64 code] 32)) _ _ (by simp)).trans (by simp))
    have s3 : ((((w.alloc (.cells #[.int .i64 k, .slice (some ⟨G, 0, none⟩) 4 rc, .slice oa on oc, .int .i64 code] 32)).alloc (.cells #[.int .i64 0, .slice none 0 0, .slice none 0 0, .int .i64 0] 32)).alloc (.cells #[.int .i64 10, .int .i64 jr, .int .i64 ja, .int .i64 jb, .int .i64 (g k).n] 97)).drewN nq).cell? ⟨w.heap.size, 3, none⟩ = some (.int .i64 code) := (old_cell (w := (w.alloc (.cells #[.int .i64 k, .slice (some ⟨G, 0, none⟩) 4 rc, .slice oa on oc, .int .i64 code] 32)).alloc (.cells #[.int .i64 0, .slice none 0 0, .slice none 0 0, .int .i64 0] 32)) _ _ (by simp; omega)).trans ((old_cell (w := w.alloc (.cells #[.int .i64 k, .slice (some ⟨G, 0, none⟩) 4 rc, .slice oa on oc, .int .i64 code] 32)) _ _ (by simp)).trans (by simp))
    go_wp2
    have hbW : Below w.heap.size w ((((w.alloc (.cells #[.int .i64 k, .slice (some ⟨G, 0, none⟩) 4 rc, .slice oa on oc, .int .i64 code] 32)).alloc (.cells #[.int .i64 0, .slice none 0 0, .slice none 0 0, .int .i64 0] 32)).alloc (.cells #[.int .i64 10, .int .i64 jr, .int .i64 ja, .int .i64 jb, .int .i64 (g k).n] 97)).drewN nq) := below_drewN (by go_grown) nq
    have HW1 : Hid (OwnI ((((w.alloc (.cells #[.int .i64 k, .slice (some ⟨G, 0, none⟩) 4 rc, .slice oa on oc, .int .i64 code] 32)).alloc (.cells #[.int .i64 0, .slice none 0 0, .slice none 0 0, .int .i64 0] 32)).alloc (.cells #[.int .i64 10, .int .i64 jr, .int .i64 ja, .int .i64 jb, .int .i64 (g k).n] 97)).drewN nq) B (.slice (some ⟨G, 0, none⟩) 4 rc) rs ∧ w.grownBy ((((w.alloc (.cells #[.int .i64 k, .slice (some ⟨G, 0, none⟩) 4 rc, .slice oa on oc, .int .i64 code] 32)).alloc (.cells #[.int .i64 0, .slice none 0 0, .slice none 0 0, .int .i64 0] 32)).alloc (.cells #[.int .i64 10, .int .i64 jr, .int .i64 ja, .int .i64 jb, .int .i64 (g k).n] 97)).drewN nq) (some G)) := ⟨HO.out.below hbW, grown_any (grown_of_below hbW) _⟩
    refine bodyPost_ret (v := stV (g k).n (some ⟨G, 0, none⟩) 4 rc oa on oc code) (by simp [results, Tryz.results62, go_sem]) rfl ⟨rfl, ?_, ?_⟩
    · repeat (refine OwnI.setOther ?_ (by simp [Value.ownBlock]; omega) _)
      exact HW1.out.1
    · repeat (refine grown_setCell ?_ (.inr (by simp)) _)
      exact HW1.out.2
  · have z0 : ¬ zi rs ja = 0 := by simpa using t0
    have hd : doneS len (g k) k rs os code 0 = goS len k rs os code := by
      unfold doneS
      rw [HH.out.2.2.2.2]
      rw [if_neg (by decide), if_neg (by decide), if_neg (by decide), if_neg (by decide), if_pos rfl, ea, if_neg z0]
    rw [hd]
    clear z0
    clear hd ea hr ha hbb ho hnum hI hO h4
    go_enter Tryz.func62, Tryz.ntmps62
    go_wp2_with fail
    go_quiet (fail)
    go_wp2_with fail
    have hbW : Below w.heap.size w ((((w.alloc (.cells #[.int .i64 k, .slice (some ⟨G, 0, none⟩) 4 rc, .slice oa on oc, .int .i64 code] 32)).alloc (.cells #[.int .i64 0, .slice none 0 0, .slice none 0 0, .int .i64 0] 32)).alloc (.cells #[.int .i64 10, .int .i64 jr, .int .i64 ja, .int .i64 jb, .int .i64 (g k).n] 97)).drewN nq) := below_drewN (by go_grown) nq
    refine (l2Go_any _ _ _ _ _ _ _ _ _ _ _ _ (by omega) (by omega)).mono ?_
    rintro e w1 ⟨rfl, b1⟩
    obtain ⟨hc1, hf1⟩ := bcell b1
    have b1' : Below w.heap.size w w1 := hbW.trans (b1.mono hbW.size)
    have HW1 : Hid (OwnI w1 B (.slice (some ⟨G, 0, none⟩) 4 rc) rs ∧ w.grownBy w1 (some G)) := ⟨HO.out.below b1', grown_any (grown_of_below b1') _⟩
    clear b1 b1' hbW
    go_wp2
    refine bodyPost_ret (v := stV (goP len k) (some ⟨G, 0, none⟩) 4 rc oa on oc (goC len k code)) (by simp [results, Tryz.results62, go_sem, hc1]) rfl ⟨rfl, ?_, ?_⟩
    · repeat (refine OwnI.setOther ?_ (by simp [Value.ownBlock]; omega) _)
      exact HW1.out.1
    · repeat (refine grown_setCell ?_ (.inr (by simp)) _)
      exact HW1.out.2

set_option maxRecDepth 100000 in
set_option maxHeartbeats 4000000 in
theorem l2Local_11 (b off len cap k : Nat) (g : Nat → I5) (G rc : Nat) (oa : Option Addr) (on oc : Nat) (code : Int) (rs : List Int) (B : Nat) (w : World) (_hl : (len : Int) ≤ 30) (hb : b < w.heap.size) (hI : InsAt w b off len g) (hO : OwnI w B (.slice (some ⟨G, 0, none⟩) 4 rc) rs) (h4 : rs.length = 4) (hk : k < len) (jr ja jb : Nat) (hr : (g k).r = jr) (ha : (g k).a = ja) (hbb : (g k).b = jb) (jr3 : jr < 4) (ja3 : ja < 4) (jb3 : jb < 4) (ho : (g k).o = 11) (hnum : ∀ j, j < 4 → numB (zi rs j) = true) (os : List Int) :
    Calls Tryz.prog 62 #[.slice (some ⟨b, off, none⟩) len cap, stV k (some ⟨G, 0, none⟩) 4 rc oa on oc code] w fun e w' => e = .returned (stV (doneS len (g k) k rs os code 0).p (some ⟨G, 0, none⟩) 4 rc oa on oc (doneS len (g k) k rs os code 0).c) ∧ OwnI w' B (.slice (some ⟨G, 0, none⟩) 4 rc) (doneS len (g k) k rs os code 0).rs ∧ w.grownBy w' (some G) := by
  have hk' : (k : Int) < (len : Int) := by omega
  obtain ⟨c0, c1, c2, c3, c4⟩ := hI k hk
  rw [ho] at c0
  rw [hr] at c1
  rw [ha] at c2
  rw [hbb] at c3
  have hGl : G < w.heap.size := (hO.lt G rfl).2
  have HO : Hid (OwnI w B (.slice (some ⟨G, 0, none⟩) 4 rc) rs) := hO
  have ca : w.cell? ⟨G, ja, none⟩ = some (.int .i64 (zi rs ja)) := by rw [← h4] at hO ja3; exact hO.cell ja3
  have cb : w.cell? ⟨G, jb, none⟩ = some (.int .i64 (zi rs jb)) := by rw [← h4] at hO jb3; exact hO.cell jb3
  have cr : w.cell? ⟨G, jr, none⟩ = some (.int .i64 (zi rs jr)) := by rw [← h4] at hO jr3; exact hO.cell jr3
  have fr : w.frozen? ⟨G, jr, none⟩ = false := by rw [← h4] at hO; exact hO.frozen jr
  have na := numB_iff.1 (hnum ja ja3)
  have nb := numB_iff.1 (hnum jb jb3)
  have mb := mul_bound (hnum ja ja3) (hnum jb jb3)
  obtain ⟨na1, na2⟩ := na
  obtain ⟨nb1, nb2⟩ := nb
  obtain ⟨mb1, mb2⟩ := mb
  have hG1 : G < w.heap.size + 1 := by omega
  have hG2 : G < w.heap.size + 1 + 1 := by omega
  have jr' : (jr : Int) < 4 := by omega
  have ja' : (ja : Int) < 4 := by omega
  have jb' : (jb : Int) < 4 := by omega
  have hn0 : -1000000000 ≤ (g k).n ∨ True := .inr trivial
  have HH : Hid (rs.length = 4 ∧ (g k).r = jr ∧ (g k).a = ja ∧ (g k).b = jb ∧ (g k).o = 11) := ⟨h4, hr, ha, hbb, ho⟩
  have ea : (g k).a.toNat = ja := by rw [HH.out.2.2.1]; exact Int.toNat_natCast ja
  have hd : doneS len (g k) k rs os code 0 = ⟨k, rs, os, 1⟩ := by
    unfold doneS
    rw [HH.out.2.2.2.2]
    rw [if_neg (by decide), if_neg (by decide), if_neg (by decide), if_neg (by decide), if_neg (by decide), if_pos rfl]
  rw [hd]
  clear hd ea hr ha hbb ho hnum hI hO h4
  go_enter Tryz.func62, Tryz.ntmps62
  go_wp2_with fail
  go_quiet (fail)
  have s0 : ((((w.alloc (.cells #[.int .i64 k, .slice (some ⟨G, 0, none⟩) 4 rc, .slice oa on oc, .int .i64 code] 32)).alloc (.cells #[.int .i64 0, .slice none 0 0, .slice none 0 0, .int .i64 0] 32)).alloc (.cells #[.int .i64 11, .int .i64 jr, .int .i64 ja, .int .i64 jb, .int .i64 (g k).n] 97)).drewN nq).cell? ⟨w.heap.size, 0, none⟩ = some (.int .i64 k) := (old_cell (w := (w.alloc (.cells #[.int .i64 k, .slice (some ⟨G, 0, none⟩) 4 rc, .slice oa on oc, .int .i64 code] 32)).alloc (.cells #[.int .i64 0, .slice none 0 0, .slice none 0 0, .int .i64 0] 32)) _ _ (by simp; omega)).trans ((old_cell (w := w.alloc (.cells #[.int .i64 k, .slice (some ⟨G, 0, none⟩) 4 rc, .slice oa on oc, .int .i64 code] 32)) _ _ (by simp)).trans (by simp))
  have s1 : ((((w.alloc (.cells #[.int .i64 k, .slice (some ⟨G, 0, none⟩) 4 rc, .slice oa on oc, .int .i64 code] 32)).alloc (.cells #[.int .i64 0, .slice none 0 0, .slice none 0 0, .int .i64 0] 32)).alloc (.cells #[.int .i64 11, .int .i64 jr, .int .i64 ja, .int .i64 jb, .int .i64 (g k).n] 97)).drewN nq).cell? ⟨w.heap.size, 1, none⟩ = some (.slice (some ⟨G, 0, none⟩) 4 rc) := (old_cell (w := (w.alloc (.cells #[.int .i64 k, .slice (some ⟨G, 0, none⟩) 4 rc, .slice oa on oc, .int .i64 code] 32)).alloc (.cells #[.int .i64 0, .slice none 0 0, .slice none 0 0, .int .i64 0] 32)) _ _ (by simp; omega)).trans ((old_cell (w := w.alloc (.cells #[.int .i64 k, .slice (some ⟨G, 0, none⟩) 4 rc, .slice oa on oc, .int .i64 code] 32)) _ _ (by simp)).trans (by simp))
  have s2 : ((((w.alloc (.cells #[.int .i64 k, .slice (some ⟨G, 0, none⟩) 4 rc, .slice oa on oc, .int .i64 code] 32)).alloc (.cells #[.int .i64 0, .slice none 0 0, .slice none 0 0, .int .i64 0] 32)).alloc (.cells #[.int .i64 11, .int .i64 jr, .int .i64 ja, .int .i64 jb, .int .i64 (g k).n] 97)).drewN nq).cell? ⟨w.heap.size, 2, none⟩ = some (.slice oa on oc) := (old_cell (w := (w.alloc (.cells #[.int .i64 k, .slice (some ⟨G, 0, none⟩) 4 rc, .slice oa on oc, .int .i64 code] 32)).alloc (.cells #[.int .i64 0, .slice none 0 0, .slice none 0 0, .int .i64 0] 32)) _ _ (by simp; omega)).trans ((old_cell (w := w.alloc (.cells #[.int .i64 k, .slice (some ⟨G, 0, none⟩) 4 rc, .slice oa on oc, .int .i64 code] 32)) _ _ (by simp)).trans (by simp))
  have s3 : ((((w.alloc (.cells #[.int .i64 k, .slice (some ⟨G, 0, none⟩) 4 rc, .slice oa on oc, .int .i64 code] 32)).alloc (.cells #[.int .i64 0, .slice none 0 0, .slice none 0 0, .int .i64 0] 32)).alloc (.cells #[.int .i64 11, .int .i64 jr, .int .i64 ja, .int .i64 jb, .int .i64 (g k).n] 97)).drewN nq).cell? ⟨w.heap.size, 3, none⟩ = some (.int .i64 code) := (old_cell (w := (w.alloc (.cells #[.int .i64 k, .slice (some ⟨G, 0, none⟩) 4 rc, .slice oa on oc, .int .i64 code] 32)).alloc (.cells #[.int .i64 0, .slice none 0 0, .slice none 0 0, .int .i64 0] 32)) _ _ (by simp; omega)).trans ((old_cell (w := w.alloc (.cells #[.int .i64 k, .slice (some ⟨G, 0, none⟩) 4 rc, .slice oa on oc, .int .i64 code] 32)) _ _ (by simp)).trans (by simp))
  go_wp2
  have hbW : Below w.heap.size w ((((w.alloc (.cells #[.int .i64 k, .slice (some ⟨G, 0, none⟩) 4 rc, .slice oa on oc, .int .i64 code] 32)).alloc (.cells #[.int .i64 0, .slice none 0 0, .slice none 0 0, .int .i64 0] 32)).alloc (.cells #[.int .i64 11, .int .i64 jr, .int .i64 ja, .int .i64 jb, .int .i64 (g k).n] 97)).drewN nq) := below_drewN (by go_grown) nq
  have HW1 : Hid (OwnI ((((w.alloc (.cells #[.int .i64 k, .slice (some ⟨G, 0, none⟩) 4 rc, .slice oa on oc, .int .i64 code] 32)).alloc (.cells #[.int .i64 0, .slice none 0 0, .slice none 0 0, .int .i64 0] 32)).alloc (.cells #[.int .i64 11, .int .i64 jr, .int .i64 ja, .int .i64 jb, .int .i64 (g k).n] 97)).drewN nq) B (.slice (some ⟨G, 0, none⟩) 4 rc) rs ∧ w.grownBy ((((w.alloc (.cells #[.int .i64 k, .slice (some ⟨G, 0, none⟩) 4 rc, .slice oa on oc, .int .i64 code] 32)).alloc (.cells #[.int .i64 0, .slice none 0 0, .slice none 0 0, .int .i64 0] 32)).alloc (.cells #[.int .i64 11, .int .i64 jr, .int .i64 ja, .int .i64 jb, .int .i64 (g k).n] 97)).drewN nq) (some G)) := ⟨HO.out.below hbW, grown_any (grown_of_below hbW) _⟩
  refine bodyPost_ret (v := stV k (some ⟨G, 0, none⟩) 4 rc oa on oc 1) (by simp [results, Tryz.results62, go_sem]) rfl ⟨rfl, ?_, ?_⟩
  · repeat (refine OwnI.setOther ?_ (by simp [Value.ownBlock]; omega) _)
    exact HW1.out.1
  · repeat (refine grown_setCell ?_ (.inr (by simp)) _)
    exact HW1.out.2

end Go.Proofs.YtcmmlklanjhfoaaGreatDoor
