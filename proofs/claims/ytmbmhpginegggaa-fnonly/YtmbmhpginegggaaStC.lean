/- The walks of the laws' marks over lists of ints and states, and of the helpers over events. -/
import Derived.Test.YtmbmhpginegggaaStB
namespace Go.Proofs.Ytmbmhpginegggaa
open Go.RowKit

theorem ret_int {k : IntKind} {a b : Int} (h : a = b) : Ending.returned (.int k a) = .returned (.int k b) := by rw [h]

def marks (k : Int) (n : Nat) : List Int := (List.range n).map (fun i : Nat => k + (i : Int))
theorem marks_length (k : Int) (n : Nat) : (marks k n).length = n := by simp [marks]
theorem marks_at (k : Int) (n j : Nat) (h : j < n) : zi (marks k n) j = k + j := by
  unfold zi marks
  rw [List.getD_eq_getElem?_getD, List.getElem?_map, List.getElem?_range h]; rfl

theorem own_some {w : World} {B n cap : Nat} {a0 : Option Addr} {ys : List Int} (h : OwnI w B (.slice a0 n cap) ys) (hn : 0 < ys.length) : ∃ g, a0 = some ⟨g, 0, none⟩ ∧ n = ys.length ∧ B ≤ g ∧ g < w.heap.size := by
  obtain ⟨g, c, hv, hb, hl⟩ := h.block hn
  simp only [Value.slice.injEq] at hv
  exact ⟨g, hv.1, hv.2.1, hb, hl⟩

set_option maxRecDepth 100000 in
set_option maxHeartbeats 1000000 in
theorem markIntS_any (a0 : Option Addr) (cap B : Nat) (xs : List Int) (k : Int) (w : World) (hlen : xs.length ≤ 1048576) (k0 : 0 ≤ k) (k1 : k ≤ 100000000) (h : OwnI w B (.slice a0 xs.length cap) xs) :
    Calls Try.prog 60 #[.slice a0 xs.length cap, .int .i64 k] w fun e w' => e = .returned (.int .i64 (k + xs.length)) ∧ OwnI w' B (.slice a0 xs.length cap) (marks k xs.length) ∧ w.grownBy w' (Value.slice a0 xs.length cap).ownBlock := by
  have hl' : (xs.length : Int) ≤ 1048576 := by omega
  have HO : Hid (OwnI w B (.slice a0 xs.length cap) xs) := h
  clear h
  go_enter Try.func60, Try.ntmps60
  go_wp2_with fail
  go_loopw [1, 5] (fun q i wr => ∃ j : Nat, j ≤ xs.length ∧ i = .int .i64 j ∧ q = .int .i64 (k + j) ∧ Hid ((∃ ys, ys.length = xs.length ∧ OwnI wr B (.slice a0 xs.length cap) ys ∧ ∀ t, t < j → zi ys t = k + t) ∧ w.grownBy wr (Value.slice a0 xs.length cap).ownBlock)) (fun _ i _ => xs.length - (intOf i).toNat)
  case atStart => exact ⟨0, Nat.zero_le _, rfl, by simp, ⟨xs, rfl, HO.out, fun t ht => by omega⟩, World.grownBy.refl _ _⟩
  case round =>
    clear HO
    obtain ⟨j, hj, rfl, rfl, HR⟩ := hrel
    by_cases hlt : j < xs.length
    · have hlt' : (j : Int) < (xs.length : Int) := by omega
      have hg : ∃ g, a0 = some ⟨g, 0, none⟩ ∧ g < wr.heap.size := by
        obtain ⟨⟨ys, he, ho, _⟩, _⟩ := HR.out
        obtain ⟨g, hg, _, _, hl⟩ := own_some ho (by omega)
        exact ⟨g, hg, hl⟩
      obtain ⟨g, rfl, hgl⟩ := hg
      have fz : wr.frozen? ⟨g, j, none⟩ = false := by obtain ⟨⟨ys, he, ho, _⟩, _⟩ := HR.out; rw [← he] at ho; exact ho.frozen j
      have cz : ∃ z : Int, wr.cell? ⟨g, j, none⟩ = some (.int .i64 z) := by obtain ⟨⟨ys, he, ho, _⟩, _⟩ := HR.out; rw [← he] at ho hlt; exact ⟨_, ho.cell hlt⟩
      obtain ⟨z, cz⟩ := cz
      go_wp2
      go_roundw
      case rel =>
        refine ⟨j + 1, by omega, by go_num, by go_num, ?_⟩
        obtain ⟨⟨ys, he, ho, hy⟩, hgr⟩ := HR.out
        obtain ⟨ho', hg'⟩ := ho.set he.symm j (k + j)
        refine ⟨⟨ys.set j (k + j), by simpa using he, ho', fun t ht => ?_⟩, hgr.trans hg'⟩
        by_cases htj : t = j
        · subst htj; exact getD_set_self ys t _ (by omega)
        · rw [getD_set_ne ys t j _ htj]; exact hy t (by omega)
      case measure => simp [intOf]; omega
    · have hlt' : ¬ (j : Int) < (xs.length : Int) := by omega
      have HF : Hid (OwnI wr B (.slice a0 xs.length cap) (marks k xs.length) ∧ w.grownBy wr (Value.slice a0 xs.length cap).ownBlock) := by
        obtain ⟨⟨ys, he, ho, hy⟩, hgr⟩ := HR.out
        have : ys = marks k xs.length := ext_getD (by rw [he, marks_length]) fun i hi => by rw [hy i (by omega), marks_at _ _ _ (by omega)]
        rw [this] at ho
        exact ⟨ho, hgr⟩
      have hjl : (j : Int) = xs.length := by omega
      have HJ : Hid ((j : Int) = xs.length) := hjl
      clear HR hjl
      go_wp2
      go_ret
      exact ⟨ret_int (by rw [HJ.out]), HF.out⟩

set_option maxRecDepth 100000 in
set_option maxHeartbeats 1000000 in
theorem heldIntS_marks (a0 : Option Addr) (cap n : Nat) (k : Int) (w : World) (hlen : n ≤ 1048576) (k0 : 0 ≤ k) (k1 : k ≤ 100000000) (h : Sl w a0 (marks k n)) :
    Calls Try.prog 61 #[.slice a0 n cap, .int .i64 k] w fun e w' => e = .returned (.int .i64 (k + n)) ∧ w' = w := by
  have hl' : (n : Int) ≤ 1048576 := by omega
  have HS : Hid (Sl w a0 (marks k n)) := h
  clear h
  go_enter Try.func61, Try.ntmps61
  go_wp2_with fail
  go_loop [1, 5] (fun q i => ∃ j : Nat, j ≤ n ∧ i = .int .i64 j ∧ q = .int .i64 (k + j)) (fun _ i => n - (intOf i).toNat)
  case atStart => exact ⟨0, Nat.zero_le _, rfl, by simp⟩
  case round =>
    obtain ⟨j, hj, rfl, rfl⟩ := hrel
    by_cases hlt : j < n
    · have hlt' : (j : Int) < (n : Int) := by omega
      obtain ⟨b, off, rfl, hbl, ck⟩ := HS.out.at (k := j) (by rw [marks_length]; exact hlt)
      rw [marks_at _ _ _ hlt] at ck
      go_wp2
      go_round
      case rel => exact ⟨j + 1, by omega, by go_num, by go_num⟩
      case measure => simp [intOf]; omega
    · have hlt' : ¬ (j : Int) < (n : Int) := by omega
      have HJ : Hid ((j : Int) = n) := by show (j : Int) = n; omega
      go_wp2
      go_ret
      exact ⟨ret_int (by rw [HJ.out]), rfl⟩

/-- A state whose lists are marked from k on. -/
theorem own_apart {w w' : World} {B : Nat} {v u : Value} {xs : List Int} (h : OwnI w B v xs) (hg : w.grownBy w' u.ownBlock) (ha : ∀ k, u.ownBlock = some k → v.ownBlock ≠ some k) : OwnI w' B v xs := by
  refine h.kept hg ?_
  cases hu : u.ownBlock with
  | none => 
    cases hv : v.ownBlock with
    | none => exact .inl rfl
    | some k => exact .inr (by simp)
  | some k => exact .inr (ha k hu)

theorem gcell {W w1 : World} {row : Option Nat} (hg : W.grownBy w1 row) {b : Nat} (hb : b < W.heap.size) (hne : some b ≠ row) : (∀ o, w1.cell? ⟨b, o, none⟩ = W.cell? ⟨b, o, none⟩) ∧ (∀ o, w1.frozen? ⟨b, o, none⟩ = W.frozen? ⟨b, o, none⟩) :=
  ⟨fun _ => World.cell?_of_block (hg.block b hb hne), fun _ => World.frozen?_of_block (hg.block b hb hne)⟩
/-- Block k is that of one of the lists of the state v. -/
def hasBlock (v : Value) (k : Nat) : Prop := ∃ p vr vo code, v = .agg #[p, vr, vo, code] ∧ (vr.ownBlock = some k ∨ vo.ownBlock = some k)
theorem hasBlock_iff (p vr vo code : Value) (k : Nat) : hasBlock (.agg #[p, vr, vo, code]) k ↔ vr.ownBlock = some k ∨ vo.ownBlock = some k := by
  constructor
  · rintro ⟨p', vr', vo', code', e, h⟩
    simp only [Value.agg.injEq, Array.mk.injEq, List.cons.injEq, and_true] at e
    obtain ⟨_, rfl, rfl, _⟩ := e
    exact h
  · exact fun h => ⟨p, vr, vo, code, rfl, h⟩
theorem StOwn.lt {w : World} {B : Nat} {v : Value} {p code : Int} {rs os : List Int} (h : StOwn w B v p rs os code) {k : Nat} (hk : hasBlock v k) : B ≤ k ∧ k < w.heap.size := by
  obtain ⟨vr, vo, rfl, h1, h2, _⟩ := h
  rcases (hasBlock_iff _ _ _ _ _).1 hk with h | h
  · exact h1.lt k h
  · exact h2.lt k h

/-- Nothing has turned but what lies in the lists of the state v. -/
structure Marked (v : Value) (w w' : World) : Prop where
  os : w'.os = w.os
  tape : w'.tape = w.tape
  output : w'.output = w.output
  size : w.heap.size ≤ w'.heap.size
  block : ∀ k, k < w.heap.size → ¬ hasBlock v k → w'.heap[k]? = w.heap[k]?

theorem Marked.below {v : Value} {w w' : World} {B : Nat} (h : Marked v w w') (hB : B ≤ w.heap.size) (hv : ∀ k, hasBlock v k → B ≤ k) : Below B w w' :=
  ⟨h.os, h.tape, h.output, h.size, fun k hk => h.block k (by omega) (fun hh => by have := hv k hh; omega)⟩
theorem Marked.own {v : Value} {w w' : World} {B : Nat} {u : Value} {xs : List Int} (h : Marked v w w') (hu : OwnI w B u xs) (ha : ∀ k, u.ownBlock = some k → ¬ hasBlock v k) : OwnI w' B u xs := by
  rcases hu.2 with ⟨rfl, h0⟩ | ⟨g, cap, cur, rfl, hb, hg, hr⟩
  · exact ⟨hu.1, .inl ⟨rfl, h0⟩⟩
  · refine ⟨hu.1, .inr ⟨g, cap, cur, rfl, hb, ?_, hr⟩⟩
    rw [h.block g (hu.lt g rfl).2 (ha g rfl)]
    exact hg
theorem Marked.st {v : Value} {w w' : World} {B : Nat} {u : Value} {p code : Int} {rs os : List Int} (h : Marked v w w') (hu : StOwn w B u p rs os code) (ha : ∀ k, hasBlock u k → ¬ hasBlock v k) : StOwn w' B u p rs os code := by
  obtain ⟨vr, vo, rfl, h1, h2, h3⟩ := hu
  exact ⟨vr, vo, rfl, h.own h1 fun k hk => ha k ((hasBlock_iff _ _ _ _ _).2 (.inl hk)), h.own h2 fun k hk => ha k ((hasBlock_iff _ _ _ _ _).2 (.inr hk)), h3⟩
theorem Marked.cell {v : Value} {w w' : World} (h : Marked v w w') {b : Nat} (hb : b < w.heap.size) (hv : ¬ hasBlock v b) (j : Nat) : w'.cell? ⟨b, j, none⟩ = w.cell? ⟨b, j, none⟩ := World.cell?_of_block (h.block b hb hv)
theorem Marked.frozen {v : Value} {w w' : World} (h : Marked v w w') {b : Nat} (hb : b < w.heap.size) (hv : ¬ hasBlock v b) (j : Nat) : w'.frozen? ⟨b, j, none⟩ = w.frozen? ⟨b, j, none⟩ := World.frozen?_of_block (h.block b hb hv)

set_option maxRecDepth 100000 in
set_option maxHeartbeats 1000000 in
theorem markState_any (v : Value) (B : Nat) (p code : Int) (rs os : List Int) (k : Int) (w : World) (hr : rs.length ≤ 1048576) (ho : os.length ≤ 1048576) (k0 : 0 ≤ k) (k1 : k ≤ 50000000) (h : StOwn w B v p rs os code) :
    Calls Try.prog 32 #[v, .int .i64 k] w fun e w' => e = .returned (.int .i64 (k + rs.length + os.length)) ∧ StOwn w' B v p (marks k rs.length) (marks (k + rs.length) os.length) code ∧ Marked v w w' := by
  obtain ⟨vr, vo, rfl, o1, o2, ha⟩ := h
  obtain ⟨ra, rc, rfl, s1⟩ := o1.form
  obtain ⟨oa, oc, rfl, s2⟩ := o2.form
  have O1 : Hid (OwnI w B (.slice ra rs.length rc) rs) := o1
  have O2 : Hid (OwnI w B (.slice oa os.length oc) os) := o2
  have HA : Hid (∀ k, (Value.slice ra rs.length rc).ownBlock = some k → (Value.slice oa os.length oc).ownBlock ≠ some k) := ha
  clear o1 o2 ha s1 s2
  go_enter Try.func32, Try.ntmps32
  go_wp2_with fail
  refine (markIntS_any ra rc B rs k _ hr k0 (by omega) (by exact O1.out.below (by go_grown))).mono ?_
  rintro e w1 ⟨rfl, o1, g1⟩
  have hne : some w.heap.size ≠ (Value.slice ra rs.length rc).ownBlock := fun e => by have := (O1.out.lt _ e.symm).2; omega
  obtain ⟨hc1, hf1⟩ := gcell g1 (b := w.heap.size) (by simp) hne
  have O2' : Hid (OwnI w1 B (.slice oa os.length oc) os) := own_apart (by exact O2.out.below (by go_grown)) g1 HA.out
  have O1' : Hid (OwnI w1 B (.slice ra rs.length rc) (marks k rs.length)) := o1
  have G1 : Hid (w.grownBy w1 (Value.slice ra rs.length rc).ownBlock) := World.grownBy_alloc w _ _ |>.trans g1
  have y1 : w.heap.size < w1.heap.size := by have := g1.size; simp at this; omega
  clear o1 g1 O1 O2
  go_wp2_with fail
  refine (markIntS_any oa oc B os _ _ ho (by omega) (by omega) O2'.out).mono ?_
  rintro e w2 ⟨rfl, o2, g2⟩
  have HA' : ∀ k, (Value.slice oa os.length oc).ownBlock = some k → (Value.slice ra rs.length rc).ownBlock ≠ some k := fun k h1 h2 => HA.out k h2 h1
  have O1'' : Hid (OwnI w2 B (.slice ra rs.length rc) (marks k rs.length)) := own_apart O1'.out g2 HA'
  have O2'' : Hid (OwnI w2 B (.slice oa os.length oc) (marks (k + rs.length) os.length)) := o2
  have G2 : Hid (Marked (stV p ra rs.length rc oa os.length oc code) w w2) := ⟨g2.os.trans G1.out.os, g2.tape.trans G1.out.tape, g2.output.trans G1.out.output, Nat.le_trans G1.out.size g2.size, fun k hk hn => by
    rw [hasBlock_iff] at hn
    have h1 : some k ≠ (Value.slice ra rs.length rc).ownBlock := fun e => hn (.inl e.symm)
    have h2 : some k ≠ (Value.slice oa os.length oc).ownBlock := fun e => hn (.inr e.symm)
    exact (g2.block k (by have := G1.out.size; omega) h2).trans (G1.out.block k hk h1)⟩
  clear o2 g2 O1' O2' G1 HA'
  go_wp2
  go_ret
  exact ⟨rfl, ⟨_, _, rfl, O1''.out, O2''.out, HA.out⟩, G2.out⟩

set_option maxRecDepth 100000 in
set_option maxHeartbeats 1000000 in
theorem heldState_marks (p code : Int) (ra oa : Option Addr) (rn rc on oc : Nat) (k : Int) (w : World) (hr : rn ≤ 1048576) (ho : on ≤ 1048576) (k0 : 0 ≤ k) (k1 : k ≤ 50000000) (h1 : Sl w ra (marks k rn)) (h2 : Sl w oa (marks (k + rn) on)) :
    Calls Try.prog 33 #[stV p ra rn rc oa on oc code, .int .i64 k] w fun e w' => e = .returned (.int .i64 (k + rn + on)) ∧ Below w.heap.size w w' := by
  have H1 : Hid (Sl w ra (marks k rn)) := h1
  have H2 : Hid (Sl w oa (marks (k + rn) on)) := h2
  have n1 : ¬ k + (rn : Int) < 0 := by omega
  have n2 : ¬ k + (rn : Int) + on < 0 := by omega
  clear h1 h2
  go_enter Try.func33, Try.ntmps33
  go_wp2_with fail
  refine (heldIntS_marks ra rc rn k _ hr k0 (by omega) (H1.out.below (by go_grown))).mono ?_
  rintro e w1 ⟨rfl, rfl⟩
  go_wp2_with fail
  refine (heldIntS_marks oa oc on _ _ ho (by omega) (by omega) (H2.out.below (by go_grown))).mono ?_
  rintro e w1 ⟨rfl, rfl⟩
  go_wp2
  go_ret
  exact ⟨rfl, by go_grown⟩

set_option maxHeartbeats 400000 in
theorem toEvent_any (k p v : Int) (w : World) :
    Calls Try.prog 30 #[evV k p v] w fun e w' => e = .returned (evV k p v) ∧ Below w.heap.size w w' := by
  go_enter Try.func30, Try.ntmps30
  go_wp2
  refine bodyPost_ret (v := evV k p v) (by simp [results, Try.results30, go_sem]) rfl ⟨rfl, ?_⟩
  go_grown

set_option maxHeartbeats 400000 in
theorem eqEvent_same (k p v : Int) (w : World) :
    Calls Try.prog 27 #[evV k p v, evV k p v] w fun e w' => e = .returned (.bool true) ∧ Below w.heap.size w w' := by
  go_enter Try.func27, Try.ntmps27
  go_wp2
  go_ret
  exact ⟨rfl, by go_grown⟩

/-- The four cells of a state in a block. -/
def BoxC (w : World) (N : Nat) (p vr vo code : Value) : Prop := w.cell? ⟨N, 0, none⟩ = some p ∧ w.cell? ⟨N, 1, none⟩ = some vr ∧ w.cell? ⟨N, 2, none⟩ = some vo ∧ w.cell? ⟨N, 3, none⟩ = some code
theorem BoxC.below {w w' : World} {N : Nat} {p vr vo code : Value} (h : BoxC w N p vr vo code) (hb : Below w.heap.size w w') : BoxC w' N p vr vo code := by
  obtain ⟨h0, h1, h2, h3⟩ := h
  have hN : N < w.heap.size := World.block_lt_of_cell? w _ h0
  exact ⟨(hb.cell (p := ⟨N, 0, none⟩) hN).trans h0, (hb.cell (p := ⟨N, 1, none⟩) hN).trans h1, (hb.cell (p := ⟨N, 2, none⟩) hN).trans h2, (hb.cell (p := ⟨N, 3, none⟩) hN).trans h3⟩
theorem BoxC.new (w : World) (p vr vo code : Value) (t : TypeId) : BoxC (w.alloc (.cells #[p, vr, vo, code] t)) w.heap.size p vr vo code := by
  unfold BoxC
  simp

theorem BoxC.marked {v : Value} {w w' : World} {N : Nat} {p vr vo code : Value} (h : BoxC w N p vr vo code) (hm : Marked v w w') (hv : ¬ hasBlock v N) : BoxC w' N p vr vo code := by
  obtain ⟨h0, h1, h2, h3⟩ := h
  have hN : N < w.heap.size := World.block_lt_of_cell? w _ h0
  exact ⟨(hm.cell hN hv _).trans h0, (hm.cell hN hv _).trans h1, (hm.cell hN hv _).trans h2, (hm.cell hN hv _).trans h3⟩

end Go.Proofs.Ytmbmhpginegggaa
