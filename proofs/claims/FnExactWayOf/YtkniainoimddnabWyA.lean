/- Items of the own: appended, marked, held. -/
import Derived.Test.YtkniainoimddnabSsW
namespace Go.Proofs.Ytkniainoimddnab
open Go.ChangeShapes Go.WideShapes Go.ChangeAt Go.RowKit Go.Deep

/-- The cells of the first n items. -/
def flatI (h : Nat → I2) : Nat → List Value
  | 0 => []
  | n + 1 => flatI h n ++ [.bool (h n).m, .int .i64 (h n).v]
theorem flatI_length (h : Nat → I2) : ∀ n, (flatI h n).length = n * 2
  | 0 => rfl
  | n + 1 => by
    rw [flatI, List.length_append, flatI_length h n]
    simp
    omega
theorem flatI_at (h : Nat → I2) : ∀ n i, i < n → (flatI h n)[i * 2]? = some (.bool (h i).m) ∧ (flatI h n)[i * 2 + 1]? = some (.int .i64 (h i).v)
  | 0, i, hi => by omega
  | n + 1, i, hi => by
    have hl := flatI_length h n
    by_cases e : i = n
    · subst e
      rw [flatI, List.getElem?_append_right (by omega), List.getElem?_append_right (by omega), hl]
      simp
    · obtain ⟨h0, h1⟩ := flatI_at h n i (by omega)
      rw [flatI, List.getElem?_append_left (by omega), List.getElem?_append_left (by omega)]
      exact ⟨h0, h1⟩
theorem flatI_one (h : Nat → I2) : ∀ n, ∀ u ∈ flatI h n, u.oneCell' = true
  | 0, u, hu => by simp [flatI] at hu
  | n + 1, u, hu => by
    rw [flatI, List.mem_append] at hu
    rcases hu with hu | hu
    · exact flatI_one h n u hu
    · simp at hu
      rcases hu with rfl | rfl <;> rfl

/-- The slice v is n items in a block of its own from B on. -/
def OwnT (w : World) (B : Nat) (v : Value) (n : Nat) (h : Nat → I2) : Prop := ∃ g cap, v = .slice (some ⟨g, 0, none⟩) n cap ∧ B ≤ g ∧ g < w.heap.size ∧ ItAt w g 0 n h ∧ ∀ j, w.frozen? ⟨g, j, none⟩ = false

theorem info_item : ∃ i, Try.prog.info? 63 = some i ∧ i.zero = some (itV false 0) ∧ i.size = 2 ∧ i.bytes = 16 := by
  have hinfo := infoIt
  cases hi : Try.prog.info? 63 with
  | none => rw [hi] at hinfo; cases hinfo
  | some i =>
    rw [hi] at hinfo
    simp only [Option.map_some, Option.some.injEq, Prod.mk.injEq] at hinfo
    exact ⟨i, rfl, hinfo⟩

/-- Items are appended to none. -/
theorem append_items {ops : Array Oper} {rest : List Oper} {op : Oper} {act : Act} {Q : Exit → Act → World → Prop} (w : World) {N : Nat} (hN : N = w.heap.size) (hgd : op.guard = none) (s x : Operand)
    (ho : op.op = .call { callee := .builtin .append, args := #[s, x], argTypes := #[29, 29] })
    (b off n c : Nat) (h : Nat → I2) (hs : act.eval s = .slice (some ⟨N, 0, none⟩) 0 0) (hx : act.eval x = .slice (some ⟨b, off, none⟩) n c) (hb : b < w.heap.size) (hI : ItAt w b off n h) (hn : n ≤ 1048576)
    (hp : ∀ v' w', OwnT w' w.heap.size v' n h → Below w.heap.size w w' → wpList Try.prog ops Q rest (act.put op.dst v') w') :
    wpList Try.prog ops Q (op :: rest) act (w.alloc (.cells #[] 63)) := by
  subst hN
  obtain ⟨i0, hi, hz0, hz1, hz2⟩ := info_item
  have hB : Below w.heap.size w (w.alloc (.cells #[] 63)) := below_allocS _ _
  have hnews : ∀ j u, (flatI h n)[j]? = some u → (w.alloc (.cells #[] 63)).cell? ((⟨b, off, none⟩ : Addr).add j) = some u := by
    intro j u hj
    have hjl : j < (flatI h n).length := by
      rcases Nat.lt_or_ge j (flatI h n).length with h | h
      · exact h
      · rw [List.getElem?_eq_none h] at hj
        cases hj
    rw [flatI_length] at hjl
    rw [addr_addO, (hB.cell (p := ⟨b, off + j, none⟩) hb)]
    obtain ⟨c0, c1⟩ := hI (j / 2) (by omega)
    obtain ⟨f0, f1⟩ := flatI_at h n (j / 2) (by omega)
    have he : j = j / 2 * 2 ∨ j = j / 2 * 2 + 1 := by omega
    rcases he with e | e
    · rw [← e] at f0 c0
      rw [hj] at f0
      rw [c0, f0]
    · rw [← e] at f1
      rw [show off + j / 2 * 2 + 1 = off + j from by omega] at c1
      rw [hj] at f1
      rw [c1, f1]
  obtain ⟨v', w', h1, h2, h3, h4, h5⟩ := run_append_own_at (P := Try.prog) (w.alloc (.cells #[] 63)) w.heap.size 29 op.type 63 i0 (itV false 0) 2 16 Try.underlying29 hi hz0 hz1 hz2 rfl (by decide) (.slice (some ⟨w.heap.size, 0, none⟩) 0 0) 0 [] (World.ownsRow_made (base := w.heap.size) (e := 63) (size := 2) w #[] 0 (Nat.le_refl _) (by unfold maxLen; omega) rfl) ⟨b, off, none⟩ n c (flatI h n) (flatI_length h n) hnews (flatI_one h n) (by unfold maxLen; omega) (by omega) (by simp)
  refine wpList_plain hgd fun K hK => ?_
  unfold Oper.wp execOp
  simp only [ho, resolve, invoke, builtin, Sem.run_bind, Sem.run_pure, Result.andThen_ok, List.map_toArray, List.map_cons, List.map_nil, hs, hx, h1]
  rw [Nat.zero_add, List.nil_append] at h2
  refine hK _ _ (hp v' w' ?_ ?_)
  · have hne : v' ≠ .slice none 0 0 := fun e => by
      have := (h4.1 e).1
      simp at this
    obtain ⟨g, cap, cur, rfl, hg, hblk, hc⟩ : ∃ g cap cur, v' = .slice (some ⟨g, 0, none⟩) n cap ∧ w.heap.size ≤ g ∧ w'.heap[g]? = some (.cells cur 63 (0, 0)) ∧ True := by
      rcases h2.2 with ⟨e, _⟩ | ⟨g, cap, cur, e, q1, q2, _⟩
      · exact absurd e hne
      · exact ⟨g, cap, cur, e, q1, q2, trivial⟩
    refine ⟨g, cap, rfl, hg, ?_, fun i hi => ?_, fun j => h2.frozenAt j⟩
    · exact (h2.lt g rfl).2
    · obtain ⟨f0, f1⟩ := flatI_at h n i hi
      rw [h2.cellAt _ (by omega), h2.cellAt _ (by omega), Nat.zero_add]
      exact ⟨f0, f1⟩
  · exact hB.grown h3 (by simp) fun k hk => by simp [Value.ownBlock] at hk; omega
theorem own_items0 (w : World) (h : Nat → I2) : OwnT (w.alloc (.cells #[] 63)) w.heap.size (.slice (some ⟨w.heap.size, 0, none⟩) 0 0) 0 h := ⟨_, _, rfl, Nat.le_refl _, by simp, fun i hi => by omega, fun j => new_frozen _ _ _ j rfl⟩
theorem OwnT.below {w w' : World} {B B' : Nat} {v : Value} {n : Nat} {h : Nat → I2} (o : OwnT w B v n h) (hb : Below B' w w') (hB : w.heap.size ≤ B') : OwnT w' B v n h := by
  obtain ⟨g, cap, e, h1, h2, h3, h4⟩ := o
  exact ⟨g, cap, e, h1, Nat.lt_of_lt_of_le h2 hb.size, h3.below hb (by omega), fun j => (hb.frozen (p := ⟨g, j, none⟩) (by show g < B'; omega)).trans (h4 j)⟩
theorem OwnT.touch {w w' : World} {B : Nat} {v : Value} {n : Nat} {h : Nat → I2} {P : Nat → Prop} (o : OwnT w B v n h) (ht : Touch P w w') (hp : ∀ g, v.ownBlock = some g → ¬ P g) : OwnT w' B v n h := by
  obtain ⟨g, cap, rfl, h1, h2, h3, h4⟩ := o
  have hc := ht.cell h2 (hp g rfl)
  refine ⟨g, cap, rfl, h1, Nat.lt_of_lt_of_le h2 ht.size, fun i hi => ?_, fun j => (ht.frozen h2 (hp g rfl) j).trans (h4 j)⟩
  have := h3 i hi
  simp only [hc]
  exact this

set_option maxRecDepth 100000 in
set_option maxHeartbeats 1000000 in
theorem cloneItems_any (b n cap : Nat) (h : Nat → I2) (w : World) (hn : n ≤ 1048576) (hb : b < w.heap.size) (hI : ItAt w b 0 n h) :
    Calls Try.prog 31 #[.slice (some ⟨b, 0, none⟩) n cap] w fun e w' => ∃ v, e = .returned v ∧ OwnT w' w.heap.size v n h ∧ Below w.heap.size w w' := by
  have HI : Hid (ItAt w b 0 n h) := hI
  have he : ∀ wx : World, (binOp .eql 29 (.slice (some ⟨b, 0, none⟩) n cap) (.slice none 0 0)).run Try.prog wx = .ok (.bool false) wx := fun wx => by kernel_rfl
  clear hI
  go_enter Try.func31, Try.ntmps31
  go_wp2_with (at_builtin; refine append_items w rfl rfl _ _ rfl b 0 n cap h rfl rfl hb HI.out hn ?_; intro v' w1 o1 b1; have HF : Hid (OwnT w1 w.heap.size v' n h ∧ Below w.heap.size w w1) := ⟨o1, b1⟩; clear o1 b1)
  go_ret
  exact ⟨_, rfl, HF.out⟩

/-- The marks on n items, from k on. -/
def markI (k : Int) (i : Nat) : I2 := ⟨(k + 2 * i) % 3 == 0, k + 2 * i + 1⟩

end Go.Proofs.Ytkniainoimddnab
