/- A drawn program: some list of places in memory of its own; nothing else is written than the cursor. -/
import Derived.Test.YtdfhpimdgfemjaaGreatDoorLa19
import Derived.Test.YtdfhpimdgfemjaaGreatDoorLa10
import Derived.Maps.Range
import Derived.Deep.Onto
import Derived.Deep.Slices
namespace Go.Proofs.YtdfhpimdgfemjaaGreatDoor
open Go.RowKit

def isI : Value → Bool
  | .int .i64 _ => true
  | _ => false
theorem isI_int {v : Value} (h : isI v = true) : ∃ x : Int, v = .int .i64 x := by
  unfold isI at h
  split at h
  · exact ⟨_, rfl⟩
  · cases h
theorem isI_one {v : Value} (h : isI v = true) : v.oneCell' = true := by
  obtain ⟨x, rfl⟩ := isI_int h
  rfl

/-- The slice v is n places in a block of its own, from block B on. -/
def Lst (w : World) (B : Nat) (v : Value) (n : Nat) : Prop := ∃ xs, w.ownsRow B 153 5 v n xs ∧ xs.all isI = true

theorem Lst.kept {w w' : World} {B n : Nat} {v : Value} {row : Option Nat} (h : Lst w B v n) (hg : w.grownBy w' row) (hr : ∀ k, row = some k → k < B) : Lst w' B v n := by
  obtain ⟨xs, ho, hx⟩ := h
  refine ⟨xs, ho.kept hg ?_, hx⟩
  cases hv : v.ownBlock with
  | none => exact .inl rfl
  | some k =>
    right
    intro e
    have h1 := (ho.lt k hv).1
    have h2 := hr k e.symm
    omega
theorem Lst.mono {w : World} {B B' n : Nat} {v : Value} (h : Lst w B v n) (hb : B' ≤ B) : Lst w B' v n := by
  obtain ⟨xs, ho, hx⟩ := h
  exact ⟨xs, ho.mono hb, hx⟩
theorem Lst.form {w : World} {B n : Nat} {v : Value} (h : Lst w B v n) (hn : 0 < n) : ∃ g cap, v = .slice (some ⟨g, 0, none⟩) n cap ∧ B ≤ g ∧ g < w.heap.size := by
  obtain ⟨xs, ho, hx⟩ := h
  rcases ho.2 with ⟨_, h0⟩ | ⟨g, cap, cur, rfl, hb, _⟩
  · omega
  · exact ⟨g, cap, rfl, hb, (ho.lt g rfl).2⟩
theorem Lst.at {w : World} {B n g cap : Nat} (h : Lst w B (.slice (some ⟨g, 0, none⟩) n cap) n) : ∃ G, InsAt w g 0 n G := by
  obtain ⟨xs, ho, hx⟩ := h
  have hall := List.all_eq_true.1 hx
  have key : ∀ j, j < n * 5 → ∃ x : Int, w.cell? ⟨g, j, none⟩ = some (.int .i64 x) := by
    intro j hj
    have hl : j < xs.length := by rw [ho.1]; exact hj
    obtain ⟨x, hxx⟩ := isI_int (hall xs[j] (List.getElem_mem hl))
    exact ⟨x, by rw [ho.cellAt j hj, List.getElem?_eq_getElem hl, hxx]⟩
  have inh : Inhabited Int := ⟨0⟩
  obtain ⟨f, hf⟩ := Go.Deep.choose_lt (α := Int) key
  refine ⟨fun i => ⟨f (i * 5), f (i * 5 + 1), f (i * 5 + 2), f (i * 5 + 3), f (i * 5 + 4)⟩, fun i hi => ?_⟩
  simp only [Nat.zero_add]
  exact ⟨hf _ (by omega), hf _ (by omega), hf _ (by omega), hf _ (by omega), hf _ (by omega)⟩
theorem Lst.lit {w : World} {B n : Nat} (cs : Array Value) (hB : B ≤ w.heap.size) (hn : n ≤ 1000) (hs : cs.size = n * 5) (hc : cs.toList.all isI = true) : Lst (w.alloc (.cells cs 153)) B (.slice (some ⟨w.heap.size, 0, none⟩) n n) n :=
  ⟨cs.toList, World.ownsRow_lit w cs n hB (by unfold maxLen; omega) hs, hc⟩

theorem all_set {xs : List Value} {u : Value} (h : xs.all isI = true) (hu : isI u = true) (j : Nat) : (xs.set j u).all isI = true := by
  rw [List.all_eq_true] at h ⊢
  intro v hv
  rcases List.mem_or_eq_of_mem_set hv with h1 | h1
  · exact h v h1
  · rw [h1]; exact hu
theorem Lst.set {w : World} {B n g cap : Nat} (h : Lst w B (.slice (some ⟨g, 0, none⟩) n cap) n) (j : Nat) (x : Int) : Lst (w.setCell ⟨g, j, none⟩ (.int .i64 x)) B (.slice (some ⟨g, 0, none⟩) n cap) n := by
  obtain ⟨xs, ho, hx⟩ := h
  exact ⟨_, (ho.stored j _).1, all_set hx rfl j⟩

theorem infoI : (Tryz.prog.info? 153).map (fun i => (i.zero, i.size, i.bytes)) = some (some (insV 0 0 0 0 0), 5, 40) := by kernel_rfl

theorem cell_five_new (w : World) (a b c d e : Value) (t : TypeId) : ∀ j u, [a, b, c, d, e][j]? = some u → (w.alloc (.cells #[a, b, c, d, e] t)).cell? ((⟨w.heap.size, 0, none⟩ : Addr).add j) = some u := by
  intro j u hj
  match j, hj with
  | 0, hj => simp at hj; subst hj; simp [Addr.add]
  | 1, hj => simp at hj; subst hj; simp [Addr.add]
  | 2, hj => simp at hj; subst hj; simp [Addr.add]
  | 3, hj => simp at hj; subst hj; simp [Addr.add]
  | 4, hj => simp at hj; subst hj; simp [Addr.add]
  | j + 5, hj => simp at hj

/-- One place is appended to a list of the draw's own. -/
theorem append_ins {ops : Array Oper} {rest : List Oper} {op : Oper} {act : Act} {Q : Exit → Act → World → Prop} (w : World) (hgd : op.guard = none) (s x : Operand)
    (ho : op.op = .call { callee := .builtin .append, args := #[s, x], argTypes := #[127, 127] })
    (B : Nat) (v : Value) (n : Nat) (hs : act.eval s = v) (hl : Lst w B v n) (o r a b k : Int) (hx : act.eval x = .slice (some ⟨w.heap.size, 0, none⟩) 1 1) (hn : n ≤ 1000) (hB : B ≤ w.heap.size)
    (h : ∀ v' w', Lst w' B v' (n + 1) → (w.alloc (.cells #[.int .i64 o, .int .i64 r, .int .i64 a, .int .i64 b, .int .i64 k] 153)).grownBy w' v.ownBlock → wpList Tryz.prog ops Q rest (act.put op.dst v') w') :
    wpList Tryz.prog ops Q (op :: rest) act (w.alloc (.cells #[.int .i64 o, .int .i64 r, .int .i64 a, .int .i64 b, .int .i64 k] 153)) := by
  obtain ⟨i0, hi, hz0, hz1, hz2⟩ := info_parts infoI
  obtain ⟨xs, how, hxs⟩ := hl
  refine wpList_append_own _ hgd s x 127 ho B 153 i0 (insV 0 0 0 0 0) 5 40 Tryz.underlying127 hi hz0 hz1 hz2 rfl (by decide) v n xs hs (how.alloc _) ⟨w.heap.size, 0, none⟩ 1 1
    [.int .i64 o, .int .i64 r, .int .i64 a, .int .i64 b, .int .i64 k] hx rfl (cell_five_new _ _ _ _ _ _ _) (fun u hu => ?_) (by unfold maxLen; omega) (by omega) (by simp; omega) ?_
  · simp at hu
    rcases hu with rfl | rfl | rfl | rfl | rfl <;> rfl
  · intro v' w' h1 h2 _
    refine h v' w' ⟨_, h1, ?_⟩ h2
    rw [List.all_append, hxs]
    rfl

end Go.Proofs.YtdfhpimdgfemjaaGreatDoor
