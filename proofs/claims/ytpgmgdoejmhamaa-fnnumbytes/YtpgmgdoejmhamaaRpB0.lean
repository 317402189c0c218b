/- One number more behind a list of the own. -/
import Derived.Test.YtpgmgdoejmhamaaCnA
namespace Go.Proofs.Ytpgmgdoejmhamaa
open Go.RowKit Go.Deep

theorem append_one {ops : Array Oper} {rest : List Oper} {op : Oper} {act : Act} {Q : Exit → Act → World → Prop} (w : World) (hgd : op.guard = none) (s x : Operand)
    (ho : op.op = .call { callee := .builtin .append, args := #[s, x], argTypes := #[39, 39] })
    (B : Nat) (v : Value) (xs : List Int) (hs : act.eval s = v) (hv : OwnI w B v xs) (y : Int) (hx : act.eval x = .slice (some ⟨w.heap.size, 0, none⟩) 1 1) (hn : xs.length ≤ 1048576) (hB : B ≤ w.heap.size)
    (h : ∀ v' w', OwnI w' B v' (xs ++ [y]) → Below B w w' → wpList Try.prog ops Q rest (act.put op.dst v') w') :
    wpList Try.prog ops Q (op :: rest) act (w.alloc (.cells #[.int .i64 y] 3)) := by
  have hb : Below w.heap.size w (w.alloc (.cells #[.int .i64 y] 3)) := (Below.refl _ _).alloc (Nat.le_refl _) _
  refine wpList_append_ints _ hgd s x ho B 1 v (some ⟨w.heap.size, 0, none⟩) xs [y] hs hx (hv.below hb) (.inr ⟨w.heap.size, 0, rfl, by simp, fun i hi => ?_⟩) (by simp; omega) (by simp; omega) ?_
  · have : i = 0 := by simp at hi; omega
    subst this
    exact new_cell _ _ _ 0 rfl
  · intro v' w' o g _
    refine h v' w' o (Below.grown (hb.mono hB) g (by simp; omega) (fun k hk => (hv.lt k hk).1))

theorem append_oneN {ops : Array Oper} {rest : List Oper} {op : Oper} {act : Act} {Q : Exit → Act → World → Prop} (w : World) {N : Nat} (hN : N = w.heap.size) (hgd : op.guard = none) (s x : Operand)
    (ho : op.op = .call { callee := .builtin .append, args := #[s, x], argTypes := #[39, 39] })
    (B : Nat) (v : Value) (xs : List Int) (hs : act.eval s = v) (hv : OwnI w B v xs) (y : Int) (hx : act.eval x = .slice (some ⟨N, 0, none⟩) 1 1) (hn : xs.length ≤ 1048576) (hB : B ≤ w.heap.size)
    (h : ∀ v' w', OwnI w' B v' (xs ++ [y]) → Below B w w' → wpList Try.prog ops Q rest (act.put op.dst v') w') :
    wpList Try.prog ops Q (op :: rest) act (w.alloc (.cells #[.int .i64 y] 3)) := by
  subst hN
  exact append_one w hgd s x ho B v xs hs hv y hx hn hB h

theorem OwnI.to {w : World} {B : Nat} {v : Value} {xs ys : List Int} (h : OwnI w B v xs) (e : ys = xs) : OwnI w B v ys := e ▸ h

end Go.Proofs.Ytpgmgdoejmhamaa
