/- Small facts on worlds, and when two Ins are alike. -/
import Derived.Test.YtkoghgnbolaooaaKa2
namespace Go.Proofs.Ytkoghgnbolaooaa
open Go.RowKit

def insEqB (o1 r1 a1 b1 n1 o2 r2 a2 b2 n2 : Int) : Bool := o1 == o2 && (r1 == r2 && (a1 == a2 && (b1 == b2 && n1 == n2)))
theorem eql_ins (o1 r1 a1 b1 n1 o2 r2 a2 b2 n2 : Int) (w : World) : (binOp .eql 55 (insV o1 r1 a1 b1 n1) (insV o2 r2 a2 b2 n2)).run Try.prog w = .ok (.bool (insEqB o1 r1 a1 b1 n1 o2 r2 a2 b2 n2)) w := by
  rw [run_eql_struct, show (10000 : Nat) = 9998 + 1 + 1 from rfl, run_equalIn_agg w (9998 + 1) 55 _ _ (by kernel_rfl) (by kernel_rfl)]
  simp only [insEqB]
  by_cases h1 : o1 = o2 <;> by_cases h2 : r1 = r2 <;> by_cases h3 : a1 = a2 <;> by_cases h4 : b1 = b2 <;> by_cases h5 : n1 = n2 <;> simp [go_sem, h1, h2, h3, h4, h5]

theorem implIns_below1 {w w1 : World} {o : Obj} (h1 : Below (w.alloc o).heap.size (w.alloc o) w1) : Below w.heap.size w w1.drew := by
  have h0 : Below w.heap.size w (w.alloc o) := (Below.refl _ _).alloc (Nat.le_refl _) _
  have hs : w.heap.size ≤ (w.alloc o).heap.size := by simp
  exact (h0.trans (h1.mono hs)).drew
theorem implIns_below2 {w w1 w2 : World} {o : Obj} (h1 : Below (w.alloc o).heap.size (w.alloc o) w1) (h2 : Below w1.drew.heap.size w1.drew w2) : Below w.heap.size w w2 := by
  have h0 : Below w.heap.size w (w.alloc o) := (Below.refl _ _).alloc (Nat.le_refl _) _
  have hs : w.heap.size ≤ (w.alloc o).heap.size := by simp
  exact (h0.trans (h1.mono hs)).drew.trans (h2.mono (Nat.le_trans hs h1.size))
theorem implIns_below3 {w w1 w2 w3 : World} {o : Obj} (h1 : Below (w.alloc o).heap.size (w.alloc o) w1) (h2 : Below w1.drew.heap.size w1.drew w2) (h3 : Below w2.heap.size w2 w3) : Below w.heap.size w w3 :=
  implIns_below2 h1 (h2.trans (h3.mono h2.size))

end Go.Proofs.Ytkoghgnbolaooaa
