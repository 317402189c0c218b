/- The walks of l1DrawProg, l1DrawAny and the two draws of the law: some list of places, some count; nothing old is written. -/
import Derived.Test.YtkpbdcahpkpobabGreatDoorU23
namespace Go.Proofs.YtkpbdcahpkpobabGreatDoor
open Go.RowKit

def pick2 (j : Nat) : Int := [(11 : Int), 9].getD j 0
theorem pick2_at (w : World) : IntsAt (w.alloc (.cells #[.int .i64 11, .int .i64 9] 3)) w.heap.size 2 pick2 := by
  intro j hj
  match j, hj with
  | 0, _ => simp [pick2]
  | 1, _ => simp [pick2]

theorem Lst.own {w : World} {B n : Nat} {v : Value} (h : Lst w B v n) : ∀ j, v.ownBlock = some j → B ≤ j := by
  obtain ⟨xs, ho, hx⟩ := h
  exact fun j hj => (ho.lt j hj).1
/-- The cursor stands as it was where a list of the draw's own grew. -/
theorem Lst.cur {w w' : World} {B W0 c len cap n : Nat} {a0 : Option Addr} {v : Value} {o : Obj} (h : Lst w B v n) (hc : Cur w W0 c a0 len cap) (hg : (w.alloc o).grownBy w' v.ownBlock) (hB : c < B) (hW : W0 ≤ c) : Cur w' W0 c a0 len cap :=
  (hc.alloc o).kept hg (fun e => by have := h.own c e.symm; omega) (fun k hk => by have := h.own k hk; omega)

end Go.Proofs.YtkpbdcahpkpobabGreatDoor
