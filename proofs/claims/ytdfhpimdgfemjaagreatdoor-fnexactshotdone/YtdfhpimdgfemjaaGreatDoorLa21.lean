/- The walks of l1DrawAny, DrawProgOk and DrawInsOk. -/
import Derived.Test.YtdfhpimdgfemjaaGreatDoorLa20
import Derived.Deep.RegionWith
namespace Go.Proofs.YtdfhpimdgfemjaaGreatDoor
open Go.RowKit

def pick2 (j : Nat) : Int := [(11 : Int), 9].getD j 0
theorem pick2_at (w : World) : IntsAt (w.alloc (.cells #[.int .i64 11, .int .i64 9] 3)) w.heap.size 2 pick2 := by
  intro j hj
  match j, hj with
  | 0, _ => simp [pick2]
  | 1, _ => simp [pick2]

theorem Lst.own {w : World} {B n : Nat} {v : Value} (h : Lst w B v n) : ∀ j, v.ownBlock = some j → B ≤ j := by
  obtain ⟨xs, ho, hx⟩ := h
  exact fun j hj => (ho.lt j hj).1
/-- The cursor stands as it was where a list of the draw's own grew. -/
theorem Lst.cur {w w' : World} {B W0 c len cap n : Nat} {a0 : Option Addr} {v : Value} {o : Obj} (h : Lst w B v n) (hc : Cur w W0 c a0 len cap) (hg : (w.alloc o).grownBy w' v.ownBlock) (hB : c < B) (hW : W0 ≤ c) : Cur w' W0 c a0 len cap :=
  (hc.alloc o).kept hg (fun e => by have := h.own c e.symm; omega) (fun k hk => by have := h.own k hk; omega)

end Go.Proofs.YtdfhpimdgfemjaaGreatDoor

namespace Go.Proofs.YtdfhpimdgfemjaaGreatDoor
open Go.RowKit

def lenV : Value → Nat
  | .slice _ n _ => n
  | _ => 0

theorem Lst.frozen {w : World} {B n g cap : Nat} (h : Lst w B (.slice (some ⟨g, 0, none⟩) n cap) n) (j : Nat) : w.frozen? ⟨g, j, none⟩ = false := by
  obtain ⟨xs, ho, hx⟩ := h
  exact ho.frozenAt j

/-- What is carried from step to step of a draw: the list, the cursor, the frame. -/
def Way (w wr : World) (W0 c len cap : Nat) (a0 : Option Addr) (g n gc : Nat) : Prop :=
  Lst wr w.heap.size (.slice (some ⟨g, 0, none⟩) n gc) n ∧ Cur wr W0 c a0 len cap ∧ w.grownBy wr (some c)

theorem Way.step {w wr w' : World} {W0 c len cap g n gc : Nat} {a0 : Option Addr} (h : Way w wr W0 c len cap a0 g n gc) (hcl : c < w.heap.size) (hc : Cur w' W0 c a0 len cap) (hg : wr.grownBy w' (some c)) : Way w w' W0 c len cap a0 g n gc :=
  ⟨h.1.kept hg (fun j hj => by cases hj; exact hcl), hc, h.2.2.trans hg⟩
theorem Way.set {w wr : World} {W0 c len cap g n gc : Nat} {a0 : Option Addr} (h : Way w wr W0 c len cap a0 g n gc) (hcl : c < w.heap.size) (hcg : W0 ≤ c) (j : Nat) (x : Int) : Way w (wr.setCell ⟨g, j, none⟩ (.int .i64 x)) W0 c len cap a0 g n gc := by
  have hg := h.1.own g rfl
  exact ⟨h.1.set j x, h.2.1.setOther (p := ⟨g, j, none⟩) (by simp; omega) (by simp; omega) _, grown_setCell (p := ⟨g, j, none⟩) h.2.2 (.inr hg) _⟩

end Go.Proofs.YtdfhpimdgfemjaaGreatDoor
