/- The walks of l1New, l1DrawIns and l1Spoil: some place is drawn, and nothing else is written than the cursor. -/
import Derived.Test.YtdfhpimdgfemjaaGreatDoorLa10
import Derived.Test.YtdfhpimdgfemjaaGreatDoorLa2
namespace Go.Proofs.YtdfhpimdgfemjaaGreatDoor
open Go.RowKit

theorem Cur.setOther {w : World} {W0 c len cap : Nat} {a0 : Option Addr} (h : Cur w W0 c a0 len cap) {p : Addr} (hp : p.block ≠ c) (hW : W0 ≤ p.block) (v : Value) : Cur (w.setCell p v) W0 c a0 len cap :=
  h.kept (row := some p.block) (grown_setCell (World.grownBy.refl w _) (.inl rfl) v) (fun e => hp (Option.some.inj e).symm) (fun k hk => by rw [← Option.some.inj hk]; exact hW)

/-- Five cells of an own block are written. -/
abbrev put5 (w : World) (N : Nat) (o r a b n : Int) : World :=
  ((((w.setCell ⟨N, 0, none⟩ (.int .i64 o)).setCell ⟨N, 1, none⟩ (.int .i64 r)).setCell ⟨N, 2, none⟩ (.int .i64 a)).setCell ⟨N, 3, none⟩ (.int .i64 b)).setCell ⟨N, 4, none⟩ (.int .i64 n)
theorem put5_cur {w : World} {W0 c len cap N : Nat} {a0 : Option Addr} (h : Cur w W0 c a0 len cap) (hp : N ≠ c) (hW : W0 ≤ N) (o r a b n : Int) : Cur (put5 w N o r a b n) W0 c a0 len cap :=
  ((((h.setOther (p := ⟨N, 0, none⟩) hp hW _).setOther (p := ⟨N, 1, none⟩) hp hW _).setOther (p := ⟨N, 2, none⟩) hp hW _).setOther (p := ⟨N, 3, none⟩) hp hW _).setOther (p := ⟨N, 4, none⟩) hp hW _
theorem put5_grown {w w1 : World} {row : Option Nat} {N : Nat} (h : w.grownBy w1 row) (hN : w.heap.size ≤ N) (o r a b n : Int) : w.grownBy (put5 w1 N o r a b n) row :=
  grown_setCell (grown_setCell (grown_setCell (grown_setCell (grown_setCell h (.inr hN) _) (.inr hN) _) (.inr hN) _) (.inr hN) _) (.inr hN) _

/-- Block N is five cells that hold these numbers. -/
def Five (w : World) (N : Nat) (o r a b n : Int) : Prop := w.heap[N]? = some (.cells #[.int .i64 o, .int .i64 r, .int .i64 a, .int .i64 b, .int .i64 n] 153 (0, 0))
theorem Five.cells {w : World} {N : Nat} {o r a b n : Int} (h : Five w N o r a b n) : (w.cell? ⟨N, 0, none⟩ = some (.int .i64 o) ∧ w.cell? ⟨N, 1, none⟩ = some (.int .i64 r) ∧ w.cell? ⟨N, 2, none⟩ = some (.int .i64 a) ∧ w.cell? ⟨N, 3, none⟩ = some (.int .i64 b) ∧ w.cell? ⟨N, 4, none⟩ = some (.int .i64 n)) ∧ ∀ i, w.frozen? ⟨N, i, none⟩ = false := by
  unfold Five at h
  simp [World.cell?, World.frozen?, h]
theorem Five.lt {w : World} {N : Nat} {o r a b n : Int} (h : Five w N o r a b n) : N < w.heap.size := (Array.getElem?_eq_some_iff.1 h).1
theorem Five.kept {w w' : World} {N : Nat} {row : Option Nat} {o r a b n : Int} (h : Five w N o r a b n) (hg : w.grownBy w' row) (hne : some N ≠ row) : Five w' N o r a b n :=
  (hg.block N h.lt hne).trans h

def pick9 (j : Nat) : Int := [(-1 : Int), 0, 3, 4, 9, 29, 30, 1000000000, 1000000001].getD j 0
theorem pick9_at (w : World) : IntsAt (w.alloc (.cells #[.int .i64 (-1), .int .i64 0, .int .i64 3, .int .i64 4, .int .i64 9, .int .i64 29, .int .i64 30, .int .i64 1000000000, .int .i64 1000000001] 3)) w.heap.size 9 pick9 := by
  intro j hj
  match j, hj with
  | 0, _ => simp [pick9]
  | 1, _ => simp [pick9]
  | 2, _ => simp [pick9]
  | 3, _ => simp [pick9]
  | 4, _ => simp [pick9]
  | 5, _ => simp [pick9]
  | 6, _ => simp [pick9]
  | 7, _ => simp [pick9]
  | 8, _ => simp [pick9]


end Go.Proofs.YtdfhpimdgfemjaaGreatDoor
