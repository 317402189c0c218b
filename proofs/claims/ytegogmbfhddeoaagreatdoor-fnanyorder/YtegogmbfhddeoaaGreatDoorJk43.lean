import Derived.Test.YtegogmbfhddeoaaGreatDoorJk30
namespace Go.Proofs.YtegogmbfhddeoaaGreatDoor
open Go.ChangeShapes Go.WideShapes Go.ChangeAt Go.RowKit Go.Deep
open Go.Sort
structure QsC (w:World) (N:Nat) (a b:Value):Prop where
 c0:w.cell? ⟨N,0,none⟩=some a
 c1:w.cell? ⟨N,1,none⟩=some b
 fz:∀ j,w.frozen? ⟨N,j,none⟩=false
theorem QsC.below {w w':World} {N:Nat} {a b:Value} (h:QsC w N a b) (hb:Below w.heap.size w w'):QsC w' N a b:=by
 have hN:N<w.heap.size:=zJ w _ h.c0;exact ⟨(hb.cell hN).trans h.c0,(hb.cell hN).trans h.c1,fun j=>((qag hb).2 N j hN).trans (h.fz j)⟩
theorem QsC.new (w:World) (a b:Value) (t:TypeId):QsC (w.alloc (.cells #[a,b] t)) w.heap.size a b:=
 ⟨zW _ _ _ 0 rfl,zW _ _ _ 1 rfl,fun _=>yB _ _ _ _ rfl⟩
