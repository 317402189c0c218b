/- The walk of the model's StateOk: it answers what stOkB says. -/
import Derived.Test.YtkoghgnbolaooaaKa11
namespace Go.Proofs.Ytkoghgnbolaooaa
open Go.RowKit

theorem inB_below (p : Int) (n : Nat) : inB p 0 ((n : Int) - 1) = belB p n := by
  rw [Bool.eq_iff_iff]; simp [inB, belB]; omega

end Go.Proofs.Ytkoghgnbolaooaa
