/- The walk of the model's l4Copy. -/
import Derived.Test.YthdaejgmfognbaaGreatDoorXd0
import Derived.Test.YthdaejgmfognbaaGreatDoorXd41
import Derived.Test.YthdaejgmfognbaaGreatDoorXd37
import Derived.Test.YthdaejgmfognbaaGreatDoorXd31
import Derived.Test.YthdaejgmfognbaaGreatDoorXd9
namespace Go.Proofs.YthdaejgmfognbaaGreatDoor
open Go.ChangeShapes Go.WideShapes Go.ChangeAt Go.RowKit Go.Deep
variable {z : Bool}
section
variable {B N : Nat} {c : Nat -> Nat} {y : Sy} {ks kw : Nat} {wr : World} {vp vs vw vh : Value} {up us uw uh : Nat -> Value}
end
end Go.Proofs.YthdaejgmfognbaaGreatDoor
