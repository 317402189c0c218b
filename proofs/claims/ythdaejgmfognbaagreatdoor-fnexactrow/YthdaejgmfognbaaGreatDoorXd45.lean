/- Clocks in the model: all of them, as rows of rows of rows. -/
import Derived.Test.YthdaejgmfognbaaGreatDoorXd0
import Derived.Test.YthdaejgmfognbaaGreatDoorXd43
import Derived.Deep.Cut
import Derived.Deep.RegionHeld3
import Derived.Test.YthdaejgmfognbaaGreatDoorXd18
import Derived.Test.YthdaejgmfognbaaGreatDoorXd42
namespace Go.Proofs.YthdaejgmfognbaaGreatDoor
open Go.ChangeShapes Go.WideShapes Go.ChangeAt Go.RowKit Go.Deep Go.Sort Go.Maps
def spEq (p i q j : Int) : Bool := p == q && i == j
end Go.Proofs.YthdaejgmfognbaaGreatDoor
