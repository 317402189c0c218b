/- A drawn program: some list of places in memory of its own; nothing else is written than the cursor. -/
import Derived.Test.YthdaejgmfognbaaGreatDoorXd0
import Derived.Test.YthdaejgmfognbaaGreatDoorXd24
import Derived.Test.YthdaejgmfognbaaGreatDoorXd10
import Derived.Maps.Range
import Derived.Deep.Onto
import Derived.Deep.Slices
namespace Go.Proofs.YthdaejgmfognbaaGreatDoor
open Go.RowKit
end Go.Proofs.YthdaejgmfognbaaGreatDoor
