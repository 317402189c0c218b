/- A drawn program: some list of places in memory of its own; nothing else is written than the cursor. -/
import Derived.Test.YthdaejgmfognbabGreatDoorWd0
import Derived.Test.YthdaejgmfognbabGreatDoorWd23
import Derived.Test.YthdaejgmfognbabGreatDoorWd10
import Derived.Maps.Range
import Derived.Deep.Onto
import Derived.Deep.Slices
namespace Go.Proofs.YthdaejgmfognbabGreatDoor
open Go.RowKit
end Go.Proofs.YthdaejgmfognbabGreatDoor
