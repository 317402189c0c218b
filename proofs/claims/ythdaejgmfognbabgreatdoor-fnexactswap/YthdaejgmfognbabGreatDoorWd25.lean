/- The walks of l1DrawAny, DrawProgOk and DrawInsOk. -/
import Derived.Test.YthdaejgmfognbabGreatDoorWd0
import Derived.Test.YthdaejgmfognbabGreatDoorWd24
import Derived.Deep.RegionWith
namespace Go.Proofs.YthdaejgmfognbabGreatDoor
open Go.RowKit
end Go.Proofs.YthdaejgmfognbabGreatDoor
