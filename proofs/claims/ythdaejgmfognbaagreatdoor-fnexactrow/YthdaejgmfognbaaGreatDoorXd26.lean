/- The walks of l1DrawAny, DrawProgOk and DrawInsOk. -/
import Derived.Test.YthdaejgmfognbaaGreatDoorXd0
import Derived.Test.YthdaejgmfognbaaGreatDoorXd25
import Derived.Deep.RegionWith
namespace Go.Proofs.YthdaejgmfognbaaGreatDoor
open Go.RowKit
end Go.Proofs.YthdaejgmfognbaaGreatDoor
