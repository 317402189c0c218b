/- The walks of l1New, l1DrawIns and l1Spoil: some place is drawn, and nothing else is written than the cursor. -/
import Derived.Test.YthdaejgmfognbabGreatDoorWd0
import Derived.Test.YthdaejgmfognbabGreatDoorWd10
import Derived.Test.YthdaejgmfognbabGreatDoorWd2
namespace Go.Proofs.YthdaejgmfognbabGreatDoor
open Go.RowKit
end Go.Proofs.YthdaejgmfognbabGreatDoor
