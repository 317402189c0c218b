/- The walks of l1New, l1DrawIns and l1Spoil: some place is drawn, and nothing else is written than the cursor. -/
import Derived.Test.YthdaejgmfognbaaGreatDoorXd0
import Derived.Test.YthdaejgmfognbaaGreatDoorXd10
import Derived.Test.YthdaejgmfognbaaGreatDoorXd2
namespace Go.Proofs.YthdaejgmfognbaaGreatDoor
open Go.RowKit
end Go.Proofs.YthdaejgmfognbaaGreatDoor
