/- The walks of l1New, l1DrawIns and l1Spoil: some place is drawn, and nothing else is written than the cursor. -/
import Derived.Test.YtjbocfjeobkclaaGreatDoorCc0
import Derived.Test.YtjbocfjeobkclaaGreatDoorCc9
import Derived.Test.YtjbocfjeobkclaaGreatDoorCc2
namespace Go.Proofs.YtjbocfjeobkclaaGreatDoor
open Go.RowKit
end Go.Proofs.YtjbocfjeobkclaaGreatDoor
