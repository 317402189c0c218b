/- The walks of l1DrawProg, l1DrawAny and the two draws of the law: some list of places, some count; nothing old is written. -/
import Derived.Test.YtcplnkhdclcgfaaGreatDoorGc0
import Derived.Test.YtcplnkhdclcgfaaGreatDoorGc10
namespace Go.Proofs.YtcplnkhdclcgfaaGreatDoor
open Go.RowKit
def pick2 (j : Nat) : Int := [(11 : Int), 9].getD j 0
end Go.Proofs.YtcplnkhdclcgfaaGreatDoor
