/- The walks of l1DrawProg, l1DrawAny and the two draws of the law: some list of places, some count; nothing old is written. -/
import Derived.Test.YtbleeedbiipfnaaGreatDoorHc0
import Derived.Test.YtbleeedbiipfnaaGreatDoorHc17
namespace Go.Proofs.YtbleeedbiipfnaaGreatDoor
open Go.RowKit
def pick2 (j : Nat) : Int := [(11 : Int), 9].getD j 0
end Go.Proofs.YtbleeedbiipfnaaGreatDoor
