/- The walks of l1DrawAny, DrawProgOk and DrawInsOk. -/
import Derived.Test.YtjbocfjeobkclaaGreatDoorCc0
import Derived.Test.YtjbocfjeobkclaaGreatDoorCc15
import Derived.Deep.RegionWith
namespace Go.Proofs.YtjbocfjeobkclaaGreatDoor
open Go.RowKit
end Go.Proofs.YtjbocfjeobkclaaGreatDoor
