/- The walks of l1DrawAny, DrawProgOk and DrawInsOk. -/
import Derived.Test.YtnfdnnmddadmkaaGreatDoorNc0
import Derived.Test.YtnfdnnmddadmkaaGreatDoorNc22
import Derived.Deep.RegionWith
namespace Go.Proofs.YtnfdnnmddadmkaaGreatDoor
open Go.RowKit
end Go.Proofs.YtnfdnnmddadmkaaGreatDoor
