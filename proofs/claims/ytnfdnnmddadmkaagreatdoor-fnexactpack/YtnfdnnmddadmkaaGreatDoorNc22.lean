/- A drawn program: some list of places in memory of its own; nothing else is written than the cursor. -/
import Derived.Test.YtnfdnnmddadmkaaGreatDoorNc0
import Derived.Test.YtnfdnnmddadmkaaGreatDoorNc21
import Derived.Test.YtnfdnnmddadmkaaGreatDoorNc8
import Derived.Maps.Range
import Derived.Deep.Onto
import Derived.Deep.Slices
namespace Go.Proofs.YtnfdnnmddadmkaaGreatDoor
open Go.RowKit
end Go.Proofs.YtnfdnnmddadmkaaGreatDoor
