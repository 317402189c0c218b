/- The walks of l1New, l1DrawIns and l1Spoil: some place is drawn, and nothing else is written than the cursor. -/
import Derived.Test.YtnfdnnmddadmkaaGreatDoorNc0
import Derived.Test.YtnfdnnmddadmkaaGreatDoorNc12
import Derived.Test.YtnfdnnmddadmkaaGreatDoorNc2
namespace Go.Proofs.YtnfdnnmddadmkaaGreatDoor
open Go.RowKit
end Go.Proofs.YtnfdnnmddadmkaaGreatDoor
