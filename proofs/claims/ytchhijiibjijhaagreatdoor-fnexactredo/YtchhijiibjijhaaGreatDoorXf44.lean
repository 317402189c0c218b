import Derived.Laws.CopyRow
import Derived.Test.YtchhijiibjijhaaGreatDoorXf43
namespace Go.Proofs.YtchhijiibjijhaaGreatDoor
open Go.ChangeShapes Go.WideShapes Go.ChangeAt Go.RowKit Go.Deep
open Go.Sort
open Go.Maps
