import Derived.Test.YtkdablcbhhphoaaGreatDoorMt6
namespace Go.Proofs.YtkdablcbhhphoaaGreatDoor
open Go.Proofs.Tryz
open Go.RowKit
