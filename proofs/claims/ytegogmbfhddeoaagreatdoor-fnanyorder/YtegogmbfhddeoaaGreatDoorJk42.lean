import Derived.Test.YtegogmbfhddeoaaGreatDoorJk35
import Derived.Test.YtegogmbfhddeoaaGreatDoorJk41
import Derived.Test.YtegogmbfhddeoaaGreatDoorJk37
namespace Go.Proofs.YtegogmbfhddeoaaGreatDoor
open Go.ChangeShapes Go.WideShapes Go.ChangeAt Go.RowKit Go.Deep Go.Sort
theorem Sy.Sm.len {y:Sy} (h:y.Sm):y.Len:=by
 obtain ⟨h1,h2,h3,h4⟩:=h.n;exact ⟨⟨by omega,fun i hi=>by have:=h.p i hi;omega⟩,⟨by omega,fun i hi=>by have:=h.s i hi;omega⟩,⟨by omega,fun i hi=>by have:=h.w i hi;omega⟩,⟨by omega,fun i hi=>by have:=h.h i hi;omega⟩⟩
