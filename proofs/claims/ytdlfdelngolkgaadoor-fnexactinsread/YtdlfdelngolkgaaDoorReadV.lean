/- The model's InsRead, whatever the line. -/
import Derived.Test.YtdlfdelngolkgaaDoorReadU1
import Derived.Test.YtdlfdelngolkgaaDoorReadU2
import Derived.Test.YtdlfdelngolkgaaDoorReadU3
import Derived.Test.YtdlfdelngolkgaaDoorReadU4
namespace Go.Proofs.YtdlfdelngolkgaaDoor
open Go.RowKit

theorem specInsRead_any (s : ByteArray) (w : World) (hs : s.size ≤ 1048576) :
    Calls Tryd.prog 12 #[.string s] w fun e w' => ReadR s e ∧ Below w.heap.size w w' := by
  have h := opTo_range (wd s 0) 12 (Nat.le_refl _)
  have ho : opTo (wd s 0) 12 = 0 ∨ opTo (wd s 0) 12 = 1 ∨ opTo (wd s 0) 12 = 2 ∨ opTo (wd s 0) 12 = 3 ∨ opTo (wd s 0) 12 = 4 ∨ opTo (wd s 0) 12 = 5 ∨ opTo (wd s 0) 12 = 6 ∨ opTo (wd s 0) 12 = 7 ∨ opTo (wd s 0) 12 = 8 ∨ opTo (wd s 0) 12 = 9 ∨ opTo (wd s 0) 12 = 10 ∨ opTo (wd s 0) 12 = 11 := by omega
  rcases ho with ho | ho | ho | ho | ho | ho | ho | ho | ho | ho | ho | ho
  · exact specInsRead_0 s w hs ho
  · exact specInsRead_1 s w hs ho
  · exact specInsRead_2 s w hs ho
  · exact specInsRead_3 s w hs ho
  · exact specInsRead_4 s w hs ho
  · exact specInsRead_5 s w hs ho
  · exact specInsRead_6 s w hs ho
  · exact specInsRead_7 s w hs ho
  · exact specInsRead_8 s w hs ho
  · exact specInsRead_9 s w hs ho
  · exact specInsRead_10 s w hs ho
  · exact specInsRead_11 s w hs ho

end Go.Proofs.YtdlfdelngolkgaaDoor
