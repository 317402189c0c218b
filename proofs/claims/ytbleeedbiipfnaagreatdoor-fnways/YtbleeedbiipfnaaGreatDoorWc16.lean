/- Lists of lists of events: the walks of the laws' own helpers on them. -/
import Derived.Test.YtbleeedbiipfnaaGreatDoorWc0
import Derived.Test.YtbleeedbiipfnaaGreatDoorWc15
namespace Go.Proofs.YtbleeedbiipfnaaGreatDoor
open Go.ChangeShapes Go.WideShapes Go.ChangeAt Go.RowKit Go.Deep
structure OutIns (w : World) (D hi n : Nat) (ls : Nat → Nat) (bs : Nat → Nat) (h : Nat → Nat → I5) : Prop where
 cel : ∀ i, i < n → w.cell? ⟨D, i, none⟩ = some (.slice (some ⟨bs i, 0, none⟩) (ls i) (ls i))
 bd : ∀ i, i < n → D < bs i ∧ bs i < hi
 row : ∀ i, i < n → InsAt w (bs i) 0 (ls i) (h i)
 fr : ∀ i, i < n → ∀ j, w.frozen? ⟨bs i, j, none⟩ = false
 up : ∀ i j, i < j → j < n → bs i < bs j
 le : hi ≤ w.heap.size
 lt : D < hi
structure FillIns (w : World) (D k : Nat) (f : Nat → Value) (ls : Nat → Nat) (bs : Nat → Nat) (h : Nat → Nat → I5) : Prop where
 cel : ∀ i, i < k → f i = .slice (some ⟨bs i, 0, none⟩) (ls i) (ls i)
 bd : ∀ i, i < k → D < bs i ∧ bs i < w.heap.size
 row : ∀ i, i < k → InsAt w (bs i) 0 (ls i) (h i)
 fr : ∀ i, i < k → ∀ j, w.frozen? ⟨bs i, j, none⟩ = false
 up : ∀ i j, i < j → j < k → bs i < bs j
structure AllIns (W : World) (a0 : Option Addr) (n : Nat) (aa : Nat → Option Addr) (ls cs : Nat → Nat) (h : Nat → Nat → I5) : Prop where
 row : RowS W a0 n fun i => .slice (aa i) (ls i) (cs i)
 cop : ∀ i, i < n → CopiesF W (aa i) (ls i) (cs i) (h i)
structure OutEvent (w : World) (D hi n : Nat) (ls : Nat → Nat) (bs : Nat → Nat) (h : Nat → Nat → E3) : Prop where
 cel : ∀ i, i < n → w.cell? ⟨D, i, none⟩ = some (.slice (some ⟨bs i, 0, none⟩) (ls i) (ls i))
 bd : ∀ i, i < n → D < bs i ∧ bs i < hi
 row : ∀ i, i < n → EvAt w (bs i) 0 (ls i) (h i)
 fr : ∀ i, i < n → ∀ j, w.frozen? ⟨bs i, j, none⟩ = false
 up : ∀ i j, i < j → j < n → bs i < bs j
 le : hi ≤ w.heap.size
 lt : D < hi
structure FillEvent (w : World) (D k : Nat) (f : Nat → Value) (ls : Nat → Nat) (bs : Nat → Nat) (h : Nat → Nat → E3) : Prop where
 cel : ∀ i, i < k → f i = .slice (some ⟨bs i, 0, none⟩) (ls i) (ls i)
 bd : ∀ i, i < k → D < bs i ∧ bs i < w.heap.size
 row : ∀ i, i < k → EvAt w (bs i) 0 (ls i) (h i)
 fr : ∀ i, i < k → ∀ j, w.frozen? ⟨bs i, j, none⟩ = false
 up : ∀ i j, i < j → j < k → bs i < bs j
structure AllEvent (W : World) (a0 : Option Addr) (n : Nat) (aa : Nat → Option Addr) (ls cs : Nat → Nat) (h : Nat → Nat → E3) : Prop where
 row : RowS W a0 n fun i => .slice (aa i) (ls i) (cs i)
 cop : ∀ i, i < n → CopiesE W (aa i) (ls i) (cs i) (h i)
end Go.Proofs.YtbleeedbiipfnaaGreatDoor
