/- A system of one's own between two bounds; marks on it; systems that are small. -/
import Derived.Test.YtdigofhceahpdaaGreatDoorNc0
import Derived.Test.YtdigofhceahpdaaGreatDoorNc48
import Derived.Test.YtdigofhceahpdaaGreatDoorNc46
import Derived.Test.YtdigofhceahpdaaGreatDoorNc44
import Derived.Test.YtdigofhceahpdaaGreatDoorNc33
namespace Go.Proofs.YtdigofhceahpdaaGreatDoor
open Go.ChangeShapes Go.WideShapes Go.ChangeAt Go.RowKit Go.Deep
noncomputable def stC (y : Sy) (p f : Int) : Int := if y.okB = true then (if belB p y.pn = true then cmS y p.toNat f else 2) else 1
noncomputable def stY (y : Sy) (p f : Int) : Sy := if y.okB = true then (if belB p y.pn = true then y.step p.toNat f else y) else { y with pn := 0, sn := 0, wn := 0, hn := 0 }
def Own0 (w : World) (B T : Nat) (y : Sy) (vp vs vw vh : Value) : Prop := ∃ c up us uw uh, OwnS w B c y vp vs vw vh up us uw uh ∧ ∀ b, T ≤ b → c b = 0
structure Sy.Sm (y : Sy) : Prop where
 n : y.pn ≤ 16 ∧ y.sn ≤ 16 ∧ y.wn ≤ 16 ∧ y.hn ≤ 16
 p : ∀ i, i < y.pn → y.pL i ≤ 1000
 s : ∀ i, i < y.sn → (y.sS i).rs.length ≤ 1000 ∧ (y.sS i).os.length ≤ 1000
 w : ∀ i, i < y.wn → y.wL i ≤ 1000
 h : ∀ i, i < y.hn → y.hL i ≤ 1000
theorem sumL_bd {L : Nat → Nat} {M : Nat} : ∀ {n : Nat}, (∀ i, i < n → L i ≤ M) → sumL L n ≤ n * M
 | 0, _ => by simp [sumL]
 | n + 1, h => by
  have h1 := sumL_bd fun i hi => h i (Nat.lt_succ_of_lt hi)
  have h2 := h n (Nat.lt_succ_self n)
  show sumL L n + L n ≤ (n + 1) * M
  rw [Nat.add_mul, Nat.one_mul]
  omega
end Go.Proofs.YtdigofhceahpdaaGreatDoor
