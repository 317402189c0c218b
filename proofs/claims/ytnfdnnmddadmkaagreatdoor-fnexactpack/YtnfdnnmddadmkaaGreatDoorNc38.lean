/- What a step of a system does: its code; what is known of one that is right. -/
import Derived.Test.YtnfdnnmddadmkaaGreatDoorNc0
import Derived.Test.YtnfdnnmddadmkaaGreatDoorNc37
import Derived.Test.YtnfdnnmddadmkaaGreatDoorNc9
import Derived.Test.YtnfdnnmddadmkaaGreatDoorNc10
import Derived.Deep.RegionHeld3
import Derived.Deep.RegionWith
import Derived.Deep.RegionLaw
namespace Go.Proofs.YtnfdnnmddadmkaaGreatDoor
open Go.ChangeShapes Go.WideShapes Go.ChangeAt Go.RowKit Go.Deep
section
variable {B N : Nat} {c : Nat → Nat} {y : Sy} {ks kw : Nat} {wr : World} {vp vs vw vh : Value} {up us uw uh : Nat → Value}
end
def Sy.nk (y : Sy) (p : Nat) : Int := nxK (y.pH p) (y.pL p) (y.sS p).p (y.sS p).rs (y.sS p).os (y.sS p).c
def Sy.nq (y : Sy) (p : Nat) : Int := nxP (y.pH p) (y.pL p) (y.sS p).p (y.sS p).rs (y.sS p).os (y.sS p).c
def Sy.nv (y : Sy) (p : Nat) : Int := nxW (y.pH p) (y.pL p) (y.sS p).p (y.sS p).rs (y.sS p).os (y.sS p).c
theorem rp_okS {g : Nat → I5} {n : Nat} {eh : Nat → E3} (hp : progOkB g n 4 = true) : ∀ k S, rp g n eh k = some S → OkS n S
 | 0, S, h => by
  simp only [rp, Option.some.injEq] at h
  subst h
  exact newS_ok hp
 | k + 1, S, h => by
  simp only [rp] at h
  cases hr : rp g n eh k with
  | none => rw [hr] at h; cases h
  | some S0 =>
   rw [hr] at h
   simp only [Option.bind_some, rpStep] at h
   split at h
   ·rename_i hd
    simp only [Option.some.injEq] at h
    subst h
    exact doS_ok hd
   ·cases h
theorem Sy.Ok.four {y : Sy} (h : y.Ok) {p : Nat} (hp : p < y.pn) : progOkB (y.pH p) (y.pL p) 4 = true := (repO_some (h.rp p hp)).1
theorem Sy.Ok.le200 {y : Sy} (h : y.Ok) {p : Nat} (hp : p < y.pn) : y.hL p ≤ 200 := (repO_some (h.rp p hp)).2.1
theorem Sy.Ok.st {y : Sy} (h : y.Ok) {p : Nat} (hp : p < y.pn) : OkS (y.pL p) (y.sS p) := rp_okS (h.four hp) _ _ (repO_some (h.rp p hp)).2.2
theorem Sy.Ok.way {y : Sy} (h : y.Ok) {a b : Nat} (ha : a < y.pn) (hb : b < y.pn) : y.wL (a * y.pn + b) ≤ 12 := (h.wa a ha b hb).le
end Go.Proofs.YtnfdnnmddadmkaaGreatDoor
