/- The one listed variable: what the condition gives a walk, and a world that meets it. -/
import Derived.Test.YthdaejgmfognbaaGreatDoorXd0
import Derived.Test.YthdaejgmfognbaaGreatDoorXd18
import Derived.Test.YthdaejgmfognbaaGreatDoorXd17
import Derived.Test.YthdaejgmfognbaaGreatDoorXd15
import Derived.Test.YthdaejgmfognbaaGreatDoorXd35
import Derived.Test.YthdaejgmfognbaaGreatDoorXd39
import Derived.Lib.QuietBelow
import Derived.Deep.RegionWith
import Derived.Deep.RegionLaw
import Derived.BigQuiet
import Derived.Test.YthdaejgmfognbaaGreatDoorRows
import Derived.Test.YthdaejgmfognbaaGreatDoorTie
import Derived.ChangeSame
import Derived.ChangeVars
import Derived.JoinedOf
import Derived.RowKit
import Derived.RowKitTokens
import Derived.LaidLaws
import Derived.LaidHandle
import Derived.Stop.Joined
namespace Go.Proofs.YthdaejgmfognbaaGreatDoor
open Go.ChangeShapes Go.WideShapes Go.ChangeAt Go.RowKit Go.Deep
def flat (f : Nat -> List Value) : Nat -> List Value
 | 0 => []
 | n + 1 => flat f n ++ f n
section
variable {w : World} {P : Nat -> Prop} {v : Value} {n : Nat} {vs : Nat -> Value} {S : Nat -> S4}
end
def cT (h : I2) : List Value := [.bool h.m, .int .i64 h.v]
def fT (h : Nat -> I2) (n : Nat) : List Value := flat (fun i => cT (h i)) n
def Cl (B : Nat) (c : Nat -> Nat) (i : Nat) : Nat -> Prop := fun k => B <= k /\ c k = i
abbrev LT (z : Bool) (w : World) (P : Nat -> Prop) (v : Value) (n : Nat) (u : Nat -> Value) (L : Nat -> Nat) (H : Nat -> Nat -> I2) : Prop := LL z 144 2 103 w P v n u L fun i => fT (H i) (L i)
open Go.Sort
theorem Sl.all {w : World} {a0 : Option Addr} {xs : List Int} (h : Sl w a0 xs) (hn : 0 < xs.length) : ∃ b off, a0 = some ⟨b, off, none⟩ /\ b < w.heap.size /\ ∀ i, i < xs.length -> w.cell? ⟨b, off + i, none⟩ = some (.int .i64 (zi xs i)) := by
 rcases h with rfl | h
 ·simp at hn
 ·exact h
theorem RowS.all {w : World} {a0 : Option Addr} {n : Nat} {f : Nat -> Value} (h : RowS w a0 n f) (hn : 0 < n) : ∃ b off, a0 = some ⟨b, off, none⟩ /\ b < w.heap.size /\ ∀ i, i < n -> w.cell? ⟨b, off + i, none⟩ = some (f i) := by
 rcases h with rfl | h
 ·omega
 ·exact h
theorem Tryz.et : Tryz.prog.globalNamed "errors.errorType" = some 0 := by kernel_rfl
theorem Tryz.rt : (Tryz.prog.cutTypes.find? (·.1 == "internal/reflectlite.rtype")).map (·.2) = some 266 := by kernel_rfl
theorem Tryz.oneRow : ((List.range 326).filter fun t => Tryz.prog.rowNamed t [101, 114, 114, 111, 114]) = [211] := by kernel_rfl
theorem Tryz.tsize : Tryz.prog.types.size = 326 := by kernel_rfl
theorem handle_of_laid {W : World} (h : laidMetH Tryz.prog [("errors.errorType", Rows.laid_errors_errorType)] W) : W.cell? ⟨0, 0, none⟩ = some (.iface 266 (.agg #[.pointer (some ⟨1, 211, none⟩)])) := by
 have h' : laidMet Tryz.prog [] W /\ handlesMet Tryz.prog [("errors.errorType", Rows.laid_errors_errorType)] W := h
 obtain ⟨name, u, ty, e1, e2, e3, e4, e5⟩ := h'.2 _ (List.mem_singleton.2 rfl)
 have en : name = [101, 114, 114, 111, 114] := (Option.some.inj e1).symm
 subst en
 obtain rfl := Option.some.inj (Tryz.rt.symm.trans e2)
 have hm : ty ∈ (List.range 326).filter fun t => Tryz.prog.rowNamed t [101, 114, 114, 111, 114] := List.mem_filter.2 ⟨List.mem_range.2 (by rw [<- Tryz.tsize]; exact e3), e4⟩
 rw [Tryz.oneRow] at hm
 obtain rfl := List.mem_singleton.1 hm
 have hh : typeHandle Tryz.prog 211 = .pointer (some ⟨1, 211, none⟩) := by kernel_rfl
 rw [hh] at e5
 simpa using World.var?_cell Tryz.et e5 0
noncomputable def laidWorld (os : Os) : World :=
 let w0 := World.holding Tryz.prog os ⟨#[], #[], []⟩
 { w0 with heap := w0.heap.modify 0 fun
   | .cells _ t frozen => .cells #[.iface 266 (.agg #[.pointer (some ⟨1, 211, none⟩)])] t frozen
   | o => o }
theorem laidWorld_met (os : Os) (args : Array Value) : laidMetH Tryz.prog [("errors.errorType", Rows.laid_errors_errorType)] ((laidWorld os).forCall (fun _ _ => 0) ⟨#[], args, []⟩).memory :=
 laidMetH_of_parts (laidMet_nil _ _) (by kernel_rfl)
end Go.Proofs.YthdaejgmfognbaaGreatDoor
