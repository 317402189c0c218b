/- What came in, opened: lists of places, lists of ints, states, events; and the law's own copies of them. -/
import Derived.Test.YtcplnkhdclcgfaaGreatDoorSd0
import Derived.Test.YtcplnkhdclcgfaaGreatDoorSd10
import Derived.Deep.OwnRows
import Derived.Deep.RegionWith
import Derived.Test.YtcplnkhdclcgfaaGreatDoorSd7
import Derived.ProofKit
import Derived.OpenShut
import Derived.ShutString
import Derived.ChangeOld
import Derived.Below
import Derived.Deep.Slices
namespace Go.Proofs.YtcplnkhdclcgfaaGreatDoor
open Go.RowKit Go.Deep
def Filled (f : Nat -> Value) (g : Nat -> I5) (k : Nat) : Prop := ∀ i, i < k ->
 f (i * 5) = .int .i64 (g i).o /\ f (i * 5 + 1) = .int .i64 (g i).r /\ f (i * 5 + 2) = .int .i64 (g i).a /\ f (i * 5 + 3) = .int .i64 (g i).b /\ f (i * 5 + 4) = .int .i64 (g i).n
open Go.ChangeShapes Go.WideShapes Go.ChangeAt
theorem Tryz.own : ownKnob Tryz.prog.godebug = none := by kernel_rfl
theorem Tryz.laidOut : laidOutB Tryz.prog = true := by kernel_rfl
theorem cell_lt {w : World} {p : Addr} {v : Value} (h : w.cell? p = some v) : p.block < w.heap.size := zJ w p h
def Copies (w : World) (a0 : Option Addr) (len cap : Nat) (g : Nat -> I5) : Prop := ∀ wx, Below w.heap.size w wx ->
 Calls Tryz.prog 141 #[.slice a0 len cap] wx fun e w' => e = .returned (.slice (some ⟨wx.heap.size, 0, none⟩) len len) /\ InsAt w' wx.heap.size 0 len g /\ wx.heap.size < w'.heap.size /\ Below wx.heap.size wx w'
end Go.Proofs.YtcplnkhdclcgfaaGreatDoor
