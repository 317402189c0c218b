/- Operations taken one behind the other. -/
import Derived.Test.YteggedobbojgoaaGreatDoorBf11
namespace Go.Proofs.YteggedobbojgoaaGreatDoor
open Go.RowKit Go.Deep
section
variable {P:Program} {ops:Array Oper} {Q:Exit->Act->World->Prop} {md:Region.Mode} {S:World->Prop} {G:Nat->Bool}
def wpGT (P : Program) (md : Region.Mode) (ops : Array Oper) (Q : Exit → Act → World → Prop) (S : World → Prop) (G : Nat → Bool) (_ : List Nat) (fuel : Nat) (listed : Array Bool) (a : Act) (w : World) : Prop := wpG P md ops Q S G fuel listed a w
theorem wpGT_of (is : List Nat) {fuel : Nat} {listed : Array Bool} {a : Act} {w : World} (h : wpGT P md ops Q S G is fuel listed a w) : wpG P md ops Q S G fuel listed a w := h
theorem wpGT_nil {fuel : Nat} {listed : Array Bool} {a : Act} {w : World} (h : wpG P md ops Q S G fuel listed a w) : wpGT P md ops Q S G [] fuel listed a w := h
theorem wpGT_take {i : Nat} {is : List Nat} {oi : Oper} {fuel : Nat} {listed : Array Bool} {a : Act} {w : World} (hi0 : ops.toList[i]? = some oi) (hS : S w)
    (h : ∃ v, (∀ w, S w → (execOp a.eval oi).run P w = .ok (.value v) w) ∧ wpGT P md ops Q S G is fuel (listed.setIfInBounds i true) (a.put oi.dst v) w) (hs : Region.noSelect ops = true := by kernel_rfl) (hf : Region.free md ops listed i = true := by kernel_rfl) (hr : (Region.ready md ops listed).contains i = true := by kernel_rfl) (hg : qu8 md ops G listed i = true := by kernel_rfl)
    (hQ : ∀ v c a w, Q (.panic c) (a.put oi.dst v) w → Q (.panic c) a w := by exact fun _ _ _ _ h => h) (hw : Region.wanted oi (yielded ops a.tmps) = true := by rfl) : wpGT P md ops Q S G (i :: is) (fuel + 1) listed a w := qab i hi0 hS h hs hf hr hg hQ hw
end
end Go.Proofs.YteggedobbojgoaaGreatDoor
