import Derived.Test.YtkdablcbhhphoaaGreatDoorMt16
import Derived.Deep.CutBlock
namespace Go.Proofs.YtkdablcbhhphoaaGreatDoor
open Go.Proofs.Tryz
open Go.ChangeShapes Go.WideShapes Go.ChangeAt Go.RowKit Go.Deep
variable {z:Bool}
theorem OwnS.recol {z:Bool} {w:World} {B:Nat} {c:Nat->Nat} {y:Sy} {vp vs vw vh:Value} {up us uw uh:Nat->Value} (o:OwnS z w B c y vp vs vw vh up us uw uh) (q:Nat):OwnS z w B (rcol c w.heap.size q) y vp vs vw vh up us uw uh:=
 ⟨o.p.mono fun _ h hl=>h.old hl,o.s.mono fun _ h hl=>h.old hl,o.t.mono fun _ h hl=>h.old hl,o.h.mono fun _ h hl=>h.old hl⟩
theorem OwnS.setOut {z:Bool} {w:World} {B:Nat} {c:Nat->Nat} {y:Sy} {vp vs vw vh:Value} {up us uw uh:Nat->Value} (o:OwnS z w B c y vp vs vw vh up us uw uh) {N:Nat} (hN:c N=0) (j:Nat) (u:Value):OwnS z (w.setCell ⟨N,j,none⟩ u) B c y vp vs vw vh up us uw uh:=by
 have hk:∀ i,i≠0->∀ k,Cl B c i k->k<w.heap.size->(w.setCell ⟨N,j,none⟩ u).heap[k]? = w.heap[k]?:=fun i hi k hk _=>zN _ _ _ _ fun e=>hi (by rw [<- hk.2,e,hN]);exact ⟨o.p.keep (hk 1 (by decide)),o.s.keep (hk 2 (by decide)),o.t.keep (hk 3 (by decide)),o.h.keep (hk 4 (by decide))⟩
theorem qtn {w:World} {B:Nat} {e:TypeId} {sz:Nat} {u:Value} {n:Nat} {xs:List Value} (o:w.ownsRow B e sz u n xs) (hn:0<n):u≠.slice none 0 0:=fun h=>by
 rcases o.2 with ⟨-,h0⟩ | ⟨g,cap,cur,e2,-⟩
 ·omega
 ·rw [h] at e2
  cases e2
