import Derived.Test.YtpehpclhdgpjkaaGreatDoorXe0
import Derived.Test.YtpehpclhdgpjkaaGreatDoorXe18
import Derived.Deep.CutBlock
namespace Go.Proofs.YtpehpclhdgpjkaaGreatDoor
open Go.ChangeShapes Go.WideShapes Go.ChangeAt Go.RowKit Go.Deep
variable {z:Bool}
theorem OwnS.recol {z:Bool} {w:World} {B:Nat} {c:Nat->Nat} {y:Sy} {vp vs vw vh:Value} {up us uw uh:Nat->Value} (o:OwnS z w B c y vp vs vw vh up us uw uh) (q:Nat):OwnS z w B (rcol c w.heap.size q) y vp vs vw vh up us uw uh:=
 ⟨o.p.mono fun _ h hl=>h.old hl,o.s.mono fun _ h hl=>h.old hl,o.t.mono fun _ h hl=>h.old hl,o.h.mono fun _ h hl=>h.old hl⟩
theorem OwnS.setOut {z:Bool} {w:World} {B:Nat} {c:Nat->Nat} {y:Sy} {vp vs vw vh:Value} {up us uw uh:Nat->Value} (o:OwnS z w B c y vp vs vw vh up us uw uh) {N:Nat} (hN:c N=0) (j:Nat) (u:Value):OwnS z (w.setCell ⟨N,j,none⟩ u) B c y vp vs vw vh up us uw uh:=by
 have hk:∀ i,i≠0->∀ k,Cl B c i k->k<w.heap.size->(w.setCell ⟨N,j,none⟩ u).heap[k]? = w.heap[k]?:=fun i hi k hk _=>zN _ _ _ _ fun e=>hi (by rw [<- hk.2,e,hN])
 exact ⟨o.p.keep (hk 1 (by decide)),o.s.keep (hk 2 (by decide)),o.t.keep (hk 3 (by decide)),o.h.keep (hk 4 (by decide))⟩
def Kp (w w':World) (c c':Nat->Nat):Prop:=∀ b,b<w.heap.size->c b=0->w'.heap[b]? = w.heap[b]? /\ c' b=0
def OwnK2 (z:Bool) (w0 w:World) (B:Nat) (c0:Nat->Nat) (y:Sy) (vp vs vw vh:Value) (up:Nat->Value):Prop:=∃ c us uw uh,OwnS z w B c y vp vs vw vh up us uw uh/\Kp w0 w c0 c
theorem OwnS.out4 {zb:Bool} {w w0:World} {B:Nat} {c c0:Nat->Nat} {y z:Sy} {vp vs vw vh:Value} {up us uw uh:Nat->Value} (o:OwnS zb w B c y vp vs vw vh up us uw uh) (kp:Kp w0 w c0 c) {N:Nat} (hN0:w0.heap.size<=N) (hN:c N=0) (e:z=y) (a b d t:Value):
  OwnK2 zb w0 ((((w.setCell ⟨N,0,none⟩ a).setCell ⟨N,1,none⟩ b).setCell ⟨N,2,none⟩ d).setCell ⟨N,3,none⟩ t) B c0 z vp vs vw vh up:=by
 rw [e]
 refine ⟨c,us,uw,uh,(((o.setOut hN 0 a).setOut hN 1 b).setOut hN 2 d).setOut hN 3 t,fun x h1 h2=>⟨?_,(kp x h1 h2).2⟩⟩
 have hx:x≠N:=by omega
 rw [zN _ _ _ _ hx,zN _ _ _ _ hx,zN _ _ _ _ hx,zN _ _ _ _ hx]
 exact (kp x h1 h2).1
