import Derived.Test.YthdaejgmfognbaaGreatDoorTe0
import Derived.Test.YthdaejgmfognbaaGreatDoorTg43
import Derived.Test.YthdaejgmfognbaaGreatDoorTe29
import Derived.Test.YthdaejgmfognbaaGreatDoorTg48
import Derived.Test.YthdaejgmfognbaaGreatDoorTe35
import Derived.Test.YthdaejgmfognbaaGreatDoorTe36
namespace Go.Proofs.YthdaejgmfognbaaGreatDoor
open Go.RowKit Go.Deep
def Sy.nil (y:Sy):Sy:={ y with pn:=0,sn:=0,wn:=0,hn:=0 }
theorem Sy.Cl.ex {y:Sy} {c:List Int}:∀ (n:Nat) (e:List Int),sm e<=n->y.Cl c e->∃ e',y.Cl c e'/\y.Wh (cN e')
 | n,e,hn,h=>by
  by_cases hw:y.Wh (cN e)
  ·exact ⟨e,h,hw⟩
  ·obtain ⟨a,ha,b,hb,hno⟩:∃ a,a<y.pn/\∃ b,b<y.pn/\¬ tN y (cN e) a b<=sN y (cN e) a b:=by
    apply Classical.byContradiction
    intro hc
    exact hw fun a ha b hb=>Classical.byContradiction fun h'=>hc ⟨a,ha,b,hb,h'⟩
   have ho:0<=ovN y (cN e) a b:=by
    apply Classical.byContradiction
    intro h0
    exact hno (ovN_neg.1 (by omega))
   obtain ⟨h1,h2,h3⟩:=h.next ha hb ho
   have hlt:=sm_set e b _ (by rw [h.len];exact hb) h3 h2
   cases n with
   | zero=>omega
   | succ n=>exact Sy.Cl.ex n _ (by omega) h1
theorem clS_spec {y:Sy} {c:List Int} (h:cutB y c=true):y.Cl c (clS y c)/\y.Wh (cN (clS y c)):=by
 obtain ⟨e,h1,h2⟩:=Sy.Cl.ex (sm c) c (Nat.le_refl _) (Sy.Cl.start (cutB_parts h).2)
 rw [clS_yes h h1 h2]
 exact ⟨h1,h2⟩
theorem cutB_true {y:Sy} {c:List Int} (hO:y.Ok) (hC:y.Cut c):cutB y c=true:=by
 unfold cutB
 rw [Sy.okB_true hO,qB_true hC]
 rfl
theorem clS_cut {y:Sy} {c:List Int} (h:cutB y c=true):y.Cut (clS y c):=(clS_spec h).1.cut (cutB_parts h).2
theorem clS_wh {y:Sy} {c:List Int} (h:cutB y c=true):whB y (clS y c)=true:=by
 unfold whB
 rw [cutB_true (cutB_parts h).1 (clS_cut h),qB_true (clS_spec h).2]
 rfl
theorem OwnSys.weak {z:Bool} {w:World} {B:Nat} {y:Sy} {v:Value} (o:OwnSys z w B y v):OwnSys false w B y v:=by
 obtain ⟨c,vp,vs,vw,vh,up,us,uw,uh,e,o⟩:=o
 exact ⟨c,vp,vs,vw,vh,up,us,uw,uh,e,o.weak⟩
