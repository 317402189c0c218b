import Derived.Test.YthdaejgmfognbaaGreatDoorTe0
import Derived.Test.YthdaejgmfognbaaGreatDoorTg43
import Derived.Test.YthdaejgmfognbaaGreatDoorTe33
import Derived.Deep.RegionWith
import Derived.Deep.RegionLaw
import Derived.BigQuiet
namespace Go.Proofs.YthdaejgmfognbaaGreatDoor
set_option maxRecDepth 100000
set_option maxHeartbeats 1000000
open Go.ChangeShapes Go.WideShapes Go.ChangeAt Go.RowKit Go.Deep Go.Sort
theorem specCutOk_any (x:SysIn) (ca:Option Addr) (cc:Nat) (c:List Int) (w:World) (hG:SysG w x) (hL:x.Len) (hcap:∀ i,i<x.hn->x.hL i<=x.hC i) (hc:Sl w ca c) (hcl:c.length<=1048576):
  Calls Tryz.prog 14 #[x.v,.slice ca c.length cc] w fun e w'=>e=.returned (.bool (cutB x.y c))/\Below w.heap.size w w':=by
 have HS:Hid (∀ wx,Below w.heap.size w wx->Calls Tryz.prog 20 #[x.v] wx fun e w'=>e=.returned (.bool x.y.okB)/\Below wx.heap.size wx w'):=fun wx hb=>specSysOk_any x wx (hG.below hb) hL hcap
 have HU:Hid (x.y.okB=true->∀ wx,Below w.heap.size w wx->Calls Tryz.prog 45 #[x.v,.slice ca c.length cc] wx fun e w'=>e=.returned (.bool (qB (x.y.Cut c)))/\Below wx.heap.size wx w'):=fun t wx hb=>l8Cut_any x ca cc c wx (hG.below hb) hL (Sy.ok_of t).cn.2.2.1 (hc.below hb) hcl
 have BW:Hid (Below w.heap.size w (w.alloc (oQ4 x.pa x.pn x.pc x.sa x.sn x.sc x.wa x.wn x.wc x.ha x.hn x.hc))):=zT _ _
 have NB:Hid (BoxC (w.alloc (oQ4 x.pa x.pn x.pc x.sa x.sn x.sc x.wa x.wn x.wc x.ha x.hn x.hc)) w.heap.size (.slice x.pa x.pn x.pc) (.slice x.sa x.sn x.sc) (.slice x.wa x.wn x.wc) (.slice x.ha x.hn x.hc)):=BoxC.new w _ _ _ _ _
 have HX:Hid (cutB x.y c=(x.y.okB && qB (x.y.Cut c))):=rfl
 generalize cutB x.y c=R at *
 clear hG hL hcap hc
 go_enter Tryz.func14,Tryz.ntmps14
 go_wp2_with fail
 generalize w.alloc (oQ4 x.pa x.pn x.pc x.sa x.sn x.sc x.wa x.wn x.wc x.ha x.hn x.hc)=W2 at *
 refine (HS.out W2 BW.out).mono ?_
 rintro e w1 ⟨rfl,q1⟩
 have B1:Hid (Below w.heap.size w w1/\BoxC w1 w.heap.size (.slice x.pa x.pn x.pc) (.slice x.sa x.sn x.sc) (.slice x.wa x.wn x.wc) (.slice x.ha x.hn x.hc)):=⟨BW.out.trans (q1.mono BW.out.size),NB.out.below q1⟩
 clear q1 BW NB HS
 rcases zK x.y.okB with t | t
 case inr=>
  have HV:Hid (R=false):=by
   show R=false
   rw [HX.out,t]
   rfl
  rw [t]
  clear t HU HX
  go_wp2
  go_ret
  rw [HV.out]
  exact ⟨rfl,B1.out.1⟩
 have HV:Hid (R=qB (x.y.Cut c)):=by
  show R=_
  rw [HX.out,t]
  rfl
 have HU':Hid (∀ wx,Below w.heap.size w wx->Calls Tryz.prog 45 #[x.v,.slice ca c.length cc] wx fun e w'=>e=.returned (.bool (qB (x.y.Cut c)))/\Below wx.heap.size wx w'):=HU.out t
 rw [t]
 clear t HX HU
 obtain ⟨b0,b1,b2,b3⟩:=B1.out.2
 go_wp2_with fail
 refine (HU'.out w1 B1.out.1).mono ?_
 rintro e w2 ⟨rfl,q2⟩
 have B2:Hid (Below w.heap.size w w2):=B1.out.1.trans (q2.mono B1.out.1.size)
 rw [<- HV.out]
 clear q2 b0 b1 b2 b3 B1 HU' HV
 go_wp2
 go_ret
 exact ⟨rfl,B2.out⟩
