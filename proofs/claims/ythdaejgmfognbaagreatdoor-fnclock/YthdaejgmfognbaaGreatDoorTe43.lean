import Derived.Test.YthdaejgmfognbaaGreatDoorTe0
import Derived.Test.YthdaejgmfognbaaGreatDoorTe34
import Derived.Test.YthdaejgmfognbaaGreatDoorTe29
import Derived.Test.YthdaejgmfognbaaGreatDoorTe22
import Derived.Lib.QuietBelow
import Derived.Deep.RegionWith
import Derived.Deep.RegionLaw
import Derived.BigQuiet
import Derived.Test.YthdaejgmfognbaaGreatDoorTe42
import Derived.Test.YthdaejgmfognbaaGreatDoorTe21
import Derived.Test.YthdaejgmfognbaaGreatDoorTe28
import Derived.Deep.LoopGhost
import Derived.Test.YthdaejgmfognbaaGreatDoorTe41
import Derived.Laws.IdiomCopy
import Derived.Test.YthdaejgmfognbaaGreatDoorTe10
import Derived.Test.YthdaejgmfognbaaGreatDoorTe24
namespace Go.Proofs.YthdaejgmfognbaaGreatDoor
set_option maxRecDepth 100000
set_option maxHeartbeats 16000000
open Go.ChangeShapes Go.WideShapes Go.ChangeAt Go.RowKit Go.Deep Go.Sort
theorem Sl.all {w:World} {a0:Option Addr} {xs:List Int} (h:Sl w a0 xs) (hn:0<xs.length):∃ b off,a0=some ⟨b,off,none⟩/\b<w.heap.size/\∀ i,i<xs.length->w.cell? ⟨b,off+i,none⟩=some (.int .i64 (zi xs i)):=by
 rcases h with rfl | h
 ·simp at hn
 ·exact h
theorem RowS.all {w:World} {a0:Option Addr} {n:Nat} {f:Nat->Value} (h:RowS w a0 n f) (hn:0<n):∃ b off,a0=some ⟨b,off,none⟩/\b<w.heap.size/\∀ i,i<n->w.cell? ⟨b,off+i,none⟩=some (f i):=by
 rcases h with rfl | h
 ·omega
 ·exact h
theorem BoxC.belowB {w w':World} {b:Nat} {v0 v1 v2 v3:Value} {B:Nat} (h:BoxC w b v0 v1 v2 v3) (hb:Below B w w') (hB:b<B):BoxC w' b v0 v1 v2 v3:=by
 obtain ⟨h0,h1,h2,h3⟩:=h
 exact ⟨(hb.cell (p:=⟨b,0,none⟩) hB).trans h0,(hb.cell (p:=⟨b,1,none⟩) hB).trans h1,(hb.cell (p:=⟨b,2,none⟩) hB).trans h2,(hb.cell (p:=⟨b,3,none⟩) hB).trans h3⟩
theorem Sy.Cut.nat {y:Sy} {c:List Int} (h:y.Cut c) {p:Nat} (hp:p<y.pn):zi c p=(cN c p:Nat):=by
 have:=h.le p hp
 unfold cN
 omega
theorem Sy.Cut.leN {y:Sy} {c:List Int} (h:y.Cut c) {p:Nat} (hp:p<y.pn):cN c p<=y.hL p:=by
 have:=h.le p hp
 unfold cN
 omega
theorem l8Cut_any (x:SysIn) (ca:Option Addr) (cc:Nat) (c:List Int) (w:World) (hG:SysG w x) (hL:x.Len) (hhn:x.hn=x.pn) (hc:Sl w ca c) (hcl:c.length<=1048576):
  Calls Tryz.prog 45 #[x.v,.slice ca c.length cc] w fun e w'=>e=.returned (.bool (qB (x.y.Cut c)))/\Below w.heap.size w w':=by
 have HG:Hid (SysG w x):=hG
 have HC:Hid (Sl w ca c):=hc
 have hl':(c.length:Int)<=1048576:=by omega
 have hp':(x.pn:Int)<=1048576:=by have:=hL.p.1;omega
 have HLh:Hid (∀ i,i<x.hn->x.hL i<=1048576):=hL.h.2
 have HN:Hid (x.hn=x.pn):=hhn
 have BW:Hid (Below w.heap.size w (w.alloc (oQ4 x.pa x.pn x.pc x.sa x.sn x.sc x.wa x.wn x.wc x.ha x.hn x.hc))):=zT _ _
 have NB:Hid (BoxC (w.alloc (oQ4 x.pa x.pn x.pc x.sa x.sn x.sc x.wa x.wn x.wc x.ha x.hn x.hc)) w.heap.size (.slice x.pa x.pn x.pc) (.slice x.sa x.sn x.sc) (.slice x.wa x.wn x.wc) (.slice x.ha x.hn x.hc)):=BoxC.new w _ _ _ _ _
 clear hG hL hc hhn
 rcases zK ((c.length:Int) != (x.pn:Int)) with t | t
 case inl=>
  have HV:Hid (qB (x.y.Cut c)=false):=qB_false fun h=>by
   have h1:c.length=x.pn:=h.len
   rw [h1] at t
   simp at t
  go_enter Tryz.func45,Tryz.ntmps45
  go_upto_region 1 with fail
  generalize w.alloc (oQ4 x.pa x.pn x.pc x.sa x.sn x.sc x.wa x.wn x.wc x.ha x.hn x.hc)=W2 at *
  obtain ⟨b0,-,-,-⟩:=NB.out
  go_wp2
  go_ret
  rw [HV.out]
  exact ⟨rfl,BW.out⟩
 have HQ:Hid (c.length=x.pn):=by
  have h:(c.length:Int)=(x.pn:Int):=by simpa using t
  show c.length=x.pn
  omega
 go_enter Tryz.func45,Tryz.ntmps45
 go_upto_region 1 with fail
 generalize w.alloc (oQ4 x.pa x.pn x.pc x.sa x.sn x.sc x.wa x.wn x.wc x.ha x.hn x.hc)=W2 at *
 obtain ⟨b0,-,-,-⟩:=NB.out
 go_wp2_with fail
 clear b0 t
 go_loopw [5] (fun i wr=>∃ k:Nat,k<=c.length/\i=.int .i64 k/\Hid (Below w.heap.size w wr/\BoxC wr w.heap.size (.slice x.pa x.pn x.pc) (.slice x.sa x.sn x.sc) (.slice x.wa x.wn x.wc) (.slice x.ha x.hn x.hc))/\Hid (∀ j,j<k->0<=zi c j/\zi c j<=(x.hL j:Int))) (fun i _=>c.length - (intOf i).toNat)
 case atStart=>exact ⟨0,Nat.zero_le _,rfl,⟨BW.out,NB.out⟩,fun j hj=>by omega⟩
 case round=>
  clear BW NB
  obtain ⟨k,hk,rfl,HB,HK⟩:=hrel
  by_cases hlt:k<c.length
  ·have hlt':(k:Int)<(c.length:Int):=by omega
   have hkn:k<x.hn:=by have:=HQ.out;have:=HN.out;omega
   have hkn':(k:Int)<(x.hn:Int):=by omega
   obtain ⟨cb,co,rfl,-,c0⟩:=(HC.out.below HB.out.1).at hlt
   obtain ⟨bh,oh,eh,ch⟩:=(HG.out.below HB.out.1).h.at hkn
   have b3:=HB.out.2.2.2.2
   rw [eh] at b3
   clear eh
   have HZ:Hid (inB (zi c k) 0 (x.hL k)=true ↔ (0<=zi c k/\zi c k<=(x.hL k:Int))):=by
    show _ ↔ _
    simp [inB]
   generalize hZ:zi c k=Z at *
   have HX:Hid (zi c k=Z):=hZ
   clear hZ
   have q0:=cell_regrown c0
   have qh:=cell_regrown ch
   have q3:=cell_regrown b3
   go_upto_region 6 with fail
   clear c0 ch b3
   refine wp_region_quiet_below (by kernel_rfl) (by kernel_rfl) ?_
   repeat (quiet_step (first|(go_at_call 57;exact Calls.regrown_same (l1In_any _ _ _ _))))
   refine wpQuiet_nil ?_
   intro _ hw'
   obtain ⟨⟨dd,os⟩,hw''⟩:=hw'
   subst hw''
   have B3:Hid (Below w.heap.size w (grow (redrawn wr dd) os)/\BoxC (grow (redrawn wr dd) os) w.heap.size (.slice x.pa x.pn x.pc) (.slice x.sa x.sn x.sc) (.slice x.wa x.wn x.wc) (.slice x.ha x.hn x.hc)):=⟨HB.out.1.trans ((below_regrown wr dd os).mono HB.out.1.size),HB.out.2.below (below_regrown wr dd os)⟩
   generalize grow (redrawn wr dd) os=w3 at *
   clear q0 qh q3 HB
   generalize inB Z 0 (x.hL k)=T at *
   cases T with
   | false=>
    have HV:Hid (qB (x.y.Cut c)=false):=qB_false fun h=>by
     have h1:=h.le k (by have:=HQ.out;show k<x.pn;omega)
     exact absurd (HZ.out.2 (HX.out ▸ h1)) (by decide)
    go_wp2
    go_ret
    rw [HV.out]
    exact ⟨rfl,B3.out.1⟩
   | true=>
    have HK':Hid (∀ j,j<k+1->0<=zi c j/\zi c j<=(x.hL j:Int)):=fun j hj=>by
     by_cases e:j=k
     ·subst e
      rw [HX.out]
      exact HZ.out.1 rfl
     ·exact HK.out j (by omega)
    clear HK HZ
    go_wp2
    go_roundw
    case rel=>exact ⟨k+1,by omega,by go_num,B3.out,HK'.out⟩
    case measure=>simp [intOf];omega
  ·have HV:Hid (qB (x.y.Cut c)=true):=qB_true ⟨HQ.out,fun p hp=>HK.out p (by have:=HQ.out;have h1:p<x.pn:=hp;omega)⟩
   have B3:=HB.out.1
   clear HK HB
   go_wp2
   go_ret
   rw [HV.out]
   exact ⟨rfl,B3⟩
theorem l8Over_any (x:SysIn) (ca:Option Addr) (cc:Nat) (c:List Int) (a b:Nat) (w:World) (hG:SysG w x) (hcap:∀ i,i<x.hn->x.hL i<=x.hC i) (hO:x.y.Ok) (hC:x.y.Cut c) (hc:Sl w ca c) (ha:a<x.pn) (hb:b<x.pn):
  Calls Tryz.prog 94 #[x.v,.slice ca c.length cc,.int .i64 a,.int .i64 b] w fun e w'=>e=.returned (.int .i64 (ovN x.y (cN c) a b))/\Below w.heap.size w w':=by
 have hhn:x.hn=x.pn:=hO.cn.2.2.1
 have hah:a<x.hn:=by omega
 have hbh:b<x.hn:=by omega
 have hla:x.hL a<=200:=hO.hl200 ha
 have hlb:x.hL b<=200:=hO.hl200 hb
 have hka:cN c a<=x.hL a:=hC.leN ha
 have hkb:cN c b<=x.hL b:=hC.leN hb
 have eza:=hC.nat (p:=a) ha
 have ezb:=hC.nat (p:=b) hb
 have hcl:c.length=x.pn:=hC.len
 have hcpa:=hcap a hah
 have hcpb:=hcap b hbh
 have HG:Hid (SysG w x):=hG
 have HSl:Hid (Sl w ca c):=hc
 have hac:(a:Int)<(c.length:Int):=by omega
 have hbc:(b:Int)<(c.length:Int):=by omega
 have ha':(a:Int)<(x.hn:Int):=by omega
 have hb':(b:Int)<(x.hn:Int):=by omega
 have HNo:Hid (tN x.y (cN c) a b<=sN x.y (cN c) a b->ovN x.y (cN c) a b = -1):=ovN_no
 have HYes:Hid (¬ tN x.y (cN c) a b<=sN x.y (cN c) a b->nthV (x.hH b) 3 a (x.hL b) (sN x.y (cN c) a b:Nat)=ovN x.y (cN c) a b):=fun h=>ovN_full h hkb
 have hsl:sN x.y (cN c) a b<=200:=zP (cnt_le _ _ _ _) (by omega)
 have htl:tN x.y (cN c) a b<=200:=zP (cnt_le _ _ _ _) (by omega)
 have ka:=slice_to (x.hA a) (x.hL a) (x.hC a) (cN c a) (by omega)
 have kb:=slice_to (x.hA b) (x.hL b) (x.hC b) (cN c b) (by omega)
 have HC1:Hid (∀ wx,Below w.heap.size w wx->Calls Tryz.prog 115 #[.slice (x.hA a) (cN c a) (x.hC a),.int .i64 2,.int .i64 b] wx fun e w'=>e=.returned (.int .i64 (sN x.y (cN c) a b:Nat))/\Below wx.heap.size wx w'):=fun wx hb=>specCount_l (x.hA a) (cN c a) (x.hC a) (x.hH a) 2 b wx (by omega) (((hG.below hb).hi a hah).take (by omega))
 have HC2:Hid (∀ wx,Below w.heap.size w wx->Calls Tryz.prog 115 #[.slice (x.hA b) (cN c b) (x.hC b),.int .i64 3,.int .i64 a] wx fun e w'=>e=.returned (.int .i64 (tN x.y (cN c) a b:Nat))/\Below wx.heap.size wx w'):=fun wx hb=>specCount_l (x.hA b) (cN c b) (x.hC b) (x.hH b) 3 a wx (by omega) (((hG.below hb).hi b hbh).take (by omega))
 have HNt:Hid (∀ wx,Below w.heap.size w wx->Calls Tryz.prog 121 #[.slice (x.hA b) (x.hL b) (x.hC b),.int .i64 3,.int .i64 a,.int .i64 (sN x.y (cN c) a b:Nat)] wx fun e w'=>e=.returned (.int .i64 (nthV (x.hH b) 3 a (x.hL b) (sN x.y (cN c) a b:Nat)))/\Below wx.heap.size wx w'):=fun wx hb=>specNth_l (x.hA b) (x.hL b) (x.hC b) (x.hH b) 3 a _ wx (by omega) ((hG.below hb).hi b hbh) (by omega) (by omega)
 generalize sN x.y (cN c) a b=sn at *
 generalize tN x.y (cN c) a b=tn at *
 generalize ovN x.y (cN c) a b=ov at *
 generalize nthV (x.hH b) 3 a (x.hL b) (sn:Nat)=nv at *
 have HR:Hid (a<c.length/\b<c.length/\a<x.hn/\b<x.hn/\zi c a=(cN c a:Nat)/\zi c b=(cN c b:Nat)):=⟨by omega,by omega,hah,hbh,eza,ezb⟩
 have BW:Hid (Below w.heap.size w (w.alloc (oQ4 x.pa x.pn x.pc x.sa x.sn x.sc x.wa x.wn x.wc x.ha x.hn x.hc))):=zT _ _
 have NB:Hid (BoxC (w.alloc (oQ4 x.pa x.pn x.pc x.sa x.sn x.sc x.wa x.wn x.wc x.ha x.hn x.hc)) w.heap.size (.slice x.pa x.pn x.pc) (.slice x.sa x.sn x.sc) (.slice x.wa x.wn x.wc) (.slice x.ha x.hn x.hc)):=BoxC.new w _ _ _ _ _
 have hsl':(sn:Int)<=200:=by omega
 have htl':(tn:Int)<=200:=by omega
 clear hG hcap hO hC hc hhn hah hbh hcl eza ezb hcpa hcpb
 obtain ⟨cb,co,rfl,-,-⟩:=HSl.out.all (by have:=HR.out;omega)
 have HSc:Hid (∀ wx,Below w.heap.size w wx->∀ i,i<c.length->wx.cell? ⟨cb,co+i,none⟩=some (.int .i64 (zi c i))):=fun wx hb i hi=>by
  obtain ⟨b',o',e,-,h⟩:=(HSl.out.below hb).at hi
  simp only [Option.some.injEq,Addr.mk.injEq] at e
  obtain ⟨rfl,rfl,-⟩:=e
  exact h
 have HRow:Hid (∃ hb ho,x.ha=some ⟨hb,ho,none⟩/\∀ wx,Below w.heap.size w wx->∀ i,i<x.hn->wx.cell? ⟨hb,ho+i,none⟩=some (.slice (x.hA i) (x.hL i) (x.hC i))):=by
  obtain ⟨b1,o1,e1,-,-⟩:=HG.out.h.all (by have:=HR.out;omega)
  refine ⟨b1,o1,e1,fun wx hb i hi=>?_⟩
  obtain ⟨b',o',e,h⟩:=(HG.out.below hb).h.at hi
  rw [e1] at e
  simp only [Option.some.injEq,Addr.mk.injEq] at e
  obtain ⟨rfl,rfl,-⟩:=e
  exact h
 obtain ⟨hbb,hoo,ehh,hrow⟩:=HRow.out
 have HRw:Hid (∀ wx,Below w.heap.size w wx->∀ i,i<x.hn->wx.cell? ⟨hbb,hoo+i,none⟩=some (.slice (x.hA i) (x.hL i) (x.hC i))):=hrow
 have HE:Hid (x.ha=some ⟨hbb,hoo,none⟩):=ehh
 clear HRow hrow ehh
 go_enter Tryz.func94,Tryz.ntmps94
 go_upto_region 1 with fail
 generalize w.alloc (oQ4 x.pa x.pn x.pc x.sa x.sn x.sc x.wa x.wn x.wc x.ha x.hn x.hc)=W2 at *
 have b3:=NB.out.2.2.2
 rw [HE.out] at b3
 have q3:=cell_regrown b3
 have qa:=cell_regrown (HRw.out W2 BW.out a HR.out.2.2.1)
 have qc:=cell_regrown ((HSc.out W2 BW.out a HR.out.1).trans (by rw [HR.out.2.2.2.2.1]))
 have HQ2:Hid (∀ d os,Below w.heap.size w (grow (redrawn W2 d) os)):=fun d os=>BW.out.trans ((below_regrown W2 d os).mono BW.out.size)
 clear b3
 refine wp_region_quiet_below (by kernel_rfl) (by kernel_rfl) ?_
 repeat (quiet_step (first|(go_at_call 115;exact Calls.regrown_of (HC1.out _ (HQ2.out _ _)))))
 refine wpQuiet_nil ?_
 intro _ hw'
 obtain ⟨⟨dd,os⟩,hw''⟩:=hw'
 subst hw''
 have B3:Hid (Below w.heap.size w (grow (redrawn W2 dd) os)/\BoxC (grow (redrawn W2 dd) os) w.heap.size (.slice x.pa x.pn x.pc) (.slice x.sa x.sn x.sc) (.slice x.wa x.wn x.wc) (.slice x.ha x.hn x.hc)):=⟨HQ2.out dd os,NB.out.below (below_regrown W2 dd os)⟩
 generalize grow (redrawn W2 dd) os=w3 at *
 clear q3 qa qc HQ2 BW NB HC1 ka
 have b3:=B3.out.2.2.2.2
 rw [HE.out] at b3
 have q3:=cell_regrown b3
 have qa:=cell_regrown (HRw.out w3 B3.out.1 b HR.out.2.2.2.1)
 have qc:=cell_regrown ((HSc.out w3 B3.out.1 b HR.out.2.1).trans (by rw [HR.out.2.2.2.2.2]))
 have HQ2:Hid (∀ d os,Below w.heap.size w (grow (redrawn w3 d) os)):=fun d os=>B3.out.1.trans ((below_regrown w3 d os).mono B3.out.1.size)
 clear b3
 go_upto_region 2 with fail
 refine wp_region_quiet_below (by kernel_rfl) (by kernel_rfl) ?_
 repeat (quiet_step (first|(go_at_call 115;exact Calls.regrown_of (HC2.out _ (HQ2.out _ _)))))
 refine wpQuiet_nil ?_
 intro _ hw'
 obtain ⟨⟨dd,os⟩,hw''⟩:=hw'
 subst hw''
 have B4:Hid (Below w.heap.size w (grow (redrawn w3 dd) os)/\BoxC (grow (redrawn w3 dd) os) w.heap.size (.slice x.pa x.pn x.pc) (.slice x.sa x.sn x.sc) (.slice x.wa x.wn x.wc) (.slice x.ha x.hn x.hc)):=⟨HQ2.out dd os,B3.out.2.below (below_regrown w3 dd os)⟩
 generalize grow (redrawn w3 dd) os=w4 at *
 clear q3 qa qc HQ2 B3 HC2 kb
 by_cases hts:tn<=sn
 ·have hts':(tn:Int)<=(sn:Int):=by omega
  have HV:=HNo.out hts
  clear HNo HYes
  go_wp2
  go_ret
  exact ⟨ret_int HV.symm,B4.out.1⟩
 ·have hts':¬ (tn:Int)<=(sn:Int):=by omega
  have HV:Hid (nv=ov):=HYes.out hts
  clear HNo HYes
  have b3:=B4.out.2.2.2.2
  rw [HE.out] at b3
  have qa:=HRw.out w4 B4.out.1 b HR.out.2.2.2.1
  go_wp2_with fail
  refine (HNt.out w4 B4.out.1).mono ?_
  rintro e w5 ⟨rfl,q5⟩
  have B5:Hid (Below w.heap.size w w5):=B4.out.1.trans (q5.mono B4.out.1.size)
  rw [HV.out]
  clear q5 b3 qa B4 HNt HV
  go_wp2
  go_ret
  exact ⟨rfl,B5.out⟩
theorem l8Whole_any (x:SysIn) (ca:Option Addr) (cc:Nat) (c:List Int) (w:World) (hG:SysG w x) (hcap:∀ i,i<x.hn->x.hL i<=x.hC i) (hO:x.y.Ok) (hC:x.y.Cut c) (hc:Sl w ca c):
  Calls Tryz.prog 93 #[x.v,.slice ca c.length cc] w fun e w'=>e=.returned (.bool (qB (x.y.Wh (cN c))))/\Below w.heap.size w w':=by
 have hcl:c.length=x.pn:=hC.len
 have h4:x.pn<=4:=hO.cn.1.2
 have hl':(c.length:Int)<=4:=by omega
 have HQ:Hid (c.length=x.pn):=hcl
 have HOv:Hid (∀ wx,Below w.heap.size w wx->∀ a b,a<c.length->b<c.length->Calls Tryz.prog 94 #[x.v,.slice ca c.length cc,.int .i64 (a:Nat),.int .i64 (b:Nat)] wx fun e w'=>e=.returned (.int .i64 (ovN x.y (cN c) a b))/\Below wx.heap.size wx w'):=fun wx hb a b ha hb'=>l8Over_any x ca cc c a b wx (hG.below hb) hcap hO hC (hc.below hb) (by omega) (by omega)
 have BW:Hid (Below w.heap.size w (w.alloc (oQ4 x.pa x.pn x.pc x.sa x.sn x.sc x.wa x.wn x.wc x.ha x.hn x.hc))):=zT _ _
 have NB:Hid (BoxC (w.alloc (oQ4 x.pa x.pn x.pc x.sa x.sn x.sc x.wa x.wn x.wc x.ha x.hn x.hc)) w.heap.size (.slice x.pa x.pn x.pc) (.slice x.sa x.sn x.sc) (.slice x.wa x.wn x.wc) (.slice x.ha x.hn x.hc)):=BoxC.new w _ _ _ _ _
 clear hG hcap hO hC hc hcl h4
 go_enter Tryz.func93,Tryz.ntmps93
 go_upto_region 1 with fail
 generalize w.alloc (oQ4 x.pa x.pn x.pc x.sa x.sn x.sc x.wa x.wn x.wc x.ha x.hn x.hc)=W2 at *
 go_wp2_with fail
 go_loopw [5] (fun i wr=>∃ k:Nat,k<=c.length/\i=.int .i64 k/\Hid (Below w.heap.size w wr/\BoxC wr w.heap.size (.slice x.pa x.pn x.pc) (.slice x.sa x.sn x.sc) (.slice x.wa x.wn x.wc) (.slice x.ha x.hn x.hc))/\Hid (∀ a,a<k->∀ b,b<c.length->tN x.y (cN c) a b<=sN x.y (cN c) a b)) (fun i _=>c.length - (intOf i).toNat)
 case atStart=>exact ⟨0,Nat.zero_le _,rfl,⟨BW.out,NB.out⟩,fun j hj=>by omega⟩
 case round=>
  clear BW NB
  obtain ⟨k,hk,rfl,HB,HK⟩:=hrel
  by_cases hlt:k<c.length
  ·have hlt':(k:Int)<(c.length:Int):=by omega
   go_wp2_with fail
   go_loopw [6] (fun i wr=>∃ j:Nat,j<=c.length/\i=.int .i64 j/\Hid (Below w.heap.size w wr/\BoxC wr w.heap.size (.slice x.pa x.pn x.pc) (.slice x.sa x.sn x.sc) (.slice x.wa x.wn x.wc) (.slice x.ha x.hn x.hc))/\Hid (∀ b,b<j->tN x.y (cN c) k b<=sN x.y (cN c) k b)) (fun i _=>c.length - (intOf i).toNat)
   case atStart=>exact ⟨0,Nat.zero_le _,rfl,HB.out,fun j hj=>by omega⟩
   case round=>
    clear HB
    obtain ⟨j,hj,rfl,HB,HJ⟩:=hrel
    by_cases hjt:j<c.length
    ·have hjt':(j:Int)<(c.length:Int):=by omega
     obtain ⟨b0,b1,b2,b3⟩:=HB.out.2
     go_wp2_with fail
     refine (HOv.out _ HB.out.1 k j hlt hjt).mono ?_
     rintro e w3 ⟨rfl,q3⟩
     have B3:Hid (Below w.heap.size w w3/\BoxC w3 w.heap.size (.slice x.pa x.pn x.pc) (.slice x.sa x.sn x.sc) (.slice x.wa x.wn x.wc) (.slice x.ha x.hn x.hc)):=⟨HB.out.1.trans (q3.mono HB.out.1.size),HB.out.2.below q3⟩
     have HN:Hid (ovN x.y (cN c) k j<0 ↔ tN x.y (cN c) k j<=sN x.y (cN c) k j):=ovN_neg
     generalize ovN x.y (cN c) k j=ov at *
     clear q3 b0 b1 b2 b3 HB
     by_cases ho:0<=ov
     ·have HV:Hid (qB (x.y.Wh (cN c))=false):=qB_false fun h=>by
       have h1:=HN.out.2 (h k (by have:=HQ.out;show k<x.pn;omega) j (by have:=HQ.out;show j<x.pn;omega))
       omega
      go_wp2
      go_ret
      rw [HV.out]
      exact ⟨rfl,B3.out.1⟩
     ·have HJ':Hid (∀ b,b<j+1->tN x.y (cN c) k b<=sN x.y (cN c) k b):=fun b hb=>by
       by_cases e:b=j
       ·subst e
        exact HN.out.1 (by omega)
       ·exact HJ.out b (by omega)
      clear HJ HN
      go_wp2
      go_roundw
      case rel=>exact ⟨j+1,by omega,by go_num,B3.out,HJ'.out⟩
      case measure=>simp [intOf];omega
    ·have HK':Hid (∀ a,a<k+1->∀ b,b<c.length->tN x.y (cN c) a b<=sN x.y (cN c) a b):=fun a ha b hb=>by
      by_cases e:a=k
      ·subst e
       exact HJ.out b (by omega)
      ·exact HK.out a (by omega) b hb
     clear HK HJ
     go_wp2
     go_roundw
     case rel=>exact ⟨k+1,by omega,by go_num,HB.out,HK'.out⟩
     case measure=>simp [intOf];omega
  ·have HV:Hid (qB (x.y.Wh (cN c))=true):=qB_true fun a ha b hb=>HK.out a (by have:=HQ.out;have h1:a<x.pn:=ha;omega) b (by have:=HQ.out;have h1:b<x.pn:=hb;omega)
   have B3:=HB.out.1
   clear HK HB
   go_wp2
   go_ret
   rw [HV.out]
   exact ⟨rfl,B3⟩
theorem kndZ:Kind 30 3 1 8:=by
 refine ⟨Tryz.underlying30,?_,by omega,by omega⟩
 have hinfo:(Tryz.prog.info? 3).map (fun i=>(i.zero,i.size,i.bytes))=some (some (.int .i64 0),1,8):=by kernel_rfl
 cases hi:Tryz.prog.info? 3 with
 | none=>rw [hi] at hinfo;cases hinfo
 | some i=>
  rw [hi] at hinfo
  simp only [Option.map_some,Option.some.injEq,Prod.mk.injEq] at hinfo
  exact ⟨i,_,rfl,hinfo.1,hinfo.2.1,hinfo.2.2,rfl⟩
theorem kndZZ:Kind 107 30 1 24:=by
 refine ⟨Tryz.underlying107,?_,by omega,by omega⟩
 have hinfo:(Tryz.prog.info? 30).map (fun i=>(i.zero,i.size,i.bytes))=some (some (.slice none 0 0),1,24):=by kernel_rfl
 cases hi:Tryz.prog.info? 30 with
 | none=>rw [hi] at hinfo;cases hinfo
 | some i=>
  rw [hi] at hinfo
  simp only [Option.map_some,Option.some.injEq,Prod.mk.injEq] at hinfo
  exact ⟨i,_,rfl,hinfo.1,hinfo.2.1,hinfo.2.2,rfl⟩
theorem l1MaxC_any (a b:Int) (w:World):Calls Tryz.prog 101 #[.int .i64 a,.int .i64 b] w fun e w'=>e=.returned (.int .i64 (cMx a b))/\w'=w:=by
 by_cases t:b<a
 ·have h1:cMx a b=a:=if_neg (by omega)
  rw [h1]
  go_enter Tryz.func101,Tryz.ntmps101
  go_wp2
  go_ret
  exact ⟨rfl,rfl⟩
 ·have h1:cMx a b=b:=by unfold cMx;split <;> omega
  rw [h1]
  go_enter Tryz.func101,Tryz.ntmps101
  go_wp2
  go_ret
  exact ⟨rfl,rfl⟩
def jnL (xs ys:List Int) (k:Nat):List Int:=(List.range k).map fun i=>cMx (zi xs i) (zi ys i)
theorem jnL_succ (xs ys:List Int) (k:Nat):jnL xs ys (k+1)=jnL xs ys k ++ [cMx (zi xs k) (zi ys k)]:=by simp [jnL,List.range_succ]
theorem jnL_len (xs ys:List Int) (k:Nat):(jnL xs ys k).length=k:=by simp [jnL]
theorem l7Join_any (aa ab:Option Addr) (ca cb:Nat) (xs ys:List Int) (n:Nat) (w:World) (hx:Sl w aa xs) (hy:Sl w ab ys) (lx:xs.length=n) (ly:ys.length=n) (hn:n<=1000):
  Calls Tryz.prog 119 #[.slice aa n ca,.slice ab n cb] w fun e w'=>∃ v,e=.returned v/\OwnI w' w.heap.size v (jnL xs ys n)/\Below w.heap.size w w':=by
 have HX:Hid (Sl w aa xs/\Sl w ab ys/\xs.length=n/\ys.length=n):=⟨hx,hy,lx,ly⟩
 have hn':(n:Int)<=1000:=by omega
 have O0:Hid (OwnI (w.alloc (.cells #[] 3)) w.heap.size (.slice (some ⟨w.heap.size,0,none⟩) 0 0) []):=by
  have h9:=made_own w 0 (by omega)
  rw [show madeCells #[Value.int .i64 0] 0=#[] by simp [madeCells]] at h9
  exact h9
 clear hx hy lx ly
 go_enter Tryz.func119,Tryz.ntmps119
 go_wp2_with fail
 go_loopw [5,6] (fun v i wr=>∃ k:Nat,k<=n/\i=.int .i64 k/\Hid (OwnI wr w.heap.size v (jnL xs ys k)/\Below w.heap.size w wr)) (fun _ i _=>n - (intOf i).toNat)
 case atStart=>exact ⟨0,Nat.zero_le _,rfl,O0.out,zQ _ _⟩
 case round=>
  clear O0
  obtain ⟨k,hk,rfl,HK⟩:=hrel
  obtain ⟨a5,c5,rfl,-⟩:=HK.out.1.form
  by_cases hlt:k<n
  ·have hlt':(k:Int)<(n:Int):=by omega
   obtain ⟨b1,o1,rfl,z1,d1⟩:=(HX.out.1.below HK.out.2).at (k:=k) (by rw [HX.out.2.2.1];exact hlt)
   obtain ⟨b2,o2,rfl,z2,d2⟩:=(HX.out.2.1.below HK.out.2).at (k:=k) (by rw [HX.out.2.2.2];exact hlt)
   have HL:Hid ((jnL xs ys k).length+[cMx (zi xs k) (zi ys k)].length<=4000000):=by
    show _<=_
    rw [jnL_len]
    simp
    omega
   have hJ:jnL xs ys (k+1)=jnL xs ys k ++ [cMx (zi xs k) (zi ys k)]:=jnL_succ xs ys k
   have HJ:Hid (jnL xs ys (k+1)=jnL xs ys k ++ [cMx (zi xs k) (zi ys k)]):=hJ
   clear hJ
   go_wp2_with fail
   go_region_law (first
    | (refine step_call rfl 101 _ _ rfl #[.int .i64 (zi xs k),.int .i64 (zi ys k)] (by simp [Act.eval]) (yA Tryz.func101 (by kernel_rfl) rfl) (l1MaxC_any _ _ _) ?_;rintro e w5 ⟨rfl,rfl⟩;refine ⟨_,rfl,?_⟩)
    | (refine step_append_ints rfl _ _ rfl w.heap.size 1 (.slice a5 (jnL xs ys k).length c5) (some ⟨wr.heap.size,0,none⟩) (jnL xs ys k) [cMx (zi xs k) (zi ys k)] (by simp [Act.eval]) (by simp [Act.eval]) (HK.out.1.below (by go_grown)) (.inr ⟨_,0,rfl,by simp,fun j hj=>by (obtain rfl:j=0:=by simpa using hj);exact zW _ _ _ 0 rfl⟩) HL.out (by have:=HK.out.2.size;simp;omega) ?_;intro v6 w6 o6 g6;have F6:Hid (OwnI w6 w.heap.size v6 (jnL xs ys (k+1))/\Below w.heap.size w w6):=⟨by rw [HJ.out];exact o6,Below.grown (HK.out.2.trans (by have:=HK.out.2.size;go_grown)) g6 (by have:=HK.out.2.size;simp;omega) (fun q hq=>(HK.out.1.lt q hq).1)⟩;clear o6 g6))
   all_goals
    go_wp2
    go_roundw
    case rel=>exact ⟨k+1,by omega,by go_num,F6.out⟩
    case measure=>simp [intOf];omega
  ·have hkn:k=n:=by omega
   subst hkn
   go_wp2
   refine bodyPost_ret (v:=.slice a5 (jnL xs ys k).length c5) (by simp [results,Tryz.results119,go_sem]) rfl ⟨_,rfl,HK.out.1,HK.out.2⟩
theorem run_make_zzz (n:Nat) (hn:n<=1000) (w:World):
  (Instr.makeSlice 108 (.int .i64 (n:Int)) (.int .i64 (n:Int))).run Tryz.prog w=.ok (.slice (some ⟨w.heap.size,0,none⟩) n n) (w.alloc (.cells (madeCells #[.slice none 0 0] n) 107)):=by
 have hinfo:(Tryz.prog.info? 107).map (fun i=>(i.zero,i.size,i.bytes))=some (some (.slice none 0 0),1,24):=by kernel_rfl
 cases hi:Tryz.prog.info? 107 with
 | none=>rw [hi] at hinfo;cases hinfo
 | some i=>
  rw [hi] at hinfo
  simp only [Option.map_some,Option.some.injEq,Prod.mk.injEq] at hinfo
  obtain ⟨hz,hs,hb⟩:=hinfo
  have h:=run_make (P:=Tryz.prog) w 108 107 i _ Tryz.underlying108 hi hz .i64 .i64 (n:Int) (n:Int) (by omega) (Int.le_refl _) (by rw [hb];omega) (by omega)
  rw [hs] at h
  simpa [Value.cells] using h
abbrev LLc (w:World) (P:Nat->Prop) (v:Value) (m:Nat) (u:Nat->Value) (y:Sy) (p:Nat):Prop:=LL true 3 1 30 w P v m u (fun _=>y.pn) (fun i=>(ckN y p i).map (Value.int .i64))
structure C3 (w:World) (B O:Nat) (y:Sy) (d c:Nat->Nat) (V:Nat->Value) (U:Nat->Nat->Value):Prop where
 top:∀ p,p<y.pn->w.cell? ⟨O,p,none⟩=some (V p)
 ll:∀ p,p<y.pn->LLc w (fun k=>B<=k/\c k=p+1) (V p) (d p) (U p) y p
 co:c O=0
 fz:∀ j,w.frozen? ⟨O,j,none⟩=false
 lo:B<=O
 lt:O<w.heap.size
theorem C3.below {w w':World} {B O:Nat} {y:Sy} {d c:Nat->Nat} {V:Nat->Value} {U:Nat->Nat->Value} (h:C3 w B O y d c V U) (hb:Below w.heap.size w w'):C3 w' B O y d c V U:=
 ⟨fun p hp=>(hb.cell h.lt).trans (h.top p hp),fun p hp=>(h.ll p hp).below hb,h.co,fun j=>((bcell hb).2 O j h.lt).trans (h.fz j),h.lo,zL h.lt hb.size⟩
theorem C3.new (w:World) (y:Sy):C3 (w.alloc (.cells (madeCells #[.slice none 0 0] y.pn) 107)) w.heap.size w.heap.size y (fun _=>0) (fun _=>0) (fun _=>.slice none 0 0) (fun _ _=>.slice none 0 0):=by
 refine ⟨fun p hp=>?_,fun p _=>LL.nil _ _ _ _ _ _ _ _,rfl,fun j=>yB _ _ _ _ rfl,Nat.le_refl _,by simp⟩
 rw [zW _ _ _ p rfl,<- Array.getElem?_toList,toList_madeCells_one,List.getElem?_replicate,if_pos hp]
theorem C3.push {w w1 w2:World} {B O p:Nat} {y:Sy} {d c:Nat->Nat} {V:Nat->Value} {U:Nat->Nat->Value} {u' v':Value} (h:C3 w B O y d c V U) (hB:B<=w.heap.size) (hp:p<y.pn) (b1:Below w.heap.size w w1) (hu:OwnI w1 w.heap.size u' (ckN y p (d p))) (hne:u'≠.slice none 0 0)
  (hv:w2.ownsRow 0 30 1 v' (d p+1) ((List.range (d p)).map (U p) ++ [u'])) (g:w1.grownBy w2 (V p).ownBlock) (hv':∀ j,v'.ownBlock=some j->(V p).ownBlock=some j\/w1.heap.size<=j):
  C3 (w2.setCell ⟨O,p,none⟩ v') B O y (up d p) (rcol c w.heap.size (p+1)) (fun q=>if q=p then v' else V q) (fun q=>if q=p then (fun j=>if j=d p then u' else U p j) else U q)/\Below B w (w2.setCell ⟨O,p,none⟩ v'):=by
 have hw12:w1.heap.size<=w2.heap.size:=g.size
 have ob:∀ k,(V p).ownBlock=some k->B<=k/\c k=p+1:=(h.ll p hp).rb
 have lk:∀ k,(V p).ownBlock=some k->k<w.heap.size:=fun k hk=>((h.ll p hp).row.lt k hk).2
 have l2:O<w2.heap.size:=zL h.lt (zP b1.size hw12)
 have keep:∀ k,k<w.heap.size->c k≠p+1->w2.heap[k]? = w.heap[k]?:=fun k hk hc=>(g.block k (zL hk b1.size) fun e=>hc (ob k e.symm).2).trans (b1.block k hk)
 have kO:w2.heap[O]? = w.heap[O]?:=keep O h.lt (by rw [h.co];omega)
 have hown:w1.ownsRow w.heap.size 3 1 u' y.pn ((ckN y p (d p)).map (Value.int .i64)):=by
  have h9:w1.ownsRow w.heap.size 3 1 u' (ckN y p (d p)).length ((ckN y p (d p)).map (Value.int .i64)):=hu
  rw [ckN_len] at h9
  exact h9
 have hpush:=(h.ll p hp).push b1 hown (fun _=>hne) hv g hv' (P':=fun k=>B<=k/\rcol c w.heap.size (p+1) k=p+1) (fun k hk hl=>⟨hk.1,(rcol_old hl).trans hk.2⟩) (fun k hk _=>⟨zP hB hk,rcol_new hk⟩)
 have setO:∀ k,k≠O->(w2.setCell ⟨O,p,none⟩ v').heap[k]? = w2.heap[k]?:=fun k hk=>zO _ _ _ _ hk
 refine ⟨⟨fun q hq=>?_,fun q hq=>?_,(rcol_old h.lt).trans h.co,fun j=>?_,h.lo,by simpa using l2⟩,?_⟩
 ·have hc:w2.cell? ⟨O,q,none⟩=some (V q):=(zH kO).trans (h.top q hq)
  by_cases e:q=p
  ·subst e
   rw [if_pos rfl]
   go_cell
  ·rw [if_neg e]
   have:(⟨O,q,none⟩:Addr)≠⟨O,p,none⟩:=fun h9=>e (by injection h9)
   go_cell
 ·by_cases e:q=p
  ·subst e
   simp only [if_true]
   rw [up_same]
   exact hpush.keep fun k hk _=>setO k fun e9=>by
    have:=hk.2
    rw [e9,rcol_old h.lt,h.co] at this
    omega
  ·simp only [if_neg e]
   rw [up_other e]
   refine ((h.ll q hq).mono (P':=fun k=>B<=k/\rcol c w.heap.size (p+1) k=q+1) fun k hk hl=>⟨hk.1,(rcol_old hl).trans hk.2⟩).keep fun k hk hl=>?_
   have h9:c k=q+1:=(rcol_old (c:=c) hl).symm.trans hk.2
   rw [setO k fun e9=>by rw [e9,h.co] at h9;omega]
   exact keep k hl (by omega)
 ·have:w2.frozen? ⟨O,j,none⟩=false:=(zI kO).trans (h.fz j)
  simpa using this
 ·refine Below.setCell ?_ h.lo _
  exact Below.grown (b1.mono hB) g (zP hB b1.size) (fun k hk=>(ob k hk).1)
def pvL (y:Sy) (p i:Nat):List Int:=if i=0 then List.replicate y.pn 0 else ckN y p (i - 1)
theorem pvL_len (y:Sy) (p i:Nat):(pvL y p i).length=y.pn:=by
 unfold pvL
 split
 ·simp
 ·exact ckN_len _ _ _
theorem pvL_at (y:Sy) (p i q:Nat) (hq:q<y.pn):zi (pvL y p i) q=((if i=0 then 0 else clk y p (i - 1) q:Nat):Int):=by
 unfold pvL
 split
 ·unfold zi
  rw [List.getD_eq_getElem?_getD,List.getElem?_replicate,if_pos hq]
  rfl
 ·exact ckN_at y p (i - 1) q hq
theorem clk_set {y:Sy} {d:Nat->Nat} (hO:y.Ok) (h:y.hs.Put d) {p:Nat} (hp:p<y.pn) (hc:y.hs.Can d p) {nw:List Int} (hl:nw.length=y.pn)
  (hn:∀ q,q<y.pn->zi nw q=((max (if d p=0 then 0 else clk y p (d p - 1) q) (match sdr y p (d p) with | none=>0 | some s=>clk y s.1 s.2 q):Nat):Int)):nw.set p ((d p:Int)+1)=ckN y p (d p):=by
 refine ext_getD (by rw [List.length_set,ckN_len,hl]) fun q hq=>?_
 rw [List.length_set,hl] at hq
 rw [ckN_at y p (d p) q hq,clk_next hO h hp hc q]
 by_cases e:q=p
 ·subst e
  rw [getD_set_self _ _ _ (by rw [hl];exact hq),if_pos rfl]
  rfl
 ·rw [Go.Proofs.YthdaejgmfognbaaGreatDoor.getD_set_ne _ _ _ _ e,if_neg e,hn q hq]
  cases sdr y p (d p) <;> rfl
open Go.Maps
theorem implHangs_any (x:SysIn) (p i q j:Int) (w:World) (hG:SysG w x) (hL:x.Len) (hcap:∀ i,i<x.hn->x.hL i<=x.hC i) (hV:w.cell? ⟨0,0,none⟩=some (.iface 266 (.agg #[.pointer (some ⟨1,211,none⟩)]))):
  Calls Tryz.prog 23 #[x.v,.int .i64 p,.int .i64 i,.int .i64 q,.int .i64 j] w fun e w'=>e=.returned (.bool (hgB x.y p i q j))/\Below w.heap.size w w':=by
 have HV0:0<w.heap.size:=zJ w _ hV
 have HX:Hid (HgX w x p i q j (((w.alloc (oQ4 x.pa x.pn x.pc x.sa x.sn x.sc x.wa x.wn x.wc x.ha x.hn x.hc)).alloc (oQ5 p i)).alloc (oQ5 q j))):=HgX.new w x p i q j
 have HA:Hid (∀ wx b,Below w.heap.size w wx->b<wx.heap.size->SpAt wx b 2 (fun k=>if k=0 then (p,i) else (q,j))->Calls Tryz.prog 47 #[x.v,.slice (some ⟨b,0,none⟩) 2 2] wx fun e w'=>e=.returned (.bool (bothB x.y p i q j))/\Below wx.heap.size wx w'):=fun wx b hb hbl hs=>by
  have h:=areIn_any x b 2 2 (fun k=>if k=0 then (p,i) else (q,j)) wx (hG.below hb) hL ((hb.cell (p:=⟨0,0,none⟩) HV0).trans hV) hbl (by omega) hs
  rw [arB_two] at h
  exact h
 have HCk:Hid (bothB x.y p i q j=true->∀ wx,Below w.heap.size w wx->Calls Tryz.prog 48 #[x.v] wx fun e w'=>∃ b,e=.returned (.map (some b))/\Below wx.heap.size wx w'/\∀ wy,Below w'.heap.size w' wy->Calls Tryz.prog 66 #[.map (some b),sptV p i,sptV q j] wy (fun e w'=>e=.returned (.bool (hgN x.y p.toNat i.toNat q.toNat j.toNat))/\Below wy.heap.size wy w')/\Calls Tryz.prog 66 #[.map (some b),sptV q j,sptV p i] wy (fun e w'=>e=.returned (.bool (hgN x.y q.toNat j.toNat p.toNat i.toNat))/\Below wy.heap.size wy w')):=fun h wx hb=>by
  simp only [bothB,Bool.and_eq_true] at h
  obtain ⟨hO,a,c,rfl,rfl,ha,hc⟩:=hasB_parts h.1
  obtain ⟨-,a',c',rfl,rfl,ha',hc'⟩:=hasB_parts h.2
  refine (clocksIn_any x wx (hG.below hb) hcap hO).mono ?_
  rintro e w' ⟨b,D,d,rfl,hb0,hd,hC,hbw⟩
  have hbl:b<w'.heap.size:=hC.own.lt
  have h4:=hO.cn.1.2
  refine ⟨b,rfl,hbw,fun wy hy=>?_⟩
  have hC':Ckm wy b x.y d D:=hC.blk (hy.block b hbl)
  have hbl':b<wy.heap.size:=zL hbl hy.size
  have h5:=hO.hl200 ha
  have h6:=hO.hl200 ha'
  exact ⟨hang_any b x.y d D a c a' c' wy hC' hbl' h4 ha (by rw [hd a ha];exact hc) (by omega) ha',hang_any b x.y d D a' c' a c wy hC' hbl' h4 ha' (by rw [hd a' ha'];exact hc') (by omega) ha⟩
 have HR:Hid (hgB x.y p i q j=(bothB x.y p i q j && hgN x.y p.toNat i.toNat q.toNat j.toNat)):=rfl
 generalize hgB x.y p i q j=R at *
 generalize bothB x.y p i q j=T at *
 generalize hgN x.y p.toNat i.toNat q.toNat j.toNat=V at *
 clear hG hL hcap hV HV0
 go_enter Tryz.func23,Tryz.ntmps23
 go_upto_region 2 with fail
 generalize ((w.alloc (oQ4 x.pa x.pn x.pc x.sa x.sn x.sc x.wa x.wn x.wc x.ha x.hn x.hc)).alloc (oQ5 p i)).alloc (oQ5 q j)=W2 at *
 have q0:Below W2.heap.size W2 W2.drew:=(Below.refl W2.heap.size W2).drew
 have hS:∀ wx,Below W2.heap.size W2 wx->(fun w':World=>BoxC w' w.heap.size (.slice x.pa x.pn x.pc) (.slice x.sa x.sn x.sc) (.slice x.wa x.wn x.wc) (.slice x.ha x.hn x.hc)/\BoxS w' (w.heap.size+1) (.int .i64 p) (.int .i64 i)/\BoxS w' (w.heap.size+1+1) (.int .i64 q) (.int .i64 j)) wx:=fun wx hb=>⟨(HX.out.below hb).bs,(HX.out.below hb).s1,(HX.out.below hb).s2⟩
 have hBW:∀ wx,Below W2.heap.size W2 wx->Below w.heap.size w wx:=fun wx hb=>(HX.out.below hb).be
 refine wp_region_G (fun w':World=>BoxC w' w.heap.size (.slice x.pa x.pn x.pc) (.slice x.sa x.sn x.sc) (.slice x.wa x.wn x.wc) (.slice x.ha x.hn x.hc)/\BoxS w' (w.heap.size+1) (.int .i64 p) (.int .i64 i)/\BoxS w' (w.heap.size+1+1) (.int .i64 q) (.int .i64 j)) (fun _=>false) (by kernel_rfl) ?_
 have hHeld:(fun w':World=>BoxC w' w.heap.size (.slice x.pa x.pn x.pc) (.slice x.sa x.sn x.sc) (.slice x.wa x.wn x.wc) (.slice x.ha x.hn x.hc)/\BoxS w' (w.heap.size+1) (.int .i64 p) (.int .i64 i)/\BoxS w' (w.heap.size+1+1) (.int .i64 q) (.int .i64 j)) W2.drew:=hS _ q0
 refine wpG_take 0 rfl hHeld ?_
 apply Exists.intro
 refine ⟨fun wq hSw=>?_,?_⟩
 ·obtain ⟨⟨h0,h1,h2,h3⟩,⟨g0,g1⟩,k0,k1⟩:=hSw
  go_simp
  try with_reducible rfl
 (try simp only [Act.put,zD,zE,zF])
 refine wpG_take 1 rfl hHeld ?_
 apply Exists.intro
 refine ⟨fun wq hSw=>?_,?_⟩
 ·obtain ⟨⟨h0,h1,h2,h3⟩,⟨g0,g1⟩,k0,k1⟩:=hSw
  go_simp
  try with_reducible rfl
 (try simp only [Act.put,zD,zE,zF])
 refine wpG_take 2 rfl hHeld ?_
 apply Exists.intro
 refine ⟨fun wq hSw=>?_,?_⟩
 ·obtain ⟨⟨h0,h1,h2,h3⟩,⟨g0,g1⟩,k0,k1⟩:=hSw
  go_simp
  try with_reducible rfl
 (try simp only [Act.put,zD,zE,zF])
 refine wpG_one 3 rfl (by kernel_rfl) (fun K hK=>?_)
 go_simp
 have q3:Below W2.heap.size W2 (W2.drew.alloc (.cells #[.int .i64 p,.int .i64 i,.int .i64 q,.int .i64 j] 79)):=q0.trans ((zT _ _).mono q0.size)
 refine hK.out _ _ (fun _=>hS _ q3) ?_
 clear hK K hHeld
 (try simp only [Act.put,zD,zE,zF])
 have SP:SpAt (W2.drew.alloc (.cells #[.int .i64 p,.int .i64 i,.int .i64 q,.int .i64 j] 79)) W2.drew.heap.size 2 (fun k=>if k=0 then (p,i) else (q,j)):=SpAt.two _ _ _ _ _ _
 refine wpG_one 4 rfl (by kernel_rfl) (fun K hK=>?_)
 refine stepR_callD rfl 47 _ _ rfl #[x.v,.slice (some ⟨W2.drew.heap.size,0,none⟩) 2 2] (by simp [Act.eval,SysIn.v,sysV]) (yA Tryz.func47 (by kernel_rfl) rfl) (HA.out _ _ (hBW _ q3) (by simp) SP) ?_
 rintro e w4 ⟨rfl,b4⟩
 refine ⟨_,rfl,?_⟩
 have q4:Below W2.heap.size W2 w4:=q3.trans (b4.mono q3.size)
 refine hK.out _ _ (fun _=>hS _ q4) ?_
 have hHeld:(fun w':World=>BoxC w' w.heap.size (.slice x.pa x.pn x.pc) (.slice x.sa x.sn x.sc) (.slice x.wa x.wn x.wc) (.slice x.ha x.hn x.hc)/\BoxS w' (w.heap.size+1) (.int .i64 p) (.int .i64 i)/\BoxS w' (w.heap.size+1+1) (.int .i64 q) (.int .i64 j)) w4:=hS _ q4
 clear hK K b4 SP HA
 (try simp only [Act.put,zD,zE,zF])
 refine wpG_take 5 rfl hHeld ?_
 apply Exists.intro
 refine ⟨fun wq hSw=>?_,?_⟩
 ·obtain ⟨⟨h0,h1,h2,h3⟩,⟨g0,g1⟩,k0,k1⟩:=hSw
  go_simp
  try with_reducible rfl
 (try simp only [Act.put,zD,zE,zF])
 cases T with
 | false=>
  refine wpG_skip 6 rfl ?_
  (try simp only [Act.put,zD,zE,zF])
  refine wpG_skip 7 rfl ?_
  (try simp only [Act.put,zD,zE,zF])
  refine wpG_skip 8 rfl ?_
  (try simp only [Act.put,zD,zE,zF])
  refine wpG_skip 9 rfl ?_
  (try simp only [Act.put,zD,zE,zF])
  refine wpG_skip 10 rfl ?_
  (try simp only [Act.put,zD,zE,zF])
  refine wpG_take 11 rfl hHeld ?_
  apply Exists.intro
  refine ⟨fun wq hSw=>?_,?_⟩
  ·obtain ⟨⟨h0,h1,h2,h3⟩,⟨g0,g1⟩,k0,k1⟩:=hSw
   go_simp
   try with_reducible rfl
  (try simp only [Act.put,zD,zE,zF])
  refine wpG_take 12 rfl hHeld ?_
  apply Exists.intro
  refine ⟨fun wq hSw=>?_,?_⟩
  ·obtain ⟨⟨h0,h1,h2,h3⟩,⟨g0,g1⟩,k0,k1⟩:=hSw
   go_simp
   try with_reducible rfl
  (try simp only [Act.put,zD,zE,zF])
  refine wpG_done (by kernel_rfl) ?_ _
  have B4:Hid (Below w.heap.size w w4):=hBW _ q4
  clear hHeld q0 q3 q4 hS hBW HX HCk
  go_wp2
  go_ret
  exact ⟨by rw [HR.out];rfl,B4.out⟩
 | true=>
  refine wpG_take 6 rfl hHeld ?_
  apply Exists.intro
  refine ⟨fun wq hSw=>?_,?_⟩
  ·obtain ⟨⟨h0,h1,h2,h3⟩,⟨g0,g1⟩,k0,k1⟩:=hSw
   go_simp
   try with_reducible rfl
  (try simp only [Act.put,zD,zE,zF])
  refine wpG_take 8 rfl hHeld ?_
  apply Exists.intro
  refine ⟨fun wq hSw=>?_,?_⟩
  ·obtain ⟨⟨h0,h1,h2,h3⟩,⟨g0,g1⟩,k0,k1⟩:=hSw
   go_simp
   try with_reducible rfl
  (try simp only [Act.put,zD,zE,zF])
  refine wpG_take 9 rfl hHeld ?_
  apply Exists.intro
  refine ⟨fun wq hSw=>?_,?_⟩
  ·obtain ⟨⟨h0,h1,h2,h3⟩,⟨g0,g1⟩,k0,k1⟩:=hSw
   go_simp
   try with_reducible rfl
  (try simp only [Act.put,zD,zE,zF])
  refine wpG_one 7 rfl (by kernel_rfl) (fun K hK=>?_)
  refine stepR_callD rfl 48 _ _ rfl #[x.v] (by simp [Act.eval,SysIn.v,sysV]) (yA Tryz.func48 (by kernel_rfl) rfl) (HCk.out rfl _ (hBW _ q4)) ?_
  rintro e w5 ⟨b,rfl,b5,hH⟩
  refine ⟨_,rfl,?_⟩
  have q5:Below W2.heap.size W2 w5:=q4.trans (b5.mono q4.size)
  refine hK.out _ _ (fun _=>hS _ q5) ?_
  clear hK K b5 hHeld
  have hHeld:(fun w':World=>BoxC w' w.heap.size (.slice x.pa x.pn x.pc) (.slice x.sa x.sn x.sc) (.slice x.wa x.wn x.wc) (.slice x.ha x.hn x.hc)/\BoxS w' (w.heap.size+1) (.int .i64 p) (.int .i64 i)/\BoxS w' (w.heap.size+1+1) (.int .i64 q) (.int .i64 j)) w5:=hS _ q5
  (try simp only [Act.put,zD,zE,zF])
  refine wpG_one 10 rfl (by kernel_rfl) (fun K hK=>?_)
  refine stepR_callD rfl 66 _ _ rfl #[.map (some b),sptV p i,sptV q j] (by simp [Act.eval]) (yA Tryz.func66 (by kernel_rfl) rfl) (hH w5 (Below.refl _ _)).1 ?_
  rintro e w6 ⟨rfl,b6⟩
  refine ⟨_,rfl,?_⟩
  have q6:Below W2.heap.size W2 w6:=q5.trans (b6.mono q5.size)
  refine hK.out _ _ (fun _=>hS _ q6) ?_
  clear hK K b6 hHeld hH
  have hHeld:(fun w':World=>BoxC w' w.heap.size (.slice x.pa x.pn x.pc) (.slice x.sa x.sn x.sc) (.slice x.wa x.wn x.wc) (.slice x.ha x.hn x.hc)/\BoxS w' (w.heap.size+1) (.int .i64 p) (.int .i64 i)/\BoxS w' (w.heap.size+1+1) (.int .i64 q) (.int .i64 j)) w6:=hS _ q6
  (try simp only [Act.put,zD,zE,zF])
  refine wpG_take 11 rfl hHeld ?_
  apply Exists.intro
  refine ⟨fun wq hSw=>?_,?_⟩
  ·obtain ⟨⟨h0,h1,h2,h3⟩,⟨g0,g1⟩,k0,k1⟩:=hSw
   go_simp
   try with_reducible rfl
  (try simp only [Act.put,zD,zE,zF])
  refine wpG_take 12 rfl hHeld ?_
  apply Exists.intro
  refine ⟨fun wq hSw=>?_,?_⟩
  ·obtain ⟨⟨h0,h1,h2,h3⟩,⟨g0,g1⟩,k0,k1⟩:=hSw
   go_simp
   try with_reducible rfl
  (try simp only [Act.put,zD,zE,zF])
  refine wpG_done (by kernel_rfl) ?_ _
  have B6:Hid (Below w.heap.size w w6):=hBW _ q6
  clear hHeld q0 q3 q4 q5 q6 hS hBW HX HCk
  go_wp2
  go_ret
  exact ⟨by rw [HR.out];rfl,B6.out⟩
structure Cf (w:World) (x:SysIn) (O:Nat) (d c:Nat->Nat) (V:Nat->Value) (U:Nat->Nat->Value) (wx:World):Prop where
 be:Below w.heap.size w wx
 bs:BoxC wx w.heap.size (.slice x.pa x.pn x.pc) (.slice x.sa x.sn x.sc) (.slice x.wa x.wn x.wc) (.slice x.ha x.hn x.hc)
 c3:C3 wx O O x.y d c V U
 nb:w.heap.size<O
theorem Cf.below {w:World} {x:SysIn} {O:Nat} {d c:Nat->Nat} {V:Nat->Value} {U:Nat->Nat->Value} {wx wy:World} (h:Cf w x O d c V U wx) (hb:Below wx.heap.size wx wy):Cf w x O d c V U wy:=⟨h.be.trans (hb.mono h.be.size),h.bs.below hb,h.c3.below hb,h.nb⟩
theorem Cf.next {w:World} {x:SysIn} {O:Nat} {d c d' c':Nat->Nat} {V V':Nat->Value} {U U':Nat->Nat->Value} {wx wy:World} (h:Cf w x O d c V U wx) (h3:C3 wy O O x.y d' c' V' U') (hb:Below O wx wy):Cf w x O d' c' V' U' wy:=
 ⟨h.be.trans (hb.mono (Nat.le_of_lt h.nb)),h.bs.blkK (hb.block _ h.nb),h3,h.nb⟩
theorem l7Clocks_any (x:SysIn) (w:World) (hG:SysG w x) (hcap:∀ i,i<x.hn->x.hL i<=x.hC i) (hO:x.y.Ok):
  Calls Tryz.prog 68 #[x.v] w fun e w'=>∃ O d c V U,e=.returned (.slice (some ⟨O,0,none⟩) x.pn x.pn)/\(∀ p,p<x.pn->d p=x.y.hL p)/\C3 w' O O x.y d c V U/\Below w.heap.size w w':=by
 have HO:Hid (x.y.Ok/\∀ i,i<x.hn->x.hL i<=x.hC i):=⟨hO,hcap⟩
 have hhn:x.hn=x.pn:=hO.cn.2.2.1
 have H4:Hid (x.pn<=4):=hO.cn.1.2
 have HP1:Hid (0<x.pn):=hO.cn.1.1
 have h4:(x.pn:Int)<=4:=by have:=H4.out;omega
 have HP:Hid (x.y.hs.Peers/\(∀ i,i<x.pn->x.y.hL i<=200)):=⟨fun p hp i hi=>hO.evq hp hi,fun i hi=>hO.hl200 hi⟩
 have HSn:Hid (∀ (p i:Nat) (wx:World),Below w.heap.size w wx->p<x.pn->i<x.y.hL p->Calls Tryz.prog 70 #[x.v,.int .i64 p,.int .i64 i] wx fun e w'=>e=.returned (.int .i64 (sndN x.y p i))/\Below wx.heap.size wx w'):=fun p i wx hb hp hi=>l7Sender_any x p i wx (hG.below hb) hcap hO hp hi
 obtain ⟨bh,oh,eh,hbl,hcl⟩:∃ b off,x.ha=some ⟨b,off,none⟩/\b<w.heap.size/\∀ i,i<x.hn->w.cell? ⟨b,off+i,none⟩=some (.slice (x.hA i) (x.hL i) (x.hC i)):=by
  rcases hG.h with h9 | h9
  ·have:=HP1.out
   omega
  ·exact h9
 have HHa:Hid ((Value.slice x.ha x.hn x.hc=.slice (some ⟨bh,oh,none⟩) x.pn x.hc)/\∀ wx,Below w.heap.size w wx->∀ j,j<x.pn->wx.cell? ⟨bh,oh+j,none⟩=some (.slice (x.hA j) (x.hL j) (x.hC j))):=⟨by rw [eh,hhn],fun wx hb j hj=>(hb.cell hbl).trans (hcl j (by omega))⟩
 have HHe:Hid (∀ wx,Below w.heap.size w wx->∀ j,j<x.pn->EvL wx (x.hA j) (x.hL j) (x.hH j)):=fun wx hb j hj=>(hG.hi j (by omega)).below hb
 have hmk:=run_make_zzz x.pn (by have:=H4.out;omega)
 have F0:Hid (Cf w x (w.heap.size+1) (fun _=>0) (fun _=>0) (fun _=>.slice none 0 0) (fun _ _=>.slice none 0 0) ((w.alloc (oQ4 x.pa x.pn x.pc x.sa x.sn x.sc x.wa x.wn x.wc x.ha x.hn x.hc)).alloc (.cells (madeCells #[.slice none 0 0] x.pn) 107))):=by
  have h9:=C3.new (w.alloc (oQ4 x.pa x.pn x.pc x.sa x.sn x.sc x.wa x.wn x.wc x.ha x.hn x.hc)) x.y
  rw [World.size_alloc] at h9
  exact ⟨(zT _ _).trans ((zT _ _).mono (by simp)),(BoxC.new w _ _ _ _ _).below (zT _ _),h9,Nat.lt_succ_self _⟩
 clear hG hcap hO hhn eh hbl hcl
 go_enter Tryz.func68,Tryz.ntmps68
 go_upto_region 3 with fail
 generalize (w.alloc (oQ4 x.pa x.pn x.pc x.sa x.sn x.sc x.wa x.wn x.wc x.ha x.hn x.hc)).alloc (.cells (madeCells #[.slice none 0 0] x.pn) 107)=w2 at *
 generalize w.heap.size+1=O at *
 clear hmk
 go_wp2_with fail
 go_loopg [5] (sumL x.y.hs.l x.pn+1) (fun g m wr=>∃ d c V U T,g=(sumL x.y.hs.l x.pn - sumL d x.pn)+(if T=true then 1 else 0)/\m=.bool T/\Hid (Cf w x O d c V U wr/\x.y.hs.Put d)/\Hid (T=false->∀ p,p<x.pn->¬ x.y.hs.Can d p))
 case atStart=>exact ⟨_,_,_,_,true,by simp [sumL_zero],rfl,⟨F0.out,.start⟩,fun h=>by cases h⟩
 case round=>
  clear F0
  obtain ⟨d,c,V,U,T,hgk,rfl,HF,HNs⟩:=hrel
  have HGk:Hid (gk=(sumL x.y.hs.l x.pn - sumL d x.pn)+(if T=true then 1 else 0)):=hgk
  clear hgk
  cases T with
  | false=>
   have HD:Hid (∀ p,p<x.pn->d p=x.y.hL p):=(Hs.row_iff HF.out.2 HP.out.1 (HNs.out rfl)).1 HO.out.1.ro
   clear HGk HNs
   go_wp2
   refine bodyPost_ret (v:=.slice (some ⟨O,0,none⟩) x.pn x.pn) (by simp [results,Tryz.results68,go_sem]) rfl ⟨O,d,c,V,U,rfl,HD.out,HF.out.1.c3,HF.out.1.be⟩
  | true=>
   clear HNs
   go_wp2_with fail
   rename World=>wi0
   go_loopw [5,6] (fun m i wi=>∃ d2 c2 V2 U2 T2 j,j<=x.pn/\i=.int .i64 (j:Nat)/\m=.bool T2/\Hid (Cf w x O d2 c2 V2 U2 wi/\x.y.hs.Put d2)/\Hid ((T2=false->d2=d/\∀ q,q<j->¬ x.y.hs.Can d q)/\(T2=true->sumL d x.pn<sumL d2 x.pn))) (fun _ i _=>x.pn - (intOf i).toNat)
   case atStart=>exact ⟨d,c,V,U,false,0,Nat.zero_le _,rfl,rfl,HF.out,fun _=>⟨rfl,fun q hq=>absurd hq (Nat.not_lt_zero _)⟩,fun h=>by cases h⟩
   case round=>
    clear HF
    rename World=>wi
    obtain ⟨d2,c2,V2,U2,T2,j,hj,rfl,rfl,HF2,HSt⟩:=hrel
    by_cases hj':j<x.pn
    case neg=>
     have hjn:j=x.pn:=by omega
     have HG2:Hid ((sumL x.y.hs.l x.pn - sumL d2 x.pn)+(if T2=true then 1 else 0)<gk):=by
      show _<_
      rw [HGk.out,if_pos trivial]
      cases T2 with
      | false=>
       rw [(HSt.out.1 rfl).1]
       simp
      | true=>
       have h1:=HSt.out.2 rfl
       have h2:=sumL_le HF2.out.2.le x.pn
       simp only [if_true]
       omega
     have HNs:Hid (T2=false->∀ p,p<x.pn->¬ x.y.hs.Can d2 p):=fun h p hp=>by
      have h9:=HSt.out.1 h
      rw [h9.1]
      exact h9.2 p (by omega)
     clear HSt HGk
     go_wp2
     go_roundg ((sumL x.y.hs.l x.pn - sumL d2 x.pn)+(if T2=true then 1 else 0))
     case measure=>exact HG2.out
     case rel=>exact ⟨d2,c2,V2,U2,T2,rfl,rfl,HF2.out,HNs.out⟩
    have hjI:(j:Int)<(x.pn:Int):=by omega
    have HSm:Hid (sumL d x.pn<=sumL d2 x.pn):=by
     show _<=_
     cases hT:T2 with
     | false=>rw [(HSt.out.1 hT).1];exact Nat.le_refl _
     | true=>exact Nat.le_of_lt (HSt.out.2 hT)
    obtain ⟨av,cv,eV⟩:=zU (HF2.out.1.c3.ll j hj').row
    have HVj:Hid (V2 j=.slice av (d2 j) cv):=eV
    have tj:=HF2.out.1.c3.top j hj'
    rw [eV] at tj
    clear eV
    obtain ⟨s0,s1,s2,s3⟩:=HF2.out.1.bs
    rw [HHa.out.1] at s3
    have ch:=HHa.out.2 wi HF2.out.1.be j hj'
    have hdl:d2 j<=x.y.hL j:=HF2.out.2.le j
    by_cases hfull:d2 j=x.y.hL j
    case pos=>
     have he:((d2 j:Int) == (x.hL j:Int))=true:=by
      have h9:x.y.hL j=x.hL j:=rfl
      simp [hfull,h9]
     have HNo:Hid (¬ x.y.hs.Can d2 j):=fun h9=>by
      have h8:d2 j<x.y.hL j:=h9.1
      omega
     have HSt2 : Hid ((T2 = false → d2 = d ∧ ∀ q, q < j + 1 → ¬ x.y.hs.Can d q) ∧ (T2 = true → sumL d x.pn < sumL d2 x.pn)) := ⟨fun h => ⟨(HSt.out.1 h).1, fun q hq => by
      have h9:=HSt.out.1 h
      by_cases e:q=j
      ·subst e
       rw [<- h9.1]
       exact HNo.out
      ·exact h9.2 q (by omega)⟩,HSt.out.2⟩
     have F5:Hid (Cf w x O d2 c2 V2 U2 wi/\x.y.hs.Put d2):=HF2.out
     clear hfull hdl
     go_wp2
     go_roundw
     case rel=>exact ⟨d2,c2,V2,U2,T2,j+1,by omega,by go_num,rfl,F5.out,HSt2.out⟩
     case measure=>simp [intOf];omega
    have he:((d2 j:Int) == (x.hL j:Int))=false:=by
     have h9:x.y.hL j=x.hL j:=rfl
     have:¬ (d2 j:Int)=(x.hL j:Int):=by omega
     simpa using this
    have HDj:Hid (d2 j<x.y.hL j/\d2 j<=200):=⟨by omega,by have:=HP.out.2 j hj';omega⟩
    have hd200:(d2 j:Int)<=200:=by have:=HDj.out.2;omega
    clear hfull hdl
    have hmk:=run_make_int x.pn (by have:=H4.out;omega)
    have O3:Hid (OwnI (wi.alloc (.cells (madeCells #[.int .i64 0] x.pn) 3)) wi.heap.size (.slice (some ⟨wi.heap.size,0,none⟩) x.pn x.pn) (List.replicate x.pn 0)):=made_own wi x.pn (by have:=H4.out;omega)
    have B3:Hid (Below wi.heap.size wi (wi.alloc (.cells (madeCells #[.int .i64 0] x.pn) 3))):=zT _ _
    go_upto_region 12 with fail
    clear s0 s1 s2 s3 ch tj hmk he
    generalize wi.alloc (.cells (madeCells #[.int .i64 0] x.pn) 3)=w3 at *
    by_cases h0:d2 j=0
    ·have O4:Hid (OwnI w3 wi.heap.size (.slice (some ⟨wi.heap.size,0,none⟩) x.pn x.pn) (pvL x.y j (d2 j))):=by
      have h9:=O3.out
      show OwnI _ _ _ _
      unfold pvL
      rw [if_pos h0]
      exact h9
     have B4:Hid (Below wi.heap.size wi w3):=B3.out
     have hng:¬ (0:Int)<(d2 j:Int):=by omega
     have HN0:Hid (d2 j=0):=h0
     clear O3 B3 h0
     go_upto_region 14 with fail
     generalize hval:Value.slice (some ⟨wi.heap.size,0,none⟩) x.pn x.pn=vv at *
     obtain ⟨a4,c4,rfl⟩:∃ a c,vv=.slice a x.pn c:=⟨_,_,hval.symm⟩
     clear hval hng
     obtain ⟨s0,s1,s2,s3⟩:=(HF2.out.1.below B4.out).bs
     go_wp2_with fail
     clear s0 s1 s2 s3
     refine (HSn.out j (d2 j) w3 (HF2.out.1.below B4.out).be hj' HDj.out.1).mono ?_
     rintro e w5 ⟨rfl,b5⟩
     have BQ5:Hid (Below wi.heap.size wi w5):=B4.out.trans (b5.mono B4.out.size)
     have O5:Hid (OwnI w5 wi.heap.size (.slice a4 x.pn c4) (pvL x.y j (d2 j))):=O4.out.below b5
     clear b5 O4 B4
     cases hsd:sdr x.y j (d2 j) with
     | none=>
      have HCan:Hid (x.y.hs.Can d2 j):=(can_sdr_iff HO.out.1 hj' HDj.out.1).2 fun s hs=>by rw [hsd] at hs;cases hs
      have hk3:=sdr_none hsd
      rw [show sndN x.y j (d2 j) = -1 from if_neg hk3]
      have HNw:Hid (∀ q,q<x.pn->zi (pvL x.y j (d2 j)) q=((max (if d2 j=0 then 0 else clk x.y j (d2 j - 1) q) (match sdr x.y j (d2 j) with | none=>0 | some s=>clk x.y s.1 s.2 q):Nat):Int)):=fun q hq=>by
       rw [hsd,pvL_at _ _ _ _ hq]
       simp
      have OQ:Hid (OwnI w5 wi.heap.size (.slice a4 x.pn c4) (pvL x.y j (d2 j))/\(pvL x.y j (d2 j)).length=x.pn):=⟨O5.out,pvL_len _ _ _⟩
      have BQ:Hid (Below wi.heap.size wi w5):=BQ5.out
      clear hk3 hsd O5 BQ5
      obtain ⟨gq,cq',eq',hgq,hgl⟩:=OQ.out.1.block (by rw [OQ.out.2];exact HP1.out)
      rw [OQ.out.2] at eq'
      obtain ⟨rfl,rfl⟩:a4=some ⟨gq,0,none⟩/\c4=cq':=by
       simp only [Value.slice.injEq,true_and] at eq'
       exact eq'
      clear eq'
      have cN:w5.cell? ⟨gq,j,none⟩=some (.int .i64 (zi (pvL x.y j (d2 j)) j)):=by
       have o9:OwnI w5 wi.heap.size (.slice (some ⟨gq,0,none⟩) (pvL x.y j (d2 j)).length c4) (pvL x.y j (d2 j)):=by rw [OQ.out.2];exact OQ.out.1
       exact o9.cell (by rw [OQ.out.2];exact hj')
      have fN:w5.frozen? ⟨gq,j,none⟩=false:=by
       have o9:OwnI w5 wi.heap.size (.slice (some ⟨gq,0,none⟩) (pvL x.y j (d2 j)).length c4) (pvL x.y j (d2 j)):=by rw [OQ.out.2];exact OQ.out.1
       exact o9.frozen j
      have O8:Hid (OwnI (w5.setCell ⟨gq,j,none⟩ (.int .i64 ((d2 j:Int)+1))) wi.heap.size (.slice (some ⟨gq,0,none⟩) x.pn c4) (ckN x.y j (d2 j))/\Below wi.heap.size wi (w5.setCell ⟨gq,j,none⟩ (.int .i64 ((d2 j:Int)+1)))):=by
       refine ⟨?_,BQ.out.setCell hgq _⟩
       have h9:=(OQ.out.1.set OQ.out.2.symm j ((d2 j:Int)+1)).1
       rw [clk_set HO.out.1 HF2.out.2 hj' HCan.out OQ.out.2 HNw.out] at h9
       exact h9
      go_upto_region 20 with fail
      clear cN fN OQ BQ
      generalize w5.setCell ⟨gq,j,none⟩ (.int .i64 ((d2 j:Int)+1))=w8 at *
      have C8:Hid (C3 w8 O O x.y d2 c2 V2 U2):=HF2.out.1.c3.below O8.out.2
      have t8:=C8.out.top j hj'
      have f8:=C8.out.fz j
      rw [HVj.out] at t8
      have hO8:O<w8.heap.size:=C8.out.lt
      have HRow:Hid (w8.ownsRow 0 30 1 (.slice av (d2 j) cv) (d2 j) ((List.range (d2 j)).map (U2 j))):=by
       have h9:=(C8.out.ll j hj').row
       rw [HVj.out] at h9
       exact h9
      go_wp2_with (at_builtin;refine step_append_val kndZZ w8 rfl rfl _ _ rfl 0 (.slice av (d2 j) cv) (d2 j) _ rfl HRow.out #[.slice (some ⟨gq,0,none⟩) x.pn c4] rfl rfl (by intro u hu;simp at hu;subst hu;rfl) (by have:=HDj.out;omega) (Nat.zero_le _) ?_;intro v5 w9 o5 g5 q5 n5;obtain ⟨a9,c9,rfl⟩:=zU o5;have P9:Hid ((C3 (w9.setCell ⟨O,j,none⟩ (.slice a9 (d2 j+1) c9)) O O x.y (up d2 j) (rcol c2 wi.heap.size (j+1)) (fun q=>if q=j then .slice a9 (d2 j+1) c9 else V2 q) (fun q=>if q=j then (fun i=>if i=d2 j then .slice (some ⟨gq,0,none⟩) x.pn c4 else U2 j i) else U2 q))/\Below O wi (w9.setCell ⟨O,j,none⟩ (.slice a9 (d2 j+1) c9))):=HF2.out.1.c3.push (Nat.le_of_lt HF2.out.1.c3.lt) hj' O8.out.2 O8.out.1 (fun e=>by cases e) o5 (by rw [HVj.out];exact g5) (by rw [HVj.out];exact q5);have t9:(w9.cell? ⟨O,j,none⟩).isSome=true:=(by have kO:w9.heap[O]? = w8.heap[O]?:=g5.block O hO8 (fun e=>by have h9:=(C8.out.ll j hj').rb O (by rw [HVj.out];exact e.symm);have h8:=h9.2;rw [C8.out.co] at h8;omega);rw [zH kO,t8];rfl);have f9:w9.frozen? ⟨O,j,none⟩=false:=(by have kO:w9.heap[O]? = w8.heap[O]?:=g5.block O hO8 (fun e=>by have h9:=(C8.out.ll j hj').rb O (by rw [HVj.out];exact e.symm);have h8:=h9.2;rw [C8.out.co] at h8;omega);rw [zI kO];exact f8);obtain ⟨z9,t9'⟩:=Option.isSome_iff_exists.1 t9;clear o5 g5 q5 n5 t9 t8 f8)
      have F9:Hid (Cf w x O (up d2 j) (rcol c2 wi.heap.size (j+1)) (fun q=>if q=j then .slice a9 (d2 j+1) c9 else V2 q) (fun q=>if q=j then (fun i=>if i=d2 j then .slice (some ⟨gq,0,none⟩) x.pn c4 else U2 j i) else U2 q) (w9.setCell ⟨O,j,none⟩ (.slice a9 (d2 j+1) c9))/\x.y.hs.Put (up d2 j)):=⟨HF2.out.1.next P9.out.1 P9.out.2,.next HF2.out.2 hj' HCan.out⟩
      have HS9:Hid (sumL d x.pn<sumL (up d2 j) x.pn):=by
       show sumL d x.pn<sumL (up d2 j) x.pn
       rw [sumL_up hj']
       exact Nat.lt_succ_of_le (HSm.out)
      go_roundw
      case rel=>exact ⟨_,_,_,_,true,j+1,by omega,by go_num,rfl,F9.out,fun h=>(by cases h),fun _=>HS9.out⟩
      case measure=>simp [intOf];omega
     | some s=>
      obtain ⟨s1,s2⟩:=s
      obtain ⟨m1,m2,m3,m4,m5,-,-,m8⟩:=sdr_at HO.out.1 hj' HDj.out.1 hsd
      have HSd:Hid (sdr x.y j (d2 j)=some (s1,s2)):=hsd
      have HM:Hid ((x.y.hH j (d2 j)).q=(s1:Int)/\s1<x.pn/\s2<x.y.hL s1/\(s1=j->s2<d2 j)):=⟨m2,m3,m4,m8⟩
      rw [m5]
      have hs2:(0:Int)<=(s2:Int):=by omega
      have hs1':(s1:Int)<(x.pn:Int):=by have:s1<x.pn:=m3;omega
      clear m1 m2 m3 m4 m5 m8 hsd
      obtain ⟨s0,s1x,s2x,s3⟩:=(HF2.out.1.below BQ5.out).bs
      rw [HHa.out.1] at s3
      have ch:=HHa.out.2 w5 (HF2.out.1.below BQ5.out).be j hj'
      obtain ⟨be,oe,ee,ze,-,ce,-⟩:=((HHe.out w5 (HF2.out.1.below BQ5.out).be) j hj').at HDj.out.1
      rw [ee] at ch
      have ceq:w5.cell? ⟨be,oe+d2 j*3+1,none⟩=some (.int .i64 (s1:Int)):=by rw [<- HM.out.1];exact ce
      have C5:Hid (C3 w5 O O x.y d2 c2 V2 U2):=HF2.out.1.c3.below BQ5.out
      obtain ⟨as1,cs,eVs⟩:=zU (C5.out.ll s1 HM.out.2.1).row
      have ts:=C5.out.top s1 HM.out.2.1
      rw [eVs] at ts
      have hdi:(d2 j:Int)<(x.hL j:Int):=by have:=HDj.out.1;have h9:x.y.hL j=x.hL j:=rfl;omega
      clear ce ee
      by_cases hcan:s2<d2 s1
      case neg=>
       have hne:((s1:Int) != (j:Int))=true:=by
        have h9:¬ s1=j:=fun e=>hcan (by rw [e];exact HM.out.2.2.2 e)
        have:¬ (s1:Int)=(j:Int):=by omega
        simpa using this
       have hge:(d2 s1:Int)<=(s2:Int):=by omega
       have HNo:Hid (¬ x.y.hs.Can d2 j):=fun h9=>hcan ((can_sdr_iff HO.out.1 hj' HDj.out.1).1 h9 _ HSd.out)
       have HSt2 : Hid ((T2 = false → d2 = d ∧ ∀ q, q < j + 1 → ¬ x.y.hs.Can d q) ∧ (T2 = true → sumL d x.pn < sumL d2 x.pn)) := ⟨fun h => ⟨(HSt.out.1 h).1, fun q hq => by
        have h9:=HSt.out.1 h
        by_cases e:q=j
        ·subst e
         rw [<- h9.1]
         exact HNo.out
        ·exact h9.2 q (by omega)⟩,HSt.out.2⟩
       have F5:Hid (Cf w x O d2 c2 V2 U2 w5/\x.y.hs.Put d2):=⟨HF2.out.1.below BQ5.out,HF2.out.2⟩
       clear hcan eVs
       go_wp2
       go_roundw
       case rel=>exact ⟨d2,c2,V2,U2,T2,j+1,by omega,by go_num,rfl,F5.out,HSt2.out⟩
       case measure=>simp [intOf];omega
      have HCan:Hid (x.y.hs.Can d2 j):=(can_sdr_iff HO.out.1 hj' HDj.out.1).2 fun s hs=>by
       rw [HSd.out] at hs
       obtain rfl:=Option.some.inj hs
       exact hcan
      have hge:¬ (d2 s1:Int)<=(s2:Int):=by omega
      have hlt2:(s2:Int)<(d2 s1:Int):=by omega
      obtain ⟨gs,cs',eV',-,hgs,cs2,-⟩:=(C5.out.ll s1 HM.out.2.1).cell hcan
      have eas:as1=some ⟨gs,0,none⟩:=by
       rw [eVs] at eV'
       simp only [Value.slice.injEq] at eV'
       exact eV'.1
      subst eas
      have oU:OwnI w5 0 (U2 s1 s2) (ckN x.y s1 s2):=by
       have h9:=(C5.out.ll s1 HM.out.2.1).own s2 hcan
       unfold OwnI
       rw [ckN_len]
       exact h9
      obtain ⟨au,cu,eU,sU⟩:=oU.form
      rw [ckN_len] at eU
      rw [eU] at cs2
      have HSu:Hid (Sl w5 au (ckN x.y s1 s2)):=sU
      have HS4:Hid (Sl w5 a4 (pvL x.y j (d2 j))):=by
       have o9:OwnI w5 wi.heap.size (.slice a4 (pvL x.y j (d2 j)).length c4) (pvL x.y j (d2 j)):=by rw [pvL_len];exact O5.out
       exact o9.slOf
      have HNe:Hid ((((s1:Int) != (j:Int))=true)\/(((s1:Int) != (j:Int))=false)):=by
       show _\/_
       cases h9:((s1:Int) != (j:Int))
       ·exact .inr rfl
       ·exact .inl rfl
      clear hcan eVs eV' eU sU oU
      rcases HNe.out with hne | hne
      all_goals
       go_wp2_with fail
       clear s0 s1x s2x s3 ch ceq ts cs2 hge hlt2 hne hdi ze hgs HNe
       refine (l7Join_any a4 au c4 cu (pvL x.y j (d2 j)) (ckN x.y s1 s2) x.pn w5 HS4.out HSu.out (pvL_len _ _ _) (ckN_len _ _ _) (by have:=H4.out;omega)).mono ?_
       rintro e w6 ⟨v6,rfl,o6,b6⟩
       obtain ⟨a6,c6,rfl,-⟩:=o6.form
       rw [jnL_len] at o6 ⊢
       have BQ:Hid (Below wi.heap.size wi w6):=BQ5.out.trans (b6.mono BQ5.out.size)
       have OQ:Hid (OwnI w6 wi.heap.size (.slice a6 x.pn c6) (jnL (pvL x.y j (d2 j)) (ckN x.y s1 s2) x.pn)/\(jnL (pvL x.y j (d2 j)) (ckN x.y s1 s2) x.pn).length=x.pn):=⟨o6.mono BQ5.out.size,jnL_len _ _ _⟩
       have HNw:Hid (∀ q,q<x.pn->zi (jnL (pvL x.y j (d2 j)) (ckN x.y s1 s2) x.pn) q=((max (if d2 j=0 then 0 else clk x.y j (d2 j - 1) q) (match sdr x.y j (d2 j) with | none=>0 | some s=>clk x.y s.1 s.2 q):Nat):Int)):=fun q hq=>by
        rw [HSd.out]
        unfold zi jnL
        rw [List.getD_eq_getElem?_getD,List.getElem?_map,List.getElem?_range hq]
        show cMx (zi (pvL x.y j (d2 j)) q) (zi (ckN x.y s1 s2) q)=_
        rw [pvL_at _ _ _ _ hq,ckN_at _ _ _ _ hq,cMx_nat]
       clear o6 b6 BQ5 O5 C5 HSu HS4
       obtain ⟨gq,cq',eq',hgq,hgl⟩:=OQ.out.1.block (by rw [OQ.out.2];exact HP1.out)
       rw [OQ.out.2] at eq'
       obtain ⟨rfl,rfl⟩:a6=some ⟨gq,0,none⟩/\c6=cq':=by
        simp only [Value.slice.injEq,true_and] at eq'
        exact eq'
       clear eq'
       have cN:w6.cell? ⟨gq,j,none⟩=some (.int .i64 (zi (jnL (pvL x.y j (d2 j)) (ckN x.y s1 s2) x.pn) j)):=by
        have o9:OwnI w6 wi.heap.size (.slice (some ⟨gq,0,none⟩) (jnL (pvL x.y j (d2 j)) (ckN x.y s1 s2) x.pn).length c6) (jnL (pvL x.y j (d2 j)) (ckN x.y s1 s2) x.pn):=by rw [OQ.out.2];exact OQ.out.1
        exact o9.cell (by rw [OQ.out.2];exact hj')
       have fN:w6.frozen? ⟨gq,j,none⟩=false:=by
        have o9:OwnI w6 wi.heap.size (.slice (some ⟨gq,0,none⟩) (jnL (pvL x.y j (d2 j)) (ckN x.y s1 s2) x.pn).length c6) (jnL (pvL x.y j (d2 j)) (ckN x.y s1 s2) x.pn):=by rw [OQ.out.2];exact OQ.out.1
        exact o9.frozen j
       have O8:Hid (OwnI (w6.setCell ⟨gq,j,none⟩ (.int .i64 ((d2 j:Int)+1))) wi.heap.size (.slice (some ⟨gq,0,none⟩) x.pn c6) (ckN x.y j (d2 j))/\Below wi.heap.size wi (w6.setCell ⟨gq,j,none⟩ (.int .i64 ((d2 j:Int)+1)))):=by
        refine ⟨?_,BQ.out.setCell hgq _⟩
        have h9:=(OQ.out.1.set OQ.out.2.symm j ((d2 j:Int)+1)).1
        rw [clk_set HO.out.1 HF2.out.2 hj' HCan.out OQ.out.2 HNw.out] at h9
        exact h9
       go_upto_region 20 with fail
       clear cN fN OQ BQ
       generalize w6.setCell ⟨gq,j,none⟩ (.int .i64 ((d2 j:Int)+1))=w8 at *
       have C8:Hid (C3 w8 O O x.y d2 c2 V2 U2):=HF2.out.1.c3.below O8.out.2
       have t8:=C8.out.top j hj'
       have f8:=C8.out.fz j
       rw [HVj.out] at t8
       have hO8:O<w8.heap.size:=C8.out.lt
       have HRow:Hid (w8.ownsRow 0 30 1 (.slice av (d2 j) cv) (d2 j) ((List.range (d2 j)).map (U2 j))):=by
        have h9:=(C8.out.ll j hj').row
        rw [HVj.out] at h9
        exact h9
       go_wp2_with (at_builtin;refine step_append_val kndZZ w8 rfl rfl _ _ rfl 0 (.slice av (d2 j) cv) (d2 j) _ rfl HRow.out #[.slice (some ⟨gq,0,none⟩) x.pn c6] rfl rfl (by intro u hu;simp at hu;subst hu;rfl) (by have:=HDj.out;omega) (Nat.zero_le _) ?_;intro v5 w9 o5 g5 q5 n5;obtain ⟨a9,c9,rfl⟩:=zU o5;have P9:Hid ((C3 (w9.setCell ⟨O,j,none⟩ (.slice a9 (d2 j+1) c9)) O O x.y (up d2 j) (rcol c2 wi.heap.size (j+1)) (fun q=>if q=j then .slice a9 (d2 j+1) c9 else V2 q) (fun q=>if q=j then (fun i=>if i=d2 j then .slice (some ⟨gq,0,none⟩) x.pn c6 else U2 j i) else U2 q))/\Below O wi (w9.setCell ⟨O,j,none⟩ (.slice a9 (d2 j+1) c9))):=HF2.out.1.c3.push (Nat.le_of_lt HF2.out.1.c3.lt) hj' O8.out.2 O8.out.1 (fun e=>by cases e) o5 (by rw [HVj.out];exact g5) (by rw [HVj.out];exact q5);have t9:(w9.cell? ⟨O,j,none⟩).isSome=true:=(by have kO:w9.heap[O]? = w8.heap[O]?:=g5.block O hO8 (fun e=>by have h9:=(C8.out.ll j hj').rb O (by rw [HVj.out];exact e.symm);have h8:=h9.2;rw [C8.out.co] at h8;omega);rw [zH kO,t8];rfl);have f9:w9.frozen? ⟨O,j,none⟩=false:=(by have kO:w9.heap[O]? = w8.heap[O]?:=g5.block O hO8 (fun e=>by have h9:=(C8.out.ll j hj').rb O (by rw [HVj.out];exact e.symm);have h8:=h9.2;rw [C8.out.co] at h8;omega);rw [zI kO];exact f8);obtain ⟨z9,t9'⟩:=Option.isSome_iff_exists.1 t9;clear o5 g5 q5 n5 t9 t8 f8)
       have F9:Hid (Cf w x O (up d2 j) (rcol c2 wi.heap.size (j+1)) (fun q=>if q=j then .slice a9 (d2 j+1) c9 else V2 q) (fun q=>if q=j then (fun i=>if i=d2 j then .slice (some ⟨gq,0,none⟩) x.pn c6 else U2 j i) else U2 q) (w9.setCell ⟨O,j,none⟩ (.slice a9 (d2 j+1) c9))/\x.y.hs.Put (up d2 j)):=⟨HF2.out.1.next P9.out.1 P9.out.2,.next HF2.out.2 hj' HCan.out⟩
       have HS9:Hid (sumL d x.pn<sumL (up d2 j) x.pn):=by
        show sumL d x.pn<sumL (up d2 j) x.pn
        rw [sumL_up hj']
        exact Nat.lt_succ_of_le (HSm.out)
       go_roundw
       case rel=>exact ⟨_,_,_,_,true,j+1,by omega,by go_num,rfl,F9.out,fun h=>(by cases h),fun _=>HS9.out⟩
       case measure=>simp [intOf];omega
    ·have HN0:Hid (¬ d2 j=0):=h0
     have C4:Hid (C3 w3 O O x.y d2 c2 V2 U2):=HF2.out.1.c3.below B3.out
     have hpos:(0:Int)<(d2 j:Int):=by omega
     have hm1:(d2 j:Int) - 1=((d2 j - 1:Nat):Int):=by omega
     have hm2:d2 j - 1<d2 j:=by omega
     have hm3:((d2 j - 1:Nat):Int)<(d2 j:Int):=by omega
     have t4:=C4.out.top j hj'
     rw [HVj.out] at t4
     have hO4:O<w3.heap.size:=C4.out.lt
     obtain ⟨gs,cs',eV',-,hgs,cs2,-⟩:=(C4.out.ll j hj').cell hm2
     have eas:av=some ⟨gs,0,none⟩:=by
      rw [HVj.out] at eV'
      simp only [Value.slice.injEq] at eV'
      exact eV'.1
     subst eas
     have oU:OwnI w3 0 (U2 j (d2 j - 1)) (ckN x.y j (d2 j - 1)):=by
      have h9:=(C4.out.ll j hj').own (d2 j - 1) hm2
      unfold OwnI
      rw [ckN_len]
      exact h9
     obtain ⟨au,cu,eU,sU⟩:=oU.form
     rw [show (ckN x.y j (d2 j - 1)).length=x.pn from ckN_len _ _ _] at eU
     rw [eU] at cs2
     have HSc:Hid (Src w3 au ((ckN x.y j (d2 j - 1)).map (Value.int .i64))):=by
      rcases sU with h9 | ⟨b,off,h7,h8,h9⟩
      ·exact .inl (by rw [h9];rfl)
      ·refine .inr ⟨b,off,h7,h8,fun i u hu=>?_⟩
       rw [List.getElem?_map] at hu
       cases h6:(ckN x.y j (d2 j - 1))[i]? with
       | none=>rw [h6] at hu;cases hu
       | some z=>
        rw [h6] at hu
        obtain rfl:=Option.some.inj hu
        rw [h9 i (List.getElem?_eq_some_iff.1 h6).1]
        unfold zi
        rw [List.getD_eq_getElem?_getD,h6]
        rfl
     clear h0 eV' eU sU oU O3
     go_upto_region 14 with (at_builtin;refine step_append_srcN kndZ w3 rfl rfl _ _ rfl au x.pn cu ((ckN x.y j (d2 j - 1)).map (Value.int .i64)) rfl rfl (by rw [List.length_map,ckN_len,Nat.mul_one];rfl) HSc.out (by intro u hu;obtain ⟨z,-,rfl⟩:=List.mem_map.1 hu;rfl) (by have:=H4.out;omega) ?_;intro v4 w4 o4 b4 n4;obtain ⟨a4,c4,rfl⟩:=zU o4;have O4:Hid (OwnI w4 wi.heap.size (.slice a4 x.pn c4) (pvL x.y j (d2 j))):=(by show OwnI _ _ _ _;unfold pvL;rw [if_neg HN0.out];refine OwnI.mono (B:=w3.heap.size) ?_ B3.out.size;unfold OwnI;rw [ckN_len];exact o4);have B4:Hid (Below wi.heap.size wi w4):=B3.out.trans (b4.mono B3.out.size);clear o4 b4 n4 B3 HSc cs2 t4 hgs hO4 hm1 hm2 hm3 hpos C4)
     generalize hav:(some ⟨gs,0,none⟩:Option Addr)=av at *
     clear hav
     obtain ⟨s0,s1,s2,s3⟩:=(HF2.out.1.below B4.out).bs
     go_wp2_with fail
     clear s0 s1 s2 s3
     refine (HSn.out j (d2 j) w4 (HF2.out.1.below B4.out).be hj' HDj.out.1).mono ?_
     rintro e w5 ⟨rfl,b5⟩
     have BQ5:Hid (Below wi.heap.size wi w5):=B4.out.trans (b5.mono B4.out.size)
     have O5:Hid (OwnI w5 wi.heap.size (.slice a4 x.pn c4) (pvL x.y j (d2 j))):=O4.out.below b5
     clear b5 O4 B4
     cases hsd:sdr x.y j (d2 j) with
     | none=>
      have HCan:Hid (x.y.hs.Can d2 j):=(can_sdr_iff HO.out.1 hj' HDj.out.1).2 fun s hs=>by rw [hsd] at hs;cases hs
      have hk3:=sdr_none hsd
      rw [show sndN x.y j (d2 j) = -1 from if_neg hk3]
      have HNw:Hid (∀ q,q<x.pn->zi (pvL x.y j (d2 j)) q=((max (if d2 j=0 then 0 else clk x.y j (d2 j - 1) q) (match sdr x.y j (d2 j) with | none=>0 | some s=>clk x.y s.1 s.2 q):Nat):Int)):=fun q hq=>by
       rw [hsd,pvL_at _ _ _ _ hq]
       simp
      have OQ:Hid (OwnI w5 wi.heap.size (.slice a4 x.pn c4) (pvL x.y j (d2 j))/\(pvL x.y j (d2 j)).length=x.pn):=⟨O5.out,pvL_len _ _ _⟩
      have BQ:Hid (Below wi.heap.size wi w5):=BQ5.out
      clear hk3 hsd O5 BQ5
      obtain ⟨gq,cq',eq',hgq,hgl⟩:=OQ.out.1.block (by rw [OQ.out.2];exact HP1.out)
      rw [OQ.out.2] at eq'
      obtain ⟨rfl,rfl⟩:a4=some ⟨gq,0,none⟩/\c4=cq':=by
       simp only [Value.slice.injEq,true_and] at eq'
       exact eq'
      clear eq'
      have cN:w5.cell? ⟨gq,j,none⟩=some (.int .i64 (zi (pvL x.y j (d2 j)) j)):=by
       have o9:OwnI w5 wi.heap.size (.slice (some ⟨gq,0,none⟩) (pvL x.y j (d2 j)).length c4) (pvL x.y j (d2 j)):=by rw [OQ.out.2];exact OQ.out.1
       exact o9.cell (by rw [OQ.out.2];exact hj')
      have fN:w5.frozen? ⟨gq,j,none⟩=false:=by
       have o9:OwnI w5 wi.heap.size (.slice (some ⟨gq,0,none⟩) (pvL x.y j (d2 j)).length c4) (pvL x.y j (d2 j)):=by rw [OQ.out.2];exact OQ.out.1
       exact o9.frozen j
      have O8:Hid (OwnI (w5.setCell ⟨gq,j,none⟩ (.int .i64 ((d2 j:Int)+1))) wi.heap.size (.slice (some ⟨gq,0,none⟩) x.pn c4) (ckN x.y j (d2 j))/\Below wi.heap.size wi (w5.setCell ⟨gq,j,none⟩ (.int .i64 ((d2 j:Int)+1)))):=by
       refine ⟨?_,BQ.out.setCell hgq _⟩
       have h9:=(OQ.out.1.set OQ.out.2.symm j ((d2 j:Int)+1)).1
       rw [clk_set HO.out.1 HF2.out.2 hj' HCan.out OQ.out.2 HNw.out] at h9
       exact h9
      go_upto_region 20 with fail
      clear cN fN OQ BQ
      generalize w5.setCell ⟨gq,j,none⟩ (.int .i64 ((d2 j:Int)+1))=w8 at *
      have C8:Hid (C3 w8 O O x.y d2 c2 V2 U2):=HF2.out.1.c3.below O8.out.2
      have t8:=C8.out.top j hj'
      have f8:=C8.out.fz j
      rw [HVj.out] at t8
      have hO8:O<w8.heap.size:=C8.out.lt
      have HRow:Hid (w8.ownsRow 0 30 1 (.slice av (d2 j) cv) (d2 j) ((List.range (d2 j)).map (U2 j))):=by
       have h9:=(C8.out.ll j hj').row
       rw [HVj.out] at h9
       exact h9
      go_wp2_with (at_builtin;refine step_append_val kndZZ w8 rfl rfl _ _ rfl 0 (.slice av (d2 j) cv) (d2 j) _ rfl HRow.out #[.slice (some ⟨gq,0,none⟩) x.pn c4] rfl rfl (by intro u hu;simp at hu;subst hu;rfl) (by have:=HDj.out;omega) (Nat.zero_le _) ?_;intro v5 w9 o5 g5 q5 n5;obtain ⟨a9,c9,rfl⟩:=zU o5;have P9:Hid ((C3 (w9.setCell ⟨O,j,none⟩ (.slice a9 (d2 j+1) c9)) O O x.y (up d2 j) (rcol c2 wi.heap.size (j+1)) (fun q=>if q=j then .slice a9 (d2 j+1) c9 else V2 q) (fun q=>if q=j then (fun i=>if i=d2 j then .slice (some ⟨gq,0,none⟩) x.pn c4 else U2 j i) else U2 q))/\Below O wi (w9.setCell ⟨O,j,none⟩ (.slice a9 (d2 j+1) c9))):=HF2.out.1.c3.push (Nat.le_of_lt HF2.out.1.c3.lt) hj' O8.out.2 O8.out.1 (fun e=>by cases e) o5 (by rw [HVj.out];exact g5) (by rw [HVj.out];exact q5);have t9:(w9.cell? ⟨O,j,none⟩).isSome=true:=(by have kO:w9.heap[O]? = w8.heap[O]?:=g5.block O hO8 (fun e=>by have h9:=(C8.out.ll j hj').rb O (by rw [HVj.out];exact e.symm);have h8:=h9.2;rw [C8.out.co] at h8;omega);rw [zH kO,t8];rfl);have f9:w9.frozen? ⟨O,j,none⟩=false:=(by have kO:w9.heap[O]? = w8.heap[O]?:=g5.block O hO8 (fun e=>by have h9:=(C8.out.ll j hj').rb O (by rw [HVj.out];exact e.symm);have h8:=h9.2;rw [C8.out.co] at h8;omega);rw [zI kO];exact f8);obtain ⟨z9,t9'⟩:=Option.isSome_iff_exists.1 t9;clear o5 g5 q5 n5 t9 t8 f8)
      have F9:Hid (Cf w x O (up d2 j) (rcol c2 wi.heap.size (j+1)) (fun q=>if q=j then .slice a9 (d2 j+1) c9 else V2 q) (fun q=>if q=j then (fun i=>if i=d2 j then .slice (some ⟨gq,0,none⟩) x.pn c4 else U2 j i) else U2 q) (w9.setCell ⟨O,j,none⟩ (.slice a9 (d2 j+1) c9))/\x.y.hs.Put (up d2 j)):=⟨HF2.out.1.next P9.out.1 P9.out.2,.next HF2.out.2 hj' HCan.out⟩
      have HS9:Hid (sumL d x.pn<sumL (up d2 j) x.pn):=by
       show sumL d x.pn<sumL (up d2 j) x.pn
       rw [sumL_up hj']
       exact Nat.lt_succ_of_le (HSm.out)
      go_roundw
      case rel=>exact ⟨_,_,_,_,true,j+1,by omega,by go_num,rfl,F9.out,fun h=>(by cases h),fun _=>HS9.out⟩
      case measure=>simp [intOf];omega
     | some s=>
      obtain ⟨s1,s2⟩:=s
      obtain ⟨m1,m2,m3,m4,m5,-,-,m8⟩:=sdr_at HO.out.1 hj' HDj.out.1 hsd
      have HSd:Hid (sdr x.y j (d2 j)=some (s1,s2)):=hsd
      have HM:Hid ((x.y.hH j (d2 j)).q=(s1:Int)/\s1<x.pn/\s2<x.y.hL s1/\(s1=j->s2<d2 j)):=⟨m2,m3,m4,m8⟩
      rw [m5]
      have hs2:(0:Int)<=(s2:Int):=by omega
      have hs1':(s1:Int)<(x.pn:Int):=by have:s1<x.pn:=m3;omega
      clear m1 m2 m3 m4 m5 m8 hsd
      obtain ⟨s0,s1x,s2x,s3⟩:=(HF2.out.1.below BQ5.out).bs
      rw [HHa.out.1] at s3
      have ch:=HHa.out.2 w5 (HF2.out.1.below BQ5.out).be j hj'
      obtain ⟨be,oe,ee,ze,-,ce,-⟩:=((HHe.out w5 (HF2.out.1.below BQ5.out).be) j hj').at HDj.out.1
      rw [ee] at ch
      have ceq:w5.cell? ⟨be,oe+d2 j*3+1,none⟩=some (.int .i64 (s1:Int)):=by rw [<- HM.out.1];exact ce
      have C5:Hid (C3 w5 O O x.y d2 c2 V2 U2):=HF2.out.1.c3.below BQ5.out
      obtain ⟨as1,cs,eVs⟩:=zU (C5.out.ll s1 HM.out.2.1).row
      have ts:=C5.out.top s1 HM.out.2.1
      rw [eVs] at ts
      have hdi:(d2 j:Int)<(x.hL j:Int):=by have:=HDj.out.1;have h9:x.y.hL j=x.hL j:=rfl;omega
      clear ce ee
      by_cases hcan:s2<d2 s1
      case neg=>
       have hne:((s1:Int) != (j:Int))=true:=by
        have h9:¬ s1=j:=fun e=>hcan (by rw [e];exact HM.out.2.2.2 e)
        have:¬ (s1:Int)=(j:Int):=by omega
        simpa using this
       have hge:(d2 s1:Int)<=(s2:Int):=by omega
       have HNo:Hid (¬ x.y.hs.Can d2 j):=fun h9=>hcan ((can_sdr_iff HO.out.1 hj' HDj.out.1).1 h9 _ HSd.out)
       have HSt2 : Hid ((T2 = false → d2 = d ∧ ∀ q, q < j + 1 → ¬ x.y.hs.Can d q) ∧ (T2 = true → sumL d x.pn < sumL d2 x.pn)) := ⟨fun h => ⟨(HSt.out.1 h).1, fun q hq => by
        have h9:=HSt.out.1 h
        by_cases e:q=j
        ·subst e
         rw [<- h9.1]
         exact HNo.out
        ·exact h9.2 q (by omega)⟩,HSt.out.2⟩
       have F5:Hid (Cf w x O d2 c2 V2 U2 w5/\x.y.hs.Put d2):=⟨HF2.out.1.below BQ5.out,HF2.out.2⟩
       clear hcan eVs
       go_wp2
       go_roundw
       case rel=>exact ⟨d2,c2,V2,U2,T2,j+1,by omega,by go_num,rfl,F5.out,HSt2.out⟩
       case measure=>simp [intOf];omega
      have HCan:Hid (x.y.hs.Can d2 j):=(can_sdr_iff HO.out.1 hj' HDj.out.1).2 fun s hs=>by
       rw [HSd.out] at hs
       obtain rfl:=Option.some.inj hs
       exact hcan
      have hge:¬ (d2 s1:Int)<=(s2:Int):=by omega
      have hlt2:(s2:Int)<(d2 s1:Int):=by omega
      obtain ⟨gs,cs',eV',-,hgs,cs2,-⟩:=(C5.out.ll s1 HM.out.2.1).cell hcan
      have eas:as1=some ⟨gs,0,none⟩:=by
       rw [eVs] at eV'
       simp only [Value.slice.injEq] at eV'
       exact eV'.1
      subst eas
      have oU:OwnI w5 0 (U2 s1 s2) (ckN x.y s1 s2):=by
       have h9:=(C5.out.ll s1 HM.out.2.1).own s2 hcan
       unfold OwnI
       rw [ckN_len]
       exact h9
      obtain ⟨au,cu,eU,sU⟩:=oU.form
      rw [ckN_len] at eU
      rw [eU] at cs2
      have HSu:Hid (Sl w5 au (ckN x.y s1 s2)):=sU
      have HS4:Hid (Sl w5 a4 (pvL x.y j (d2 j))):=by
       have o9:OwnI w5 wi.heap.size (.slice a4 (pvL x.y j (d2 j)).length c4) (pvL x.y j (d2 j)):=by rw [pvL_len];exact O5.out
       exact o9.slOf
      have HNe:Hid ((((s1:Int) != (j:Int))=true)\/(((s1:Int) != (j:Int))=false)):=by
       show _\/_
       cases h9:((s1:Int) != (j:Int))
       ·exact .inr rfl
       ·exact .inl rfl
      clear hcan eVs eV' eU sU oU
      rcases HNe.out with hne | hne
      all_goals
       go_wp2_with fail
       clear s0 s1x s2x s3 ch ceq ts cs2 hge hlt2 hne hdi ze hgs HNe
       refine (l7Join_any a4 au c4 cu (pvL x.y j (d2 j)) (ckN x.y s1 s2) x.pn w5 HS4.out HSu.out (pvL_len _ _ _) (ckN_len _ _ _) (by have:=H4.out;omega)).mono ?_
       rintro e w6 ⟨v6,rfl,o6,b6⟩
       obtain ⟨a6,c6,rfl,-⟩:=o6.form
       rw [jnL_len] at o6 ⊢
       have BQ:Hid (Below wi.heap.size wi w6):=BQ5.out.trans (b6.mono BQ5.out.size)
       have OQ:Hid (OwnI w6 wi.heap.size (.slice a6 x.pn c6) (jnL (pvL x.y j (d2 j)) (ckN x.y s1 s2) x.pn)/\(jnL (pvL x.y j (d2 j)) (ckN x.y s1 s2) x.pn).length=x.pn):=⟨o6.mono BQ5.out.size,jnL_len _ _ _⟩
       have HNw:Hid (∀ q,q<x.pn->zi (jnL (pvL x.y j (d2 j)) (ckN x.y s1 s2) x.pn) q=((max (if d2 j=0 then 0 else clk x.y j (d2 j - 1) q) (match sdr x.y j (d2 j) with | none=>0 | some s=>clk x.y s.1 s.2 q):Nat):Int)):=fun q hq=>by
        rw [HSd.out]
        unfold zi jnL
        rw [List.getD_eq_getElem?_getD,List.getElem?_map,List.getElem?_range hq]
        show cMx (zi (pvL x.y j (d2 j)) q) (zi (ckN x.y s1 s2) q)=_
        rw [pvL_at _ _ _ _ hq,ckN_at _ _ _ _ hq,cMx_nat]
       clear o6 b6 BQ5 O5 C5 HSu HS4
       obtain ⟨gq,cq',eq',hgq,hgl⟩:=OQ.out.1.block (by rw [OQ.out.2];exact HP1.out)
       rw [OQ.out.2] at eq'
       obtain ⟨rfl,rfl⟩:a6=some ⟨gq,0,none⟩/\c6=cq':=by
        simp only [Value.slice.injEq,true_and] at eq'
        exact eq'
       clear eq'
       have cN:w6.cell? ⟨gq,j,none⟩=some (.int .i64 (zi (jnL (pvL x.y j (d2 j)) (ckN x.y s1 s2) x.pn) j)):=by
        have o9:OwnI w6 wi.heap.size (.slice (some ⟨gq,0,none⟩) (jnL (pvL x.y j (d2 j)) (ckN x.y s1 s2) x.pn).length c6) (jnL (pvL x.y j (d2 j)) (ckN x.y s1 s2) x.pn):=by rw [OQ.out.2];exact OQ.out.1
        exact o9.cell (by rw [OQ.out.2];exact hj')
       have fN:w6.frozen? ⟨gq,j,none⟩=false:=by
        have o9:OwnI w6 wi.heap.size (.slice (some ⟨gq,0,none⟩) (jnL (pvL x.y j (d2 j)) (ckN x.y s1 s2) x.pn).length c6) (jnL (pvL x.y j (d2 j)) (ckN x.y s1 s2) x.pn):=by rw [OQ.out.2];exact OQ.out.1
        exact o9.frozen j
       have O8:Hid (OwnI (w6.setCell ⟨gq,j,none⟩ (.int .i64 ((d2 j:Int)+1))) wi.heap.size (.slice (some ⟨gq,0,none⟩) x.pn c6) (ckN x.y j (d2 j))/\Below wi.heap.size wi (w6.setCell ⟨gq,j,none⟩ (.int .i64 ((d2 j:Int)+1)))):=by
        refine ⟨?_,BQ.out.setCell hgq _⟩
        have h9:=(OQ.out.1.set OQ.out.2.symm j ((d2 j:Int)+1)).1
        rw [clk_set HO.out.1 HF2.out.2 hj' HCan.out OQ.out.2 HNw.out] at h9
        exact h9
       go_upto_region 20 with fail
       clear cN fN OQ BQ
       generalize w6.setCell ⟨gq,j,none⟩ (.int .i64 ((d2 j:Int)+1))=w8 at *
       have C8:Hid (C3 w8 O O x.y d2 c2 V2 U2):=HF2.out.1.c3.below O8.out.2
       have t8:=C8.out.top j hj'
       have f8:=C8.out.fz j
       rw [HVj.out] at t8
       have hO8:O<w8.heap.size:=C8.out.lt
       have HRow:Hid (w8.ownsRow 0 30 1 (.slice av (d2 j) cv) (d2 j) ((List.range (d2 j)).map (U2 j))):=by
        have h9:=(C8.out.ll j hj').row
        rw [HVj.out] at h9
        exact h9
       go_wp2_with (at_builtin;refine step_append_val kndZZ w8 rfl rfl _ _ rfl 0 (.slice av (d2 j) cv) (d2 j) _ rfl HRow.out #[.slice (some ⟨gq,0,none⟩) x.pn c6] rfl rfl (by intro u hu;simp at hu;subst hu;rfl) (by have:=HDj.out;omega) (Nat.zero_le _) ?_;intro v5 w9 o5 g5 q5 n5;obtain ⟨a9,c9,rfl⟩:=zU o5;have P9:Hid ((C3 (w9.setCell ⟨O,j,none⟩ (.slice a9 (d2 j+1) c9)) O O x.y (up d2 j) (rcol c2 wi.heap.size (j+1)) (fun q=>if q=j then .slice a9 (d2 j+1) c9 else V2 q) (fun q=>if q=j then (fun i=>if i=d2 j then .slice (some ⟨gq,0,none⟩) x.pn c6 else U2 j i) else U2 q))/\Below O wi (w9.setCell ⟨O,j,none⟩ (.slice a9 (d2 j+1) c9))):=HF2.out.1.c3.push (Nat.le_of_lt HF2.out.1.c3.lt) hj' O8.out.2 O8.out.1 (fun e=>by cases e) o5 (by rw [HVj.out];exact g5) (by rw [HVj.out];exact q5);have t9:(w9.cell? ⟨O,j,none⟩).isSome=true:=(by have kO:w9.heap[O]? = w8.heap[O]?:=g5.block O hO8 (fun e=>by have h9:=(C8.out.ll j hj').rb O (by rw [HVj.out];exact e.symm);have h8:=h9.2;rw [C8.out.co] at h8;omega);rw [zH kO,t8];rfl);have f9:w9.frozen? ⟨O,j,none⟩=false:=(by have kO:w9.heap[O]? = w8.heap[O]?:=g5.block O hO8 (fun e=>by have h9:=(C8.out.ll j hj').rb O (by rw [HVj.out];exact e.symm);have h8:=h9.2;rw [C8.out.co] at h8;omega);rw [zI kO];exact f8);obtain ⟨z9,t9'⟩:=Option.isSome_iff_exists.1 t9;clear o5 g5 q5 n5 t9 t8 f8)
       have F9:Hid (Cf w x O (up d2 j) (rcol c2 wi.heap.size (j+1)) (fun q=>if q=j then .slice a9 (d2 j+1) c9 else V2 q) (fun q=>if q=j then (fun i=>if i=d2 j then .slice (some ⟨gq,0,none⟩) x.pn c6 else U2 j i) else U2 q) (w9.setCell ⟨O,j,none⟩ (.slice a9 (d2 j+1) c9))/\x.y.hs.Put (up d2 j)):=⟨HF2.out.1.next P9.out.1 P9.out.2,.next HF2.out.2 hj' HCan.out⟩
       have HS9:Hid (sumL d x.pn<sumL (up d2 j) x.pn):=by
        show sumL d x.pn<sumL (up d2 j) x.pn
        rw [sumL_up hj']
        exact Nat.lt_succ_of_le (HSm.out)
       go_roundw
       case rel=>exact ⟨_,_,_,_,true,j+1,by omega,by go_num,rfl,F9.out,fun h=>(by cases h),fun _=>HS9.out⟩
       case measure=>simp [intOf];omega
theorem src_ints {w:World} {a:Option Addr} {xs:List Int} (h:Sl w a xs):Src w a (xs.map (Value.int .i64)):=by
 rcases h with h9 | ⟨b,off,h7,h8,h9⟩
 ·exact .inl (by rw [h9];rfl)
 ·refine .inr ⟨b,off,h7,h8,fun i u hu=>?_⟩
  rw [List.getElem?_map] at hu
  cases h6:xs[i]? with
  | none=>rw [h6] at hu;cases hu
  | some z=>
   rw [h6] at hu
   obtain rfl:=Option.some.inj hu
   rw [h9 i (List.getElem?_eq_some_iff.1 h6).1]
   unfold zi
   rw [List.getD_eq_getElem?_getD,h6]
   rfl
theorem C3.at {w:World} {B O:Nat} {y:Sy} {d c:Nat->Nat} {V:Nat->Value} {U:Nat->Nat->Value} (h:C3 w B O y d c V U) {p i:Nat} (hp:p<y.pn) (hd:d p=y.hL p) (hi:i<y.hL p):
  ∃ g cp au cu,w.cell? ⟨O,p,none⟩=some (.slice (some ⟨g,0,none⟩) (y.hL p) cp)/\w.cell? ⟨g,i,none⟩=some (.slice au y.pn cu)/\Sl w au (ckN y p i)/\O<w.heap.size/\g<w.heap.size:=by
 obtain ⟨g,cp,eV,-,hgs,cs2,-⟩:=(h.ll p hp).cell (show i<d p by rw [hd];exact hi)
 have oU:OwnI w 0 (U p i) (ckN y p i):=by
  have h9:=(h.ll p hp).own i (by rw [hd];exact hi)
  unfold OwnI
  rw [ckN_len]
  exact h9
 obtain ⟨au,cu,eU,sU⟩:=oU.form
 have ht:=h.top p hp
 rw [eV,hd] at ht
 rw [eU,ckN_len] at cs2
 exact ⟨g,cp,au,cu,ht,cs2,sU,h.lt,hgs⟩
theorem specHangs_any (x:SysIn) (p i q j:Int) (w:World) (hG:SysG w x) (hL:x.Len) (hcap:∀ i,i<x.hn->x.hL i<=x.hC i):
  Calls Tryz.prog 24 #[x.v,.int .i64 p,.int .i64 i,.int .i64 q,.int .i64 j] w fun e w'=>e=.returned (.bool (hgB x.y p i q j))/\Below w.heap.size w w':=by
 have HS1:Hid (∀ t,hasB x.y p i=t->∀ wx,Below w.heap.size w wx->Calls Tryz.prog 67 #[x.v,.int .i64 p,.int .i64 i] wx fun e w'=>e=.returned (.bool t)/\Below wx.heap.size wx w'):=fun t h wx hb=>by rw [<- h];exact l7Has_any x p i wx (hG.below hb) hL hcap
 have HS2:Hid (∀ t,hasB x.y q j=t->∀ wx,Below w.heap.size w wx->Calls Tryz.prog 67 #[x.v,.int .i64 q,.int .i64 j] wx fun e w'=>e=.returned (.bool t)/\Below wx.heap.size wx w'):=fun t h wx hb=>by rw [<- h];exact l7Has_any x q j wx (hG.below hb) hL hcap
 have BW:Hid (Below w.heap.size w (w.alloc (oQ4 x.pa x.pn x.pc x.sa x.sn x.sc x.wa x.wn x.wc x.ha x.hn x.hc))):=zT _ _
 have NB:Hid (BoxC (w.alloc (oQ4 x.pa x.pn x.pc x.sa x.sn x.sc x.wa x.wn x.wc x.ha x.hn x.hc)) w.heap.size (.slice x.pa x.pn x.pc) (.slice x.sa x.sn x.sc) (.slice x.wa x.wn x.wc) (.slice x.ha x.hn x.hc)):=BoxC.new w _ _ _ _ _
 by_cases h1:hasB x.y p i=true
 case neg=>
  have hv:hgB x.y p i q j=false:=by simp [hgB,bothB,h1]
  rw [hv]
  have H1:Hid (hasB x.y p i=false):=Bool.eq_false_iff.2 h1
  clear hv h1 HS2 hG hL hcap
  go_enter Tryz.func24,Tryz.ntmps24
  go_wp2_with fail
  generalize w.alloc (oQ4 x.pa x.pn x.pc x.sa x.sn x.sc x.wa x.wn x.wc x.ha x.hn x.hc)=W2 at *
  refine (HS1.out false H1.out W2 BW.out).mono ?_
  rintro e w1 ⟨rfl,q1⟩
  have B1:Hid (Below w.heap.size w w1/\BoxC w1 w.heap.size (.slice x.pa x.pn x.pc) (.slice x.sa x.sn x.sc) (.slice x.wa x.wn x.wc) (.slice x.ha x.hn x.hc)):=⟨BW.out.trans (q1.mono BW.out.size),NB.out.below q1⟩
  clear q1 BW NB HS1
  go_wp2
  go_ret
  exact ⟨rfl,B1.out.1⟩
 have H1:Hid (hasB x.y p i=true):=h1
 by_cases h2:hasB x.y q j=true
 case neg=>
  have hv:hgB x.y p i q j=false:=by simp [hgB,bothB,h2]
  rw [hv]
  have H2:Hid (hasB x.y q j=false):=Bool.eq_false_iff.2 h2
  clear hv h1 h2 hG hL hcap
  go_enter Tryz.func24,Tryz.ntmps24
  go_wp2_with fail
  generalize w.alloc (oQ4 x.pa x.pn x.pc x.sa x.sn x.sc x.wa x.wn x.wc x.ha x.hn x.hc)=W2 at *
  refine (HS1.out true H1.out W2 BW.out).mono ?_
  rintro e w1 ⟨rfl,q1⟩
  have B1:Hid (Below w.heap.size w w1/\BoxC w1 w.heap.size (.slice x.pa x.pn x.pc) (.slice x.sa x.sn x.sc) (.slice x.wa x.wn x.wc) (.slice x.ha x.hn x.hc)):=⟨BW.out.trans (q1.mono BW.out.size),NB.out.below q1⟩
  clear q1 BW NB HS1
  obtain ⟨b0,b1,b2,b3⟩:=B1.out.2
  go_wp2_with fail
  refine (HS2.out false H2.out w1 B1.out.1).mono ?_
  rintro e w2 ⟨rfl,q2⟩
  have B2:Hid (Below w.heap.size w w2/\BoxC w2 w.heap.size (.slice x.pa x.pn x.pc) (.slice x.sa x.sn x.sc) (.slice x.wa x.wn x.wc) (.slice x.ha x.hn x.hc)):=⟨B1.out.1.trans (q2.mono B1.out.1.size),B1.out.2.below q2⟩
  clear q2 b0 b1 b2 b3 B1 HS2
  go_wp2
  go_ret
  exact ⟨rfl,B2.out.1⟩
 have H2:Hid (hasB x.y q j=true):=h2
 obtain ⟨ho,a,b,rfl,rfl,ha,hb⟩:=hasB_parts h1
 obtain ⟨-,c,d,rfl,rfl,hc,hd⟩:=hasB_parts h2
 have hv:hgB x.y a b c d=hgN x.y a b c d:=by simp [hgB,bothB,h1,h2]
 rw [hv]
 have HC:Hid (∀ wx,Below w.heap.size w wx->Calls Tryz.prog 68 #[x.v] wx fun e w'=>∃ O d c V U,e=.returned (.slice (some ⟨O,0,none⟩) x.pn x.pn)/\(∀ p,p<x.pn->d p=x.y.hL p)/\C3 w' O O x.y d c V U/\Below wx.heap.size wx w'):=fun wx hb=>l7Clocks_any x wx (hG.below hb) hcap ho
 have HA:Hid (a<x.pn/\b<x.y.hL a/\c<x.pn):=⟨ha,hb,hc⟩
 clear hv h1 h2 hG hL hcap ho ha hb hc hd
 have HE:Hid ((a=c/\b=d)\/¬ (a=c/\b=d)):=Classical.em _
 rcases HE.out with ⟨rfl,rfl⟩ | hne
 ·have hv:hgN x.y a b a b=false:=by simp [hgN,spEq]
  rw [hv]
  have e1:((a:Int) == (a:Int))=true:=by simp
  have e2:((b:Int) == (b:Int))=true:=by simp
  clear hv
  go_enter Tryz.func24,Tryz.ntmps24
  go_wp2_with fail
  generalize w.alloc (oQ4 x.pa x.pn x.pc x.sa x.sn x.sc x.wa x.wn x.wc x.ha x.hn x.hc)=W2 at *
  refine (HS1.out true H1.out W2 BW.out).mono ?_
  rintro e w1 ⟨rfl,q1⟩
  have B1:Hid (Below w.heap.size w w1/\BoxC w1 w.heap.size (.slice x.pa x.pn x.pc) (.slice x.sa x.sn x.sc) (.slice x.wa x.wn x.wc) (.slice x.ha x.hn x.hc)):=⟨BW.out.trans (q1.mono BW.out.size),NB.out.below q1⟩
  clear q1 BW NB HS1
  obtain ⟨b0,b1,b2,b3⟩:=B1.out.2
  go_wp2_with fail
  refine (HS2.out true H2.out w1 B1.out.1).mono ?_
  rintro e w2 ⟨rfl,q2⟩
  have B2:Hid (Below w.heap.size w w2/\BoxC w2 w.heap.size (.slice x.pa x.pn x.pc) (.slice x.sa x.sn x.sc) (.slice x.wa x.wn x.wc) (.slice x.ha x.hn x.hc)):=⟨B1.out.1.trans (q2.mono B1.out.1.size),B1.out.2.below q2⟩
  clear q2 b0 b1 b2 b3 B1 HS2
  go_wp2
  go_ret
  exact ⟨rfl,B2.out.1⟩
 have HV:Hid (hgN x.y a b c d=decide (d<clk x.y a b c)):=by
  show _=_
  have h9:spEq a b c d=false:=by
   unfold spEq
   simp
   omega
  simp [hgN,h9]
 rw [HV.out]
 have HQ:Hid ((((a:Int) == (c:Int))=true/\((b:Int) == (d:Int))=false)\/((a:Int) == (c:Int))=false):=by
  show _\/_
  by_cases e:a=c
  ·refine .inl ⟨by simp [e],?_⟩
   have:¬ (b:Int)=(d:Int):=by omega
   simpa using this
  ·refine .inr ?_
   have:¬ (a:Int)=(c:Int):=by omega
   simpa using this
 clear hne HE HV
 rcases HQ.out with ⟨e1,e2⟩ | e1
 all_goals
  clear HQ
  go_enter Tryz.func24,Tryz.ntmps24
  go_wp2_with fail
  generalize w.alloc (oQ4 x.pa x.pn x.pc x.sa x.sn x.sc x.wa x.wn x.wc x.ha x.hn x.hc)=W2 at *
  refine (HS1.out true H1.out W2 BW.out).mono ?_
  rintro e w1 ⟨rfl,q1⟩
  have B1:Hid (Below w.heap.size w w1/\BoxC w1 w.heap.size (.slice x.pa x.pn x.pc) (.slice x.sa x.sn x.sc) (.slice x.wa x.wn x.wc) (.slice x.ha x.hn x.hc)):=⟨BW.out.trans (q1.mono BW.out.size),NB.out.below q1⟩
  clear q1 BW NB HS1
  obtain ⟨b0,b1,b2,b3⟩:=B1.out.2
  go_wp2_with fail
  refine (HS2.out true H2.out w1 B1.out.1).mono ?_
  rintro e w2 ⟨rfl,q2⟩
  have B2:Hid (Below w.heap.size w w2/\BoxC w2 w.heap.size (.slice x.pa x.pn x.pc) (.slice x.sa x.sn x.sc) (.slice x.wa x.wn x.wc) (.slice x.ha x.hn x.hc)):=⟨B1.out.1.trans (q2.mono B1.out.1.size),B1.out.2.below q2⟩
  clear q2 b0 b1 b2 b3 B1 HS2
  obtain ⟨b0,b1,b2,b3⟩:=B2.out.2
  go_wp2_with fail
  clear b0 b1 b2 b3 H1 H2
  refine (HC.out w2 B2.out.1).mono ?_
  rintro e w3 ⟨O,dd,cc,V,U,rfl,hd,h3,b3⟩
  obtain ⟨g,cp,au,cu,k1,k2,sl,k3,k4⟩:=h3.at HA.out.1 (hd a HA.out.1) HA.out.2.1
  obtain ⟨bq,oq,rfl,zq,cq⟩:=sl.at (k:=c) (by rw [ckN_len];exact HA.out.2.2)
  rw [ckN_at x.y a b c HA.out.2.2] at cq
  have B3:Hid (Below w.heap.size w w3):=B2.out.1.trans (b3.mono B2.out.1.size)
  have n1:(a:Int)<(x.pn:Int):=by have:=HA.out.1;omega
  have n2:(b:Int)<(x.y.hL a:Int):=by have:=HA.out.2.1;omega
  have n3:(c:Int)<(x.pn:Int):=by have:=HA.out.2.2;omega
  have k2':w3.cell? ⟨g,b,none⟩=some (.slice (some ⟨bq,oq,none⟩) x.pn cu):=k2
  clear hd h3 b3 sl B2 HC HA k2
  generalize x.y.hL a=HLa at *
  go_wp2
  go_ret
  exact ⟨rfl,B3.out⟩
theorem specClock_any (x:SysIn) (p i:Int) (w:World) (hG:SysG w x) (hL:x.Len) (hcap:∀ i,i<x.hn->x.hL i<=x.hC i):
  Calls Tryz.prog 28 #[x.v,.int .i64 p,.int .i64 i] w fun e w'=>∃ u,e=.returned u/\OwnI w' w.heap.size u (ckL x.y p i)/\Below w.heap.size w w':=by
 have HS1:Hid (∀ t,hasB x.y p i=t->∀ wx,Below w.heap.size w wx->Calls Tryz.prog 67 #[x.v,.int .i64 p,.int .i64 i] wx fun e w'=>e=.returned (.bool t)/\Below wx.heap.size wx w'):=fun t h wx hb=>by rw [<- h];exact l7Has_any x p i wx (hG.below hb) hL hcap
 have BW:Hid (Below w.heap.size w (w.alloc (oQ4 x.pa x.pn x.pc x.sa x.sn x.sc x.wa x.wn x.wc x.ha x.hn x.hc))):=zT _ _
 have NB:Hid (BoxC (w.alloc (oQ4 x.pa x.pn x.pc x.sa x.sn x.sc x.wa x.wn x.wc x.ha x.hn x.hc)) w.heap.size (.slice x.pa x.pn x.pc) (.slice x.sa x.sn x.sc) (.slice x.wa x.wn x.wc) (.slice x.ha x.hn x.hc)):=BoxC.new w _ _ _ _ _
 by_cases h1:hasB x.y p i=true
 case neg=>
  have hv:ckL x.y p i=[]:=if_neg h1
  rw [hv]
  have H1:Hid (hasB x.y p i=false):=Bool.eq_false_iff.2 h1
  clear hv h1 hG hL hcap
  go_enter Tryz.func28,Tryz.ntmps28
  go_wp2_with fail
  generalize w.alloc (oQ4 x.pa x.pn x.pc x.sa x.sn x.sc x.wa x.wn x.wc x.ha x.hn x.hc)=W2 at *
  refine (HS1.out false H1.out W2 BW.out).mono ?_
  rintro e w1 ⟨rfl,q1⟩
  have B1:Hid (Below w.heap.size w w1/\BoxC w1 w.heap.size (.slice x.pa x.pn x.pc) (.slice x.sa x.sn x.sc) (.slice x.wa x.wn x.wc) (.slice x.ha x.hn x.hc)):=⟨BW.out.trans (q1.mono BW.out.size),NB.out.below q1⟩
  clear q1 BW NB HS1
  have O9:Hid (OwnI (w1.alloc (.cells #[] 3)) w.heap.size (.slice (some ⟨w1.heap.size,0,none⟩) 0 0) []/\Below w.heap.size w (w1.alloc (.cells #[] 3))):=by
   have h9:=made_own w1 0 (by omega)
   rw [show madeCells #[Value.int .i64 0] 0=#[] by simp [madeCells]] at h9
   exact ⟨h9.mono B1.out.1.size,B1.out.1.trans ((zT _ _).mono B1.out.1.size)⟩
  go_wp2
  go_ret
  exact ⟨_,rfl,O9.out.1,O9.out.2⟩
 have H1:Hid (hasB x.y p i=true):=h1
 obtain ⟨ho,a,b,rfl,rfl,ha,hb⟩:=hasB_parts h1
 have hv:ckL x.y a b=ckN x.y a b:=by
  unfold ckL
  rw [if_pos h1]
  rfl
 rw [hv]
 have HC:Hid (∀ wx,Below w.heap.size w wx->Calls Tryz.prog 68 #[x.v] wx fun e w'=>∃ O d c V U,e=.returned (.slice (some ⟨O,0,none⟩) x.pn x.pn)/\(∀ p,p<x.pn->d p=x.y.hL p)/\C3 w' O O x.y d c V U/\Below wx.heap.size wx w'):=fun wx hb=>l7Clocks_any x wx (hG.below hb) hcap ho
 have HA:Hid (a<x.pn/\b<x.y.hL a/\x.pn<=4):=⟨ha,hb,ho.cn.1.2⟩
 clear hv h1 hG hL hcap ho ha hb
 go_enter Tryz.func28,Tryz.ntmps28
 go_wp2_with fail
 generalize w.alloc (oQ4 x.pa x.pn x.pc x.sa x.sn x.sc x.wa x.wn x.wc x.ha x.hn x.hc)=W2 at *
 refine (HS1.out true H1.out W2 BW.out).mono ?_
 rintro e w1 ⟨rfl,q1⟩
 have B1:Hid (Below w.heap.size w w1/\BoxC w1 w.heap.size (.slice x.pa x.pn x.pc) (.slice x.sa x.sn x.sc) (.slice x.wa x.wn x.wc) (.slice x.ha x.hn x.hc)):=⟨BW.out.trans (q1.mono BW.out.size),NB.out.below q1⟩
 clear q1 BW NB HS1
 obtain ⟨b0,b1,b2,b3⟩:=B1.out.2
 go_upto_region 3 with fail
 clear H1
 have NW:Hid (OwnI (w1.alloc (.cells #[] 3)) w.heap.size (.slice (some ⟨w1.heap.size,0,none⟩) 0 0) []/\Below w.heap.size w (w1.alloc (.cells #[] 3))/\BoxC (w1.alloc (.cells #[] 3)) w.heap.size (.slice x.pa x.pn x.pc) (.slice x.sa x.sn x.sc) (.slice x.wa x.wn x.wc) (.slice x.ha x.hn x.hc)):=by
  have h9:=made_own w1 0 (by omega)
  rw [show madeCells #[Value.int .i64 0] 0=#[] by simp [madeCells]] at h9
  exact ⟨h9.mono B1.out.1.size,B1.out.1.trans ((zT _ _).mono B1.out.1.size),B1.out.2.below (zT _ _)⟩
 clear b0 b1 b2 b3
 obtain ⟨b0,b1,b2,b3⟩:=NW.out.2.2
 go_wp2_with fail
 clear b0 b1 b2 b3
 refine (HC.out _ NW.out.2.1).mono ?_
 rintro e w3 ⟨O,dd,cc,V,U,rfl,hd,h3,b3⟩
 obtain ⟨g,cp,au,cu,k1,k2,sl,k3,k4⟩:=h3.at HA.out.1 (hd a HA.out.1) HA.out.2.1
 have OV:Hid (w3.ownsRow w.heap.size 3 1 (.slice (some ⟨w1.heap.size,0,none⟩) 0 0) 0 []):=NW.out.1.below b3
 have B3:Hid (Below w.heap.size w w3):=NW.out.2.1.trans (b3.mono NW.out.2.1.size)
 have HSc:Hid (Src w3 au ((ckN x.y a b).map (Value.int .i64))):=src_ints sl
 have n1:(a:Int)<(x.pn:Int):=by have:=HA.out.1;omega
 have n2:(b:Int)<(x.y.hL a:Int):=by have:=HA.out.2.1;omega
 have k2':w3.cell? ⟨g,b,none⟩=some (.slice au x.pn cu):=k2
 clear hd h3 b3 sl HC k2 NW
 generalize x.y.hL a=HLa at *
 go_wp2_with (at_builtin;refine step_append_src kndZ w3 rfl _ _ rfl w.heap.size (.slice (some ⟨w1.heap.size,0,none⟩) 0 0) 0 [] rfl OV.out au x.pn cu ((ckN x.y a b).map (Value.int .i64)) rfl (by rw [List.length_map,ckN_len,Nat.mul_one];rfl) HSc.out (by intro u hu;obtain ⟨z,-,rfl⟩:=List.mem_map.1 hu;rfl) (by have:=HA.out.2.2;omega) B3.out.size ?_;intro v4 w4 o4 g4 q4 n4;have O4:Hid (OwnI w4 w.heap.size v4 (ckN x.y a b)/\Below w.heap.size w w4):=(by refine ⟨?_,Below.grown B3.out g4 B3.out.size (fun k hk=>(OV.out.lt k hk).1)⟩;unfold OwnI;rw [ckN_len];rw [Nat.zero_add,List.nil_append] at o4;exact o4);clear o4 g4 q4 n4)
 go_ret
 exact ⟨_,rfl,O4.out.1,O4.out.2⟩
structure Ckx (y:Sy) (d:Nat->Nat):Prop where
 self:∀ p,p<y.pn->∀ i,i<d p->clk y p i p=i+1
 le:∀ p,p<y.pn->∀ i,i<d p->∀ q,clk y p i q<=d q
 mono:∀ p,p<y.pn->∀ i,i<d p->0<i->∀ q,clk y p (i - 1) q<=clk y p i q
 tr:∀ p,p<y.pn->∀ i,i<d p->∀ q,q<y.pn->0<clk y p i q->∀ r,clk y q (clk y p i q - 1) r<=clk y p i r
 anti:∀ p,p<y.pn->∀ i,i<d p->∀ q,q<y.pn->∀ j,j<d q->(p≠q\/i≠j)->j<clk y p i q->¬ i<clk y q j p
 snd:∀ p,p<y.pn->∀ i,i<d p->∀ s,sdr y p i=some s->s.1<y.pn/\s.2<clk y p i s.1
theorem put_ckx {y:Sy} {d:Nat->Nat} (hO:y.Ok) (h:y.hs.Put d):Ckx y d:=by
 induction h with
 | start=>exact ⟨fun p _ i hi=>absurd hi (Nat.not_lt_zero _),fun p _ i hi=>absurd hi (Nat.not_lt_zero _),fun p _ i hi=>absurd hi (Nat.not_lt_zero _),fun p _ i hi=>absurd hi (Nat.not_lt_zero _),fun p _ i hi=>absurd hi (Nat.not_lt_zero _),fun p _ i hi=>absurd hi (Nat.not_lt_zero _)⟩
 | @next d p0 hput hp0 hc ih=>
  have hp0':p0<y.pn:=hp0
  have nx:=clk_next hO hput hp0' hc
  have old:∀ p i,i<up d p0 p->(p=p0/\i=d p0)\/i<d p:=fun p i hi=>by
   by_cases e:p=p0
   ·subst e
    rw [up_same] at hi
    by_cases e':i=d p
    ·exact .inl ⟨rfl,e'⟩
    ·exact .inr (by omega)
   ·rw [up_other e] at hi
    exact .inr hi
  have upl:∀ q,d q<=up d p0 q:=fun q=>by
   by_cases e:q=p0
   ·subst e
    rw [up_same]
    omega
   ·rw [up_other e]
    exact Nat.le_refl _
  have sl:clk y p0 (d p0) p0=d p0+1:=by rw [nx,if_pos rfl]
  have A:∀ q,0<d p0->clk y p0 (d p0 - 1) q<=clk y p0 (d p0) q:=fun q h0=>by
   by_cases e:q=p0
   ·subst e
    rw [sl,ih.self q hp0' (d q - 1) (by omega)]
    omega
   ·rw [nx,if_neg e,if_neg (by omega:¬ d p0=0)]
    exact Nat.le_max_left _ _
  have B:∀ s,sdr y p0 (d p0)=some s->s.1<y.pn/\s.2<d s.1/\∀ q,clk y s.1 s.2 q<=clk y p0 (d p0) q:=fun s hs=>by
   obtain ⟨s1,s2,-⟩:=can_sdr hO hput.le hp0' hc hs
   refine ⟨s1,s2,fun q=>?_⟩
   by_cases e:q=p0
   ·subst e
    rw [sl]
    exact zP (ih.le s.1 s1 s.2 s2 q) (Nat.le_succ _)
   ·rw [nx,if_neg e,hs]
    exact Nat.le_max_right _ _
  have ca:∀ q,q≠p0->0<clk y p0 (d p0) q->(0<d p0/\clk y p0 (d p0) q=clk y p0 (d p0 - 1) q)\/∃ s,sdr y p0 (d p0)=some s/\clk y p0 (d p0) q=clk y s.1 s.2 q:=fun q e h0=>by
   rw [nx,if_neg e] at h0 ⊢
   cases hs:sdr y p0 (d p0) with
   | none=>
    rw [hs] at h0
    by_cases e0:d p0=0
    ·rw [if_pos e0] at h0
     simp at h0
    ·rw [if_neg e0]
     exact .inl ⟨by omega,by simp⟩
   | some s=>
    rw [hs] at h0
    by_cases e0:d p0=0
    ·rw [if_pos e0]
     exact .inr ⟨s,rfl,by simp⟩
    ·rw [if_neg e0]
     rcases Nat.le_total (clk y p0 (d p0 - 1) q) (clk y s.1 s.2 q) with h1 | h1
     ·exact .inr ⟨s,rfl,Nat.max_eq_right h1⟩
     ·exact .inl ⟨by omega,Nat.max_eq_left h1⟩
  have le:∀ q,clk y p0 (d p0) q<=up d p0 q:=fun q=>by
   by_cases e:q=p0
   ·subst e
    rw [sl,up_same]
    exact Nat.le_refl _
   ·rw [up_other e]
    by_cases h0:0<clk y p0 (d p0) q
    ·rcases ca q e h0 with ⟨h1,h2⟩ | ⟨s,h1,h2⟩
     ·rw [h2]
      exact ih.le p0 hp0' _ (by omega) q
     ·obtain ⟨s1,s2,-⟩:=B s h1
      rw [h2]
      exact ih.le s.1 s1 s.2 s2 q
    ·omega
  refine ⟨fun p hp i hi=>?_,fun p hp i hi q=>?_,fun p hp i hi h0 q=>?_,fun p hp i hi q hq h0 r=>?_,fun p hp i hi q hq j hj hne h1 h2=>?_,fun p hp i hi s hs=>?_⟩
  ·rcases old p i hi with ⟨rfl,rfl⟩ | hi'
   ·exact sl
   ·exact ih.self p hp i hi'
  ·rcases old p i hi with ⟨rfl,rfl⟩ | hi'
   ·exact le q
   ·exact zP (ih.le p hp i hi' q) (upl q)
  ·rcases old p i hi with ⟨rfl,rfl⟩ | hi'
   ·exact A q h0
   ·exact ih.mono p hp i hi' h0 q
  ·rcases old p i hi with ⟨rfl,rfl⟩ | hi'
   ·by_cases e:q=p
    ·subst e
     rw [sl,Nat.add_sub_cancel]
     exact Nat.le_refl _
    ·rcases ca q e h0 with ⟨h1,h2⟩ | ⟨s,h1,h2⟩
     ·rw [h2] at h0 ⊢
      exact zP (ih.tr p hp _ (by omega) q hq h0 r) (A r h1)
     ·obtain ⟨s1,s2,s3⟩:=B s h1
      rw [h2] at h0 ⊢
      exact zP (ih.tr s.1 s1 s.2 s2 q hq h0 r) (s3 r)
   ·exact ih.tr p hp i hi' q hq h0 r
  ·rcases old p i hi with ⟨rfl,rfl⟩ | hi'
   ·rcases old q j hj with ⟨rfl,rfl⟩ | hj'
    ·rcases hne with h | h <;> exact h rfl
    ·have:=ih.le q hq j hj' p
     omega
   ·rcases old q j hj with ⟨rfl,rfl⟩ | hj'
    ·have:=ih.le p hp i hi' q
     omega
    ·exact ih.anti p hp i hi' q hq j hj' hne h1 h2
  ·rcases old p i hi with ⟨rfl,rfl⟩ | hi'
   ·obtain ⟨s1,s2,s3⟩:=B s hs
    have h9:=s3 s.1
    rw [ih.self s.1 s1 s.2 s2] at h9
    exact ⟨s1,by omega⟩
   ·exact ih.snd p hp i hi' s hs
theorem Ckx.far {y:Sy} {d:Nat->Nat} (h:Ckx y d) {p:Nat} (hp:p<y.pn) {i:Nat} (hi:i<d p):∀ k,∀ q,clk y p (i - k) q<=clk y p i q
 | 0,q=>Nat.le_refl _
 | k+1,q=>by
  by_cases e:i - k=0
  ·rw [show i - (k+1)=i - k by omega]
   exact h.far hp hi k q
  ·have h1:=h.mono p hp (i - k) (by omega) (by omega) q
   rw [show i - (k+1)=i - k - 1 by omega]
   exact zP h1 (h.far hp hi k q)
theorem Ckx.grow {y:Sy} {d:Nat->Nat} (h:Ckx y d) {p:Nat} (hp:p<y.pn) {i j:Nat} (hi:i<d p) (hj:j<=i) (q:Nat):clk y p j q<=clk y p i q:=by
 have h9:=h.far hp hi (i - j) q
 rw [show i - (i - j)=j by omega] at h9
 exact h9
theorem Ckx.whole {y:Sy} {d:Nat->Nat} (h:Ckx y d) {p:Nat} (hp:p<y.pn) {i:Nat} (hi:i<d p) {q:Nat} (hq:q<y.pn) {k:Nat} (hk:k<clk y p i q) {s:Nat × Nat} (hs:sdr y q k=some s):s.2<clk y p i s.1:=by
 have hd:=h.le p hp i hi q
 obtain ⟨-,h1⟩:=h.snd q hq k (by omega) s hs
 have h2:=h.grow hq (i:=clk y p i q - 1) (j:=k) (by omega) (by omega) s.1
 have h3:=h.tr p hp i hi q hq (by omega) s.1
 omega
theorem Sy.Ok.ckx {y:Sy} (hO:y.Ok):∃ d,Ckx y d/\∀ p,p<y.pn->d p=y.hL p:=by
 obtain ⟨d,hA,hall⟩:=hO.ro
 exact ⟨d,put_ckx hO hA,hall⟩
theorem hgB_parts {y:Sy} {p i q j:Int} (h:hgB y p i q j=true):∃ a b c d:Nat,p=a/\i=b/\q=c/\j=d/\y.Ok/\a<y.pn/\b<y.hL a/\c<y.pn/\d<y.hL c/\(a≠c\/b≠d)/\d<clk y a b c:=by
 unfold hgB bothB at h
 simp only [Bool.and_eq_true] at h
 obtain ⟨⟨h1,h2⟩,h3⟩:=h
 obtain ⟨ho,a,b,rfl,rfl,ha,hb⟩:=hasB_parts h1
 obtain ⟨-,c,d,rfl,rfl,hc,hd⟩:=hasB_parts h2
 refine ⟨a,b,c,d,rfl,rfl,rfl,rfl,ho,ha,hb,hc,hd,?_,?_⟩
 ·simp [hgN,spEq] at h3
  omega
 ·simp [hgN,spEq] at h3
  exact h3.2
theorem hgB_mk {y:Sy} {a b c d:Nat} (ho:y.Ok) (ha:a<y.pn) (hb:b<y.hL a) (hc:c<y.pn) (hd:d<y.hL c) (hne:a≠c\/b≠d) (hlt:d<clk y a b c):hgB y a b c d=true:=by
 have h1:hasB y a b=true:=hasB_mk (Sy.okB_true ho) ha hb
 have h2:hasB y c d=true:=hasB_mk (Sy.okB_true ho) hc hd
 simp [hgB,bothB,h1,h2,hgN,spEq,hlt]
 omega
theorem hgB_anti {y:Sy} {p i q j:Int} (h:hgB y p i q j=true):hgB y q j p i=false:=by
 refine Bool.eq_false_iff.2 fun h'=>?_
 obtain ⟨a,b,c,d,rfl,rfl,rfl,rfl,ho,ha,hb,hc,hd,hne,hlt⟩:=hgB_parts h
 obtain ⟨c',d',a',b',e1,e2,e3,e4,-,-,-,-,-,-,hlt'⟩:=hgB_parts h'
 obtain rfl:c=c':=by omega
 obtain rfl:d=d':=by omega
 obtain rfl:a=a':=by omega
 obtain rfl:b=b':=by omega
 obtain ⟨D,hD,hall⟩:=ho.ckx
 exact hD.anti a ha b (by rw [hall a ha];exact hb) c hc d (by rw [hall c hc];exact hd) hne hlt hlt'
theorem hgB_less {y:Sy} {p i q j:Int} (h:hgB y p i q j=true) (hj:0<j):hgB y p i q (j - 1)=true:=by
 obtain ⟨a,b,c,d,rfl,rfl,rfl,rfl,ho,ha,hb,hc,hd,hne,hlt⟩:=hgB_parts h
 obtain ⟨D,hD,hall⟩:=ho.ckx
 rw [show (d:Int) - 1=((d - 1:Nat):Int) by omega]
 refine hgB_mk ho ha hb hc (by omega) ?_ (by omega)
 by_cases e:a=c
 ·subst e
  rw [hD.self a ha b (by rw [hall a ha];exact hb)] at hlt
  omega
 ·exact .inl e
theorem hgB_next {y:Sy} {p i q j:Int} (h:hgB y p i q j=true) (hi:i+1<y.hL p.toNat):hgB y p (i+1) q j=true:=by
 obtain ⟨a,b,c,d,rfl,rfl,rfl,rfl,ho,ha,hb,hc,hd,hne,hlt⟩:=hgB_parts h
 obtain ⟨D,hD,hall⟩:=ho.ckx
 have hi':b+1<y.hL a:=by
  rw [Int.toNat_natCast] at hi
  omega
 rw [show (b:Int)+1=((b+1:Nat):Int) by omega]
 have h9:=hD.mono a ha (b+1) (by rw [hall a ha];exact hi') (by omega) c
 rw [Nat.add_sub_cancel] at h9
 refine hgB_mk ho ha hi' hc hd ?_ (by omega)
 by_cases e:a=c
 ·subst e
  rw [hD.self a ha b (by rw [hall a ha];exact hb)] at hlt
  omega
 ·exact .inl e
theorem valL_at {eh:Nat->E3} {kd pr:Int} {m:Nat} (hh:hitB eh kd pr m=true):∀ {n:Nat},m<n->(valL eh kd pr n)[cnt eh kd pr m]? = some (eh m).v
 | 0,h=>absurd h (Nat.not_lt_zero _)
 | n+1,h=>by
  have hc:∀ k,(valL eh kd pr k).length=cnt eh kd pr k:=fun k=>by simp [valL,cnt]
  by_cases e:m=n
  ·subst e
   rw [valL_hit hh,List.getElem?_append_right (by rw [hc];exact Nat.le_refl _),hc,Nat.sub_self]
   rfl
  ·have ih:=valL_at hh (n:=n) (by omega)
   rcases zK (hitB eh kd pr n) with h1 | h1
   ·rw [valL_hit h1]
    exact List.getElem?_append_left (List.getElem?_eq_some_iff.1 ih).1 |>.trans ih
   ·rw [valL_not h1]
    exact ih
theorem snd_of {y:Sy} {p i:Int} (h:0<=sndS y p i):∃ a b s1 s2:Nat,p=a/\i=b/\sndS y p i=s2/\y.Ok/\a<y.pn/\b<y.hL a/\s1<y.pn/\s2<y.hL s1/\(y.hH a b).q=s1/\(y.hH s1 s2).k=2/\(y.hH s1 s2).q=a/\(y.hH s1 s2).v=(y.hH a b).v/\hgB y p i s1 s2=true:=by
 by_cases hh:hasB y p i=true
 ·obtain ⟨ho,a,b,rfl,rfl,ha,hb⟩:=hasB_parts hh
  have e:sndS y a b=sndN y a b:=if_pos hh
  have hk:(y.hH a b).k=3:=by
   refine Classical.byContradiction fun hk=>?_
   have h9:sndN y a b = -1:=if_neg hk
   omega
  have hs:sdr y a b=some ((y.hH a b).q.toNat,(sndN y a b).toNat):=if_pos hk
  obtain ⟨m1,m2,m3,m4,m5,m6,m7,m8⟩:=sdr_at ho ha hb hs
  generalize (y.hH a b).q.toNat=s1 at *
  generalize (sndN y a b).toNat=s2 at *
  simp only at m2 m3 m4 m5 m6 m7 m8
  obtain ⟨D,hD,hall⟩:=ho.ckx
  obtain ⟨-,h9⟩:=hD.snd a ha b (by rw [hall a ha];exact hb) _ hs
  have hm6:=m6
  unfold hitB at hm6
  simp only [Bool.and_eq_true,beq_iff_eq] at hm6
  refine ⟨a,b,s1,s2,rfl,rfl,e.trans m5,ho,ha,hb,m3,m4,m2,hm6.1,hm6.2,?_,hgB_mk ho ha hb m3 m4 ?_ h9⟩
  ·have hw:=(ho.wa s1 m3 a ha).eq
   have hit:hitB (y.hH a) 3 s1 b=true:=by simp [hitB,hk,m2]
   have v1:=valL_at hit hb
   have v2:=valL_at m6 m4
   rw [m7,<- hw,List.getElem?_append_left (List.getElem?_eq_some_iff.1 v1).1,v1] at v2
   exact (Option.some.inj v2).symm
  ·by_cases e9:a=s1
   ·exact .inr fun e8=>by
     have:=m8 e9.symm
     omega
   ·exact .inl e9
 ·have e:sndS y p i = -1:=if_neg hh
  omega
theorem clk_whole {y:Sy} (ho:y.Ok) {p:Nat} (hp:p<y.pn) {i:Nat} (hi:i<y.hL p):y.Wh (clk y p i):=fun a ha b hb=>by
 obtain ⟨D,hD,hall⟩:=ho.ckx
 have hi':i<D p:=by rw [hall p hp];exact hi
 refine Classical.byContradiction fun h=>?_
 obtain ⟨k,-,hk,hit,hc⟩:=ovN_yes h
 have hkb:k<y.hL b:=by
  have h1:=hD.le p hp i hi' b
  rw [hall b hb] at h1
  omega
 have hk3:(y.hH b k).k=3/\(y.hH b k).q=(a:Int):=by
  unfold hitB at hit
  simpa using hit
 have hs:sdr y b k=some ((y.hH b k).q.toNat,(sndN y b k).toNat):=if_pos hk3.1
 rw [hk3.2,Int.toNat_natCast] at hs
 obtain ⟨-,-,-,m4,-,m6,m7,-⟩:=sdr_at ho hb hkb hs
 have h2:=hD.whole hp hi' hb hk hs
 simp only at m4 m6 m7 h2
 have h3:=cnt_mono (y.hH a) 2 b (show (sndN y b k).toNat+1<=clk y p i a from h2)
 rw [cnt_hit m6,m7,hc] at h3
 unfold sN at h3
 omega
theorem EvAt.put {w:World} {g n:Nat} {E:Nat->E3} (h:EvAt w g 0 n E) (t:Nat) (z:Int):∃ E',EvAt (w.setCell ⟨g,t,none⟩ (.int .i64 z)) g 0 n E':=by
 have key:∀ (o:Nat) (x:Int),w.cell? ⟨g,o,none⟩=some (.int .i64 x)->(w.setCell ⟨g,t,none⟩ (.int .i64 z)).cell? ⟨g,o,none⟩=some (.int .i64 (if o=t then z else x)):=by
  intro o x hx
  by_cases e:o=t
  ·subst e
   rw [if_pos rfl]
   exact World.cell?_setCell_same _ _ _ hx
  ·rw [if_neg e]
   exact (World.cell?_setCell_other _ _ _ _ fun e'=>e (by injection e' with _ e2;exact e2.symm)).trans hx
 refine ⟨fun i=>⟨if 0+i*3=t then z else (E i).k,if 0+i*3+1=t then z else (E i).q,if 0+i*3+2=t then z else (E i).v⟩,fun i hi=>?_⟩
 obtain ⟨h0,h1,h2⟩:=h i hi
 exact ⟨key _ _ h0,key _ _ h1,key _ _ h2⟩
def flatE (E:Nat->E3):Nat->List Value
 | 0=>[]
 | n+1=>flatE E n ++ [.int .i64 (E n).k,.int .i64 (E n).q,.int .i64 (E n).v]
theorem flatE_length (E:Nat->E3):∀ n,(flatE E n).length=n*3
 | 0=>rfl
 | n+1=>by
  rw [flatE,List.length_append,flatE_length E n]
  simp
  omega
theorem flatE_at (E:Nat->E3):∀ n i,i<n->(flatE E n)[i*3]? = some (.int .i64 (E i).k)/\(flatE E n)[i*3+1]? = some (.int .i64 (E i).q)/\(flatE E n)[i*3+2]? = some (.int .i64 (E i).v)
 | 0,i,hi=>by omega
 | n+1,i,hi=>by
  have hl:=flatE_length E n
  by_cases e:i=n
  ·subst e
   rw [flatE,List.getElem?_append_right (by omega),List.getElem?_append_right (by omega),List.getElem?_append_right (by omega),hl]
   simp
  ·obtain ⟨h0,h1,h2⟩:=flatE_at E n i (by omega)
   rw [flatE,List.getElem?_append_left (by omega),List.getElem?_append_left (by omega),List.getElem?_append_left (by omega)]
   exact ⟨h0,h1,h2⟩
theorem EvAt.cut {w:World} {g k j:Nat} {E:Nat->E3} (h:EvAt w g 0 k E) (hj:j<k):EvAt (w.setCells g (j*3) (flatE (fun i=>E (j+1+i)) (k - (j+1)))) g 0 (j+(k - (j+1))) (fun i=>if i<j then E i else E (i+1)):=by
 intro i hi
 have hl:=flatE_length (fun i=>E (j+1+i)) (k - (j+1))
 by_cases e:i<j
 ·have hout:∀ t,t<j*3->(w.setCells g (j*3) (flatE (fun i=>E (j+1+i)) (k - (j+1)))).cell? ⟨g,t,none⟩=w.cell? ⟨g,t,none⟩:=fun t ht=>World.cell?_setCells_out g _ _ _ _ fun _ _=>.inl ht
  obtain ⟨h0,h1,h2⟩:=h i (by omega)
  simp only [if_pos e]
  exact ⟨(hout _ (by omega)).trans h0,(hout _ (by omega)).trans h1,(hout _ (by omega)).trans h2⟩
 ·simp only [if_neg e]
  have hall:∀ t,t<(flatE (fun i=>E (j+1+i)) (k - (j+1))).length->(w.cell? ⟨g,j*3+t,none⟩).isSome=true:=by
   intro t ht
   rw [hl] at ht
   obtain ⟨h0,h1,h2⟩:=h (j+t / 3) (by omega)
   have he:t=t / 3*3\/t=t / 3*3+1\/t=t / 3*3+2:=by omega
   rcases he with e | e | e
   ·rw [show j*3+t=0+(j+t / 3)*3 from by omega,h0];rfl
   ·rw [show j*3+t=0+(j+t / 3)*3+1 from by omega,h1];rfl
   ·rw [show j*3+t=0+(j+t / 3)*3+2 from by omega,h2];rfl
  have hin:=fun t ht=>World.cell?_setCells_in g (flatE (fun i=>E (j+1+i)) (k - (j+1))) (j*3) w hall t ht
  obtain ⟨f0,f1,f2⟩:=flatE_at (fun i=>E (j+1+i)) (k - (j+1)) (i - j) (by omega)
  have hE:E (j+1+(i - j))=E (i+1):=by rw [show j+1+(i - j)=i+1 from by omega]
  rw [hE] at f0 f1 f2
  refine ⟨?_,?_,?_⟩
  ·rw [show 0+i*3=j*3+(i - j)*3 from by omega,hin _ (by omega),<- f0,List.getElem?_eq_getElem (by omega)]
  ·rw [show 0+i*3+1=j*3+((i - j)*3+1) from by omega,hin _ (by omega),<- f1,List.getElem?_eq_getElem (by omega)]
  ·rw [show 0+i*3+2=j*3+((i - j)*3+2) from by omega,hin _ (by omega),<- f2,List.getElem?_eq_getElem (by omega)]
theorem sameInts_same (a0 a1:Option Addr) (c0 c1:Nat) (xs:List Int) (w:World) (hlen:xs.length<=1048576) (h0:Sl w a0 xs) (h1:Sl w a1 xs):
  Calls Tryz.prog 12 #[.slice a0 xs.length c0,.slice a1 xs.length c1] w fun e w'=>e=.returned (.bool true)/\Below w.heap.size w w':=by
 have hl':(xs.length:Int)<=1048576:=by omega
 have H0:Hid (Sl w a0 xs):=h0
 have H1:Hid (Sl w a1 xs):=h1
 clear h0 h1
 go_enter Tryz.func12,Tryz.ntmps12
 go_wp2_with fail
 go_loopw [5] (fun i wr=>∃ k:Nat,k<=xs.length/\i=.int .i64 k/\Below w.heap.size w wr) (fun i _=>xs.length - (intOf i).toNat)
 case atStart=>exact ⟨0,Nat.zero_le _,rfl,Below.refl _ _⟩
 case round=>
  obtain ⟨k,hk,rfl,hbw⟩:=hrel
  by_cases hlt:k<xs.length
  ·obtain ⟨b,off,rfl,hbl,ck⟩:=(H0.out.below hbw).at hlt
   obtain ⟨b',off',rfl,hbl',ck'⟩:=(H1.out.below hbw).at hlt
   have hlt':(k:Int)<(xs.length:Int):=by omega
   go_wp2_with fail
   go_quiet (fail)
   go_wp2
   go_roundw
   case rel=>exact ⟨k+1,by omega,by go_num,yC hbw _⟩
   case measure=>simp [intOf];omega
  ·go_wp2
   go_ret
   exact ⟨rfl,hbw⟩
theorem big_any (a0:Option Addr) (len cap:Nat) (w:World):
  Calls Tryz.prog 9 #[.slice a0 len cap] w fun e w'=>e=.returned (.bool (decide ((1048576:Int)<len)))/\w'=w:=by
 go_enter Tryz.func9,Tryz.ntmps9
 go_wp2
 go_ret
 exact ⟨rfl,rfl⟩
theorem open_bytes {H:Type} {enc:TypeId × Value->H} {w:World} {a0:Option Addr} {len cap:Nat} {d:DataW H} {p:List MemPlace}
  (h:DataW.Trod enc Tryz.prog w 0 (fun _=>true) true 22 (.slice a0 len cap) d p):len<=maxLen/\BytesAt w w.heap.size a0 len:=by
 obtain ⟨fuel,hf⟩:=h
 rcases open_ints Tryz.underlying22 Tryz.underlying5 (by kernel_rfl) hf with ⟨hcs,_⟩ | ⟨x,l,c,zs,hcs,_,hl,hm,hz,_,hcell,hwz⟩
 ·simp [Value.cells] at hcs
  obtain ⟨_,rfl,_⟩:=hcs
  exact ⟨Nat.zero_le _,.inl rfl⟩
 ·simp [Value.cells] at hcs
  obtain ⟨rfl,rfl,rfl⟩:=hcs
  refine ⟨zP hl hm,?_⟩
  by_cases h0:len=0
  ·exact .inl h0
  right
  have hz':zs.length=cap:=by simpa using hz
  obtain ⟨b,off,rfl,hc⟩:=ints_at hcell (by omega)
  refine ⟨b,off,rfl,cell_lt (hc 0 (by omega)),fun j hj=>⟨zs.getD j 0,hc j (by omega),?_⟩⟩
  have hmem:zs.getD j 0 ∈ zs:=by
   rw [List.getD_eq_getElem?_getD,List.getElem?_eq_getElem (by omega)]
   exact List.getElem_mem _
  exact bounds_u8 (hwz _ hmem)
