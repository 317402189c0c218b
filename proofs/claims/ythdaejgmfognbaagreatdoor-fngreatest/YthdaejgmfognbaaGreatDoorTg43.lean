import Derived.Test.YthdaejgmfognbaaGreatDoorTe0
import Derived.Test.YthdaejgmfognbaaGreatDoorTe34
import Derived.Test.YthdaejgmfognbaaGreatDoorTe29
import Derived.Test.YthdaejgmfognbaaGreatDoorTe22
import Derived.Lib.QuietBelow
import Derived.Deep.RegionWith
import Derived.Deep.RegionLaw
import Derived.BigQuiet
import Derived.Test.YthdaejgmfognbaaGreatDoorTe42
import Derived.Test.YthdaejgmfognbaaGreatDoorTe21
import Derived.Test.YthdaejgmfognbaaGreatDoorTe28
import Derived.Deep.LoopGhost
import Derived.Test.YthdaejgmfognbaaGreatDoorTe41
import Derived.Laws.IdiomCopy
import Derived.Test.YthdaejgmfognbaaGreatDoorTe10
import Derived.Test.YthdaejgmfognbaaGreatDoorTe24
namespace Go.Proofs.YthdaejgmfognbaaGreatDoor
set_option maxRecDepth 100000
set_option maxHeartbeats 16000000
open Go.ChangeShapes Go.WideShapes Go.ChangeAt Go.RowKit Go.Deep Go.Sort
theorem Sl.all {w:World} {a0:Option Addr} {xs:List Int} (h:Sl w a0 xs) (hn:0<xs.length):∃ b off,a0=some ⟨b,off,none⟩/\b<w.heap.size/\∀ i,i<xs.length->w.cell? ⟨b,off+i,none⟩=some (.int .i64 (zi xs i)):=by
 rcases h with rfl | h
 ·simp at hn
 ·exact h
theorem RowS.all {w:World} {a0:Option Addr} {n:Nat} {f:Nat->Value} (h:RowS w a0 n f) (hn:0<n):∃ b off,a0=some ⟨b,off,none⟩/\b<w.heap.size/\∀ i,i<n->w.cell? ⟨b,off+i,none⟩=some (f i):=by
 rcases h with rfl | h
 ·omega
 ·exact h
theorem BoxC.belowB {w w':World} {b:Nat} {v0 v1 v2 v3:Value} {B:Nat} (h:BoxC w b v0 v1 v2 v3) (hb:Below B w w') (hB:b<B):BoxC w' b v0 v1 v2 v3:=by
 obtain ⟨h0,h1,h2,h3⟩:=h
 exact ⟨(hb.cell (p:=⟨b,0,none⟩) hB).trans h0,(hb.cell (p:=⟨b,1,none⟩) hB).trans h1,(hb.cell (p:=⟨b,2,none⟩) hB).trans h2,(hb.cell (p:=⟨b,3,none⟩) hB).trans h3⟩
theorem Sy.Cut.nat {y:Sy} {c:List Int} (h:y.Cut c) {p:Nat} (hp:p<y.pn):zi c p=(cN c p:Nat):=by
 have:=h.le p hp
 unfold cN
 omega
theorem Sy.Cut.leN {y:Sy} {c:List Int} (h:y.Cut c) {p:Nat} (hp:p<y.pn):cN c p<=y.hL p:=by
 have:=h.le p hp
 unfold cN
 omega
theorem l8Cut_any (x:SysIn) (ca:Option Addr) (cc:Nat) (c:List Int) (w:World) (hG:SysG w x) (hL:x.Len) (hhn:x.hn=x.pn) (hc:Sl w ca c) (hcl:c.length<=1048576):
  Calls Tryz.prog 45 #[x.v,.slice ca c.length cc] w fun e w'=>e=.returned (.bool (qB (x.y.Cut c)))/\Below w.heap.size w w':=by
 have HG:Hid (SysG w x):=hG
 have HC:Hid (Sl w ca c):=hc
 have hl':(c.length:Int)<=1048576:=by omega
 have hp':(x.pn:Int)<=1048576:=by have:=hL.p.1;omega
 have HLh:Hid (∀ i,i<x.hn->x.hL i<=1048576):=hL.h.2
 have HN:Hid (x.hn=x.pn):=hhn
 have BW:Hid (Below w.heap.size w (w.alloc (oQ4 x.pa x.pn x.pc x.sa x.sn x.sc x.wa x.wn x.wc x.ha x.hn x.hc))):=zT _ _
 have NB:Hid (BoxC (w.alloc (oQ4 x.pa x.pn x.pc x.sa x.sn x.sc x.wa x.wn x.wc x.ha x.hn x.hc)) w.heap.size (.slice x.pa x.pn x.pc) (.slice x.sa x.sn x.sc) (.slice x.wa x.wn x.wc) (.slice x.ha x.hn x.hc)):=BoxC.new w _ _ _ _ _
 clear hG hL hc hhn
 rcases zK ((c.length:Int) != (x.pn:Int)) with t | t
 case inl=>
  have HV:Hid (qB (x.y.Cut c)=false):=qB_false fun h=>by
   have h1:c.length=x.pn:=h.len
   rw [h1] at t
   simp at t
  go_enter Tryz.func45,Tryz.ntmps45
  go_upto_region 1 with fail
  generalize w.alloc (oQ4 x.pa x.pn x.pc x.sa x.sn x.sc x.wa x.wn x.wc x.ha x.hn x.hc)=W2 at *
  obtain ⟨b0,-,-,-⟩:=NB.out
  go_wp2
  go_ret
  rw [HV.out]
  exact ⟨rfl,BW.out⟩
 have HQ:Hid (c.length=x.pn):=by
  have h:(c.length:Int)=(x.pn:Int):=by simpa using t
  show c.length=x.pn
  omega
 go_enter Tryz.func45,Tryz.ntmps45
 go_upto_region 1 with fail
 generalize w.alloc (oQ4 x.pa x.pn x.pc x.sa x.sn x.sc x.wa x.wn x.wc x.ha x.hn x.hc)=W2 at *
 obtain ⟨b0,-,-,-⟩:=NB.out
 go_wp2_with fail
 clear b0 t
 go_loopw [5] (fun i wr=>∃ k:Nat,k<=c.length/\i=.int .i64 k/\Hid (Below w.heap.size w wr/\BoxC wr w.heap.size (.slice x.pa x.pn x.pc) (.slice x.sa x.sn x.sc) (.slice x.wa x.wn x.wc) (.slice x.ha x.hn x.hc))/\Hid (∀ j,j<k->0<=zi c j/\zi c j<=(x.hL j:Int))) (fun i _=>c.length - (intOf i).toNat)
 case atStart=>exact ⟨0,Nat.zero_le _,rfl,⟨BW.out,NB.out⟩,fun j hj=>by omega⟩
 case round=>
  clear BW NB
  obtain ⟨k,hk,rfl,HB,HK⟩:=hrel
  by_cases hlt:k<c.length
  ·have hlt':(k:Int)<(c.length:Int):=by omega
   have hkn:k<x.hn:=by have:=HQ.out;have:=HN.out;omega
   have hkn':(k:Int)<(x.hn:Int):=by omega
   obtain ⟨cb,co,rfl,-,c0⟩:=(HC.out.below HB.out.1).at hlt
   obtain ⟨bh,oh,eh,ch⟩:=(HG.out.below HB.out.1).h.at hkn
   have b3:=HB.out.2.2.2.2
   rw [eh] at b3
   clear eh
   have HZ:Hid (inB (zi c k) 0 (x.hL k)=true ↔ (0<=zi c k/\zi c k<=(x.hL k:Int))):=by
    show _ ↔ _
    simp [inB]
   generalize hZ:zi c k=Z at *
   have HX:Hid (zi c k=Z):=hZ
   clear hZ
   have q0:=cell_regrown c0
   have qh:=cell_regrown ch
   have q3:=cell_regrown b3
   go_upto_region 6 with fail
   clear c0 ch b3
   refine wp_region_quiet_below (by kernel_rfl) (by kernel_rfl) ?_
   repeat (quiet_step (first|(go_at_call 57;exact Calls.regrown_same (l1In_any _ _ _ _))))
   refine wpQuiet_nil ?_
   intro _ hw'
   obtain ⟨⟨dd,os⟩,hw''⟩:=hw'
   subst hw''
   have B3:Hid (Below w.heap.size w (grow (redrawn wr dd) os)/\BoxC (grow (redrawn wr dd) os) w.heap.size (.slice x.pa x.pn x.pc) (.slice x.sa x.sn x.sc) (.slice x.wa x.wn x.wc) (.slice x.ha x.hn x.hc)):=⟨HB.out.1.trans ((below_regrown wr dd os).mono HB.out.1.size),HB.out.2.below (below_regrown wr dd os)⟩
   generalize grow (redrawn wr dd) os=w3 at *
   clear q0 qh q3 HB
   generalize inB Z 0 (x.hL k)=T at *
   cases T with
   | false=>
    have HV:Hid (qB (x.y.Cut c)=false):=qB_false fun h=>by
     have h1:=h.le k (by have:=HQ.out;show k<x.pn;omega)
     exact absurd (HZ.out.2 (HX.out ▸ h1)) (by decide)
    go_wp2
    go_ret
    rw [HV.out]
    exact ⟨rfl,B3.out.1⟩
   | true=>
    have HK':Hid (∀ j,j<k+1->0<=zi c j/\zi c j<=(x.hL j:Int)):=fun j hj=>by
     by_cases e:j=k
     ·subst e
      rw [HX.out]
      exact HZ.out.1 rfl
     ·exact HK.out j (by omega)
    clear HK HZ
    go_wp2
    go_roundw
    case rel=>exact ⟨k+1,by omega,by go_num,B3.out,HK'.out⟩
    case measure=>simp [intOf];omega
  ·have HV:Hid (qB (x.y.Cut c)=true):=qB_true ⟨HQ.out,fun p hp=>HK.out p (by have:=HQ.out;have h1:p<x.pn:=hp;omega)⟩
   have B3:=HB.out.1
   clear HK HB
   go_wp2
   go_ret
   rw [HV.out]
   exact ⟨rfl,B3⟩
theorem l8Over_any (x:SysIn) (ca:Option Addr) (cc:Nat) (c:List Int) (a b:Nat) (w:World) (hG:SysG w x) (hcap:∀ i,i<x.hn->x.hL i<=x.hC i) (hO:x.y.Ok) (hC:x.y.Cut c) (hc:Sl w ca c) (ha:a<x.pn) (hb:b<x.pn):
  Calls Tryz.prog 94 #[x.v,.slice ca c.length cc,.int .i64 a,.int .i64 b] w fun e w'=>e=.returned (.int .i64 (ovN x.y (cN c) a b))/\Below w.heap.size w w':=by
 have hhn:x.hn=x.pn:=hO.cn.2.2.1
 have hah:a<x.hn:=by omega
 have hbh:b<x.hn:=by omega
 have hla:x.hL a<=200:=hO.hl200 ha
 have hlb:x.hL b<=200:=hO.hl200 hb
 have hka:cN c a<=x.hL a:=hC.leN ha
 have hkb:cN c b<=x.hL b:=hC.leN hb
 have eza:=hC.nat (p:=a) ha
 have ezb:=hC.nat (p:=b) hb
 have hcl:c.length=x.pn:=hC.len
 have hcpa:=hcap a hah
 have hcpb:=hcap b hbh
 have HG:Hid (SysG w x):=hG
 have HSl:Hid (Sl w ca c):=hc
 have hac:(a:Int)<(c.length:Int):=by omega
 have hbc:(b:Int)<(c.length:Int):=by omega
 have ha':(a:Int)<(x.hn:Int):=by omega
 have hb':(b:Int)<(x.hn:Int):=by omega
 have HNo:Hid (tN x.y (cN c) a b<=sN x.y (cN c) a b->ovN x.y (cN c) a b = -1):=ovN_no
 have HYes:Hid (¬ tN x.y (cN c) a b<=sN x.y (cN c) a b->nthV (x.hH b) 3 a (x.hL b) (sN x.y (cN c) a b:Nat)=ovN x.y (cN c) a b):=fun h=>ovN_full h hkb
 have hsl:sN x.y (cN c) a b<=200:=zP (cnt_le _ _ _ _) (by omega)
 have htl:tN x.y (cN c) a b<=200:=zP (cnt_le _ _ _ _) (by omega)
 have ka:=slice_to (x.hA a) (x.hL a) (x.hC a) (cN c a) (by omega)
 have kb:=slice_to (x.hA b) (x.hL b) (x.hC b) (cN c b) (by omega)
 have HC1:Hid (∀ wx,Below w.heap.size w wx->Calls Tryz.prog 115 #[.slice (x.hA a) (cN c a) (x.hC a),.int .i64 2,.int .i64 b] wx fun e w'=>e=.returned (.int .i64 (sN x.y (cN c) a b:Nat))/\Below wx.heap.size wx w'):=fun wx hb=>specCount_l (x.hA a) (cN c a) (x.hC a) (x.hH a) 2 b wx (by omega) (((hG.below hb).hi a hah).take (by omega))
 have HC2:Hid (∀ wx,Below w.heap.size w wx->Calls Tryz.prog 115 #[.slice (x.hA b) (cN c b) (x.hC b),.int .i64 3,.int .i64 a] wx fun e w'=>e=.returned (.int .i64 (tN x.y (cN c) a b:Nat))/\Below wx.heap.size wx w'):=fun wx hb=>specCount_l (x.hA b) (cN c b) (x.hC b) (x.hH b) 3 a wx (by omega) (((hG.below hb).hi b hbh).take (by omega))
 have HNt:Hid (∀ wx,Below w.heap.size w wx->Calls Tryz.prog 121 #[.slice (x.hA b) (x.hL b) (x.hC b),.int .i64 3,.int .i64 a,.int .i64 (sN x.y (cN c) a b:Nat)] wx fun e w'=>e=.returned (.int .i64 (nthV (x.hH b) 3 a (x.hL b) (sN x.y (cN c) a b:Nat)))/\Below wx.heap.size wx w'):=fun wx hb=>specNth_l (x.hA b) (x.hL b) (x.hC b) (x.hH b) 3 a _ wx (by omega) ((hG.below hb).hi b hbh) (by omega) (by omega)
 generalize sN x.y (cN c) a b=sn at *
 generalize tN x.y (cN c) a b=tn at *
 generalize ovN x.y (cN c) a b=ov at *
 generalize nthV (x.hH b) 3 a (x.hL b) (sn:Nat)=nv at *
 have HR:Hid (a<c.length/\b<c.length/\a<x.hn/\b<x.hn/\zi c a=(cN c a:Nat)/\zi c b=(cN c b:Nat)):=⟨by omega,by omega,hah,hbh,eza,ezb⟩
 have BW:Hid (Below w.heap.size w (w.alloc (oQ4 x.pa x.pn x.pc x.sa x.sn x.sc x.wa x.wn x.wc x.ha x.hn x.hc))):=zT _ _
 have NB:Hid (BoxC (w.alloc (oQ4 x.pa x.pn x.pc x.sa x.sn x.sc x.wa x.wn x.wc x.ha x.hn x.hc)) w.heap.size (.slice x.pa x.pn x.pc) (.slice x.sa x.sn x.sc) (.slice x.wa x.wn x.wc) (.slice x.ha x.hn x.hc)):=BoxC.new w _ _ _ _ _
 have hsl':(sn:Int)<=200:=by omega
 have htl':(tn:Int)<=200:=by omega
 clear hG hcap hO hC hc hhn hah hbh hcl eza ezb hcpa hcpb
 obtain ⟨cb,co,rfl,-,-⟩:=HSl.out.all (by have:=HR.out;omega)
 have HSc:Hid (∀ wx,Below w.heap.size w wx->∀ i,i<c.length->wx.cell? ⟨cb,co+i,none⟩=some (.int .i64 (zi c i))):=fun wx hb i hi=>by
  obtain ⟨b',o',e,-,h⟩:=(HSl.out.below hb).at hi
  simp only [Option.some.injEq,Addr.mk.injEq] at e
  obtain ⟨rfl,rfl,-⟩:=e
  exact h
 have HRow:Hid (∃ hb ho,x.ha=some ⟨hb,ho,none⟩/\∀ wx,Below w.heap.size w wx->∀ i,i<x.hn->wx.cell? ⟨hb,ho+i,none⟩=some (.slice (x.hA i) (x.hL i) (x.hC i))):=by
  obtain ⟨b1,o1,e1,-,-⟩:=HG.out.h.all (by have:=HR.out;omega)
  refine ⟨b1,o1,e1,fun wx hb i hi=>?_⟩
  obtain ⟨b',o',e,h⟩:=(HG.out.below hb).h.at hi
  rw [e1] at e
  simp only [Option.some.injEq,Addr.mk.injEq] at e
  obtain ⟨rfl,rfl,-⟩:=e
  exact h
 obtain ⟨hbb,hoo,ehh,hrow⟩:=HRow.out
 have HRw:Hid (∀ wx,Below w.heap.size w wx->∀ i,i<x.hn->wx.cell? ⟨hbb,hoo+i,none⟩=some (.slice (x.hA i) (x.hL i) (x.hC i))):=hrow
 have HE:Hid (x.ha=some ⟨hbb,hoo,none⟩):=ehh
 clear HRow hrow ehh
 go_enter Tryz.func94,Tryz.ntmps94
 go_upto_region 1 with fail
 generalize w.alloc (oQ4 x.pa x.pn x.pc x.sa x.sn x.sc x.wa x.wn x.wc x.ha x.hn x.hc)=W2 at *
 have b3:=NB.out.2.2.2
 rw [HE.out] at b3
 have q3:=cell_regrown b3
 have qa:=cell_regrown (HRw.out W2 BW.out a HR.out.2.2.1)
 have qc:=cell_regrown ((HSc.out W2 BW.out a HR.out.1).trans (by rw [HR.out.2.2.2.2.1]))
 have HQ2:Hid (∀ d os,Below w.heap.size w (grow (redrawn W2 d) os)):=fun d os=>BW.out.trans ((below_regrown W2 d os).mono BW.out.size)
 clear b3
 refine wp_region_quiet_below (by kernel_rfl) (by kernel_rfl) ?_
 repeat (quiet_step (first|(go_at_call 115;exact Calls.regrown_of (HC1.out _ (HQ2.out _ _)))))
 refine wpQuiet_nil ?_
 intro _ hw'
 obtain ⟨⟨dd,os⟩,hw''⟩:=hw'
 subst hw''
 have B3:Hid (Below w.heap.size w (grow (redrawn W2 dd) os)/\BoxC (grow (redrawn W2 dd) os) w.heap.size (.slice x.pa x.pn x.pc) (.slice x.sa x.sn x.sc) (.slice x.wa x.wn x.wc) (.slice x.ha x.hn x.hc)):=⟨HQ2.out dd os,NB.out.below (below_regrown W2 dd os)⟩
 generalize grow (redrawn W2 dd) os=w3 at *
 clear q3 qa qc HQ2 BW NB HC1 ka
 have b3:=B3.out.2.2.2.2
 rw [HE.out] at b3
 have q3:=cell_regrown b3
 have qa:=cell_regrown (HRw.out w3 B3.out.1 b HR.out.2.2.2.1)
 have qc:=cell_regrown ((HSc.out w3 B3.out.1 b HR.out.2.1).trans (by rw [HR.out.2.2.2.2.2]))
 have HQ2:Hid (∀ d os,Below w.heap.size w (grow (redrawn w3 d) os)):=fun d os=>B3.out.1.trans ((below_regrown w3 d os).mono B3.out.1.size)
 clear b3
 go_upto_region 2 with fail
 refine wp_region_quiet_below (by kernel_rfl) (by kernel_rfl) ?_
 repeat (quiet_step (first|(go_at_call 115;exact Calls.regrown_of (HC2.out _ (HQ2.out _ _)))))
 refine wpQuiet_nil ?_
 intro _ hw'
 obtain ⟨⟨dd,os⟩,hw''⟩:=hw'
 subst hw''
 have B4:Hid (Below w.heap.size w (grow (redrawn w3 dd) os)/\BoxC (grow (redrawn w3 dd) os) w.heap.size (.slice x.pa x.pn x.pc) (.slice x.sa x.sn x.sc) (.slice x.wa x.wn x.wc) (.slice x.ha x.hn x.hc)):=⟨HQ2.out dd os,B3.out.2.below (below_regrown w3 dd os)⟩
 generalize grow (redrawn w3 dd) os=w4 at *
 clear q3 qa qc HQ2 B3 HC2 kb
 by_cases hts:tn<=sn
 ·have hts':(tn:Int)<=(sn:Int):=by omega
  have HV:=HNo.out hts
  clear HNo HYes
  go_wp2
  go_ret
  exact ⟨ret_int HV.symm,B4.out.1⟩
 ·have hts':¬ (tn:Int)<=(sn:Int):=by omega
  have HV:Hid (nv=ov):=HYes.out hts
  clear HNo HYes
  have b3:=B4.out.2.2.2.2
  rw [HE.out] at b3
  have qa:=HRw.out w4 B4.out.1 b HR.out.2.2.2.1
  go_wp2_with fail
  refine (HNt.out w4 B4.out.1).mono ?_
  rintro e w5 ⟨rfl,q5⟩
  have B5:Hid (Below w.heap.size w w5):=B4.out.1.trans (q5.mono B4.out.1.size)
  rw [HV.out]
  clear q5 b3 qa B4 HNt HV
  go_wp2
  go_ret
  exact ⟨rfl,B5.out⟩
theorem l8Whole_any (x:SysIn) (ca:Option Addr) (cc:Nat) (c:List Int) (w:World) (hG:SysG w x) (hcap:∀ i,i<x.hn->x.hL i<=x.hC i) (hO:x.y.Ok) (hC:x.y.Cut c) (hc:Sl w ca c):
  Calls Tryz.prog 93 #[x.v,.slice ca c.length cc] w fun e w'=>e=.returned (.bool (qB (x.y.Wh (cN c))))/\Below w.heap.size w w':=by
 have hcl:c.length=x.pn:=hC.len
 have h4:x.pn<=4:=hO.cn.1.2
 have hl':(c.length:Int)<=4:=by omega
 have HQ:Hid (c.length=x.pn):=hcl
 have HOv:Hid (∀ wx,Below w.heap.size w wx->∀ a b,a<c.length->b<c.length->Calls Tryz.prog 94 #[x.v,.slice ca c.length cc,.int .i64 (a:Nat),.int .i64 (b:Nat)] wx fun e w'=>e=.returned (.int .i64 (ovN x.y (cN c) a b))/\Below wx.heap.size wx w'):=fun wx hb a b ha hb'=>l8Over_any x ca cc c a b wx (hG.below hb) hcap hO hC (hc.below hb) (by omega) (by omega)
 have BW:Hid (Below w.heap.size w (w.alloc (oQ4 x.pa x.pn x.pc x.sa x.sn x.sc x.wa x.wn x.wc x.ha x.hn x.hc))):=zT _ _
 have NB:Hid (BoxC (w.alloc (oQ4 x.pa x.pn x.pc x.sa x.sn x.sc x.wa x.wn x.wc x.ha x.hn x.hc)) w.heap.size (.slice x.pa x.pn x.pc) (.slice x.sa x.sn x.sc) (.slice x.wa x.wn x.wc) (.slice x.ha x.hn x.hc)):=BoxC.new w _ _ _ _ _
 clear hG hcap hO hC hc hcl h4
 go_enter Tryz.func93,Tryz.ntmps93
 go_upto_region 1 with fail
 generalize w.alloc (oQ4 x.pa x.pn x.pc x.sa x.sn x.sc x.wa x.wn x.wc x.ha x.hn x.hc)=W2 at *
 go_wp2_with fail
 go_loopw [5] (fun i wr=>∃ k:Nat,k<=c.length/\i=.int .i64 k/\Hid (Below w.heap.size w wr/\BoxC wr w.heap.size (.slice x.pa x.pn x.pc) (.slice x.sa x.sn x.sc) (.slice x.wa x.wn x.wc) (.slice x.ha x.hn x.hc))/\Hid (∀ a,a<k->∀ b,b<c.length->tN x.y (cN c) a b<=sN x.y (cN c) a b)) (fun i _=>c.length - (intOf i).toNat)
 case atStart=>exact ⟨0,Nat.zero_le _,rfl,⟨BW.out,NB.out⟩,fun j hj=>by omega⟩
 case round=>
  clear BW NB
  obtain ⟨k,hk,rfl,HB,HK⟩:=hrel
  by_cases hlt:k<c.length
  ·have hlt':(k:Int)<(c.length:Int):=by omega
   go_wp2_with fail
   go_loopw [6] (fun i wr=>∃ j:Nat,j<=c.length/\i=.int .i64 j/\Hid (Below w.heap.size w wr/\BoxC wr w.heap.size (.slice x.pa x.pn x.pc) (.slice x.sa x.sn x.sc) (.slice x.wa x.wn x.wc) (.slice x.ha x.hn x.hc))/\Hid (∀ b,b<j->tN x.y (cN c) k b<=sN x.y (cN c) k b)) (fun i _=>c.length - (intOf i).toNat)
   case atStart=>exact ⟨0,Nat.zero_le _,rfl,HB.out,fun j hj=>by omega⟩
   case round=>
    clear HB
    obtain ⟨j,hj,rfl,HB,HJ⟩:=hrel
    by_cases hjt:j<c.length
    ·have hjt':(j:Int)<(c.length:Int):=by omega
     obtain ⟨b0,b1,b2,b3⟩:=HB.out.2
     go_wp2_with fail
     refine (HOv.out _ HB.out.1 k j hlt hjt).mono ?_
     rintro e w3 ⟨rfl,q3⟩
     have B3:Hid (Below w.heap.size w w3/\BoxC w3 w.heap.size (.slice x.pa x.pn x.pc) (.slice x.sa x.sn x.sc) (.slice x.wa x.wn x.wc) (.slice x.ha x.hn x.hc)):=⟨HB.out.1.trans (q3.mono HB.out.1.size),HB.out.2.below q3⟩
     have HN:Hid (ovN x.y (cN c) k j<0 ↔ tN x.y (cN c) k j<=sN x.y (cN c) k j):=ovN_neg
     generalize ovN x.y (cN c) k j=ov at *
     clear q3 b0 b1 b2 b3 HB
     by_cases ho:0<=ov
     ·have HV:Hid (qB (x.y.Wh (cN c))=false):=qB_false fun h=>by
       have h1:=HN.out.2 (h k (by have:=HQ.out;show k<x.pn;omega) j (by have:=HQ.out;show j<x.pn;omega))
       omega
      go_wp2
      go_ret
      rw [HV.out]
      exact ⟨rfl,B3.out.1⟩
     ·have HJ':Hid (∀ b,b<j+1->tN x.y (cN c) k b<=sN x.y (cN c) k b):=fun b hb=>by
       by_cases e:b=j
       ·subst e
        exact HN.out.1 (by omega)
       ·exact HJ.out b (by omega)
      clear HJ HN
      go_wp2
      go_roundw
      case rel=>exact ⟨j+1,by omega,by go_num,B3.out,HJ'.out⟩
      case measure=>simp [intOf];omega
    ·have HK':Hid (∀ a,a<k+1->∀ b,b<c.length->tN x.y (cN c) a b<=sN x.y (cN c) a b):=fun a ha b hb=>by
      by_cases e:a=k
      ·subst e
       exact HJ.out b (by omega)
      ·exact HK.out a (by omega) b hb
     clear HK HJ
     go_wp2
     go_roundw
     case rel=>exact ⟨k+1,by omega,by go_num,HB.out,HK'.out⟩
     case measure=>simp [intOf];omega
  ·have HV:Hid (qB (x.y.Wh (cN c))=true):=qB_true fun a ha b hb=>HK.out a (by have:=HQ.out;have h1:a<x.pn:=ha;omega) b (by have:=HQ.out;have h1:b<x.pn:=hb;omega)
   have B3:=HB.out.1
   clear HK HB
   go_wp2
   go_ret
   rw [HV.out]
   exact ⟨rfl,B3⟩
abbrev LLc (w:World) (P:Nat->Prop) (v:Value) (m:Nat) (u:Nat->Value) (y:Sy) (p:Nat):Prop:=LL true 3 1 30 w P v m u (fun _=>y.pn) (fun i=>(ckN y p i).map (Value.int .i64))
structure C3 (w:World) (B O:Nat) (y:Sy) (d c:Nat->Nat) (V:Nat->Value) (U:Nat->Nat->Value):Prop where
 top:∀ p,p<y.pn->w.cell? ⟨O,p,none⟩=some (V p)
 ll:∀ p,p<y.pn->LLc w (fun k=>B<=k/\c k=p+1) (V p) (d p) (U p) y p
 co:c O=0
 fz:∀ j,w.frozen? ⟨O,j,none⟩=false
 lo:B<=O
 lt:O<w.heap.size
theorem C3.below {w w':World} {B O:Nat} {y:Sy} {d c:Nat->Nat} {V:Nat->Value} {U:Nat->Nat->Value} (h:C3 w B O y d c V U) (hb:Below w.heap.size w w'):C3 w' B O y d c V U:=
 ⟨fun p hp=>(hb.cell h.lt).trans (h.top p hp),fun p hp=>(h.ll p hp).below hb,h.co,fun j=>((bcell hb).2 O j h.lt).trans (h.fz j),h.lo,zL h.lt hb.size⟩
theorem C3.new (w:World) (y:Sy):C3 (w.alloc (.cells (madeCells #[.slice none 0 0] y.pn) 107)) w.heap.size w.heap.size y (fun _=>0) (fun _=>0) (fun _=>.slice none 0 0) (fun _ _=>.slice none 0 0):=by
 refine ⟨fun p hp=>?_,fun p _=>LL.nil _ _ _ _ _ _ _ _,rfl,fun j=>yB _ _ _ _ rfl,Nat.le_refl _,by simp⟩
 rw [zW _ _ _ p rfl,<- Array.getElem?_toList,toList_madeCells_one,List.getElem?_replicate,if_pos hp]
theorem C3.push {w w1 w2:World} {B O p:Nat} {y:Sy} {d c:Nat->Nat} {V:Nat->Value} {U:Nat->Nat->Value} {u' v':Value} (h:C3 w B O y d c V U) (hB:B<=w.heap.size) (hp:p<y.pn) (b1:Below w.heap.size w w1) (hu:OwnI w1 w.heap.size u' (ckN y p (d p))) (hne:u'≠.slice none 0 0)
  (hv:w2.ownsRow 0 30 1 v' (d p+1) ((List.range (d p)).map (U p) ++ [u'])) (g:w1.grownBy w2 (V p).ownBlock) (hv':∀ j,v'.ownBlock=some j->(V p).ownBlock=some j\/w1.heap.size<=j):
  C3 (w2.setCell ⟨O,p,none⟩ v') B O y (up d p) (rcol c w.heap.size (p+1)) (fun q=>if q=p then v' else V q) (fun q=>if q=p then (fun j=>if j=d p then u' else U p j) else U q)/\Below B w (w2.setCell ⟨O,p,none⟩ v'):=by
 have hw12:w1.heap.size<=w2.heap.size:=g.size
 have ob:∀ k,(V p).ownBlock=some k->B<=k/\c k=p+1:=(h.ll p hp).rb
 have lk:∀ k,(V p).ownBlock=some k->k<w.heap.size:=fun k hk=>((h.ll p hp).row.lt k hk).2
 have l2:O<w2.heap.size:=zL h.lt (zP b1.size hw12)
 have keep:∀ k,k<w.heap.size->c k≠p+1->w2.heap[k]? = w.heap[k]?:=fun k hk hc=>(g.block k (zL hk b1.size) fun e=>hc (ob k e.symm).2).trans (b1.block k hk)
 have kO:w2.heap[O]? = w.heap[O]?:=keep O h.lt (by rw [h.co];omega)
 have hown:w1.ownsRow w.heap.size 3 1 u' y.pn ((ckN y p (d p)).map (Value.int .i64)):=by
  have h9:w1.ownsRow w.heap.size 3 1 u' (ckN y p (d p)).length ((ckN y p (d p)).map (Value.int .i64)):=hu
  rw [ckN_len] at h9
  exact h9
 have hpush:=(h.ll p hp).push b1 hown (fun _=>hne) hv g hv' (P':=fun k=>B<=k/\rcol c w.heap.size (p+1) k=p+1) (fun k hk hl=>⟨hk.1,(rcol_old hl).trans hk.2⟩) (fun k hk _=>⟨zP hB hk,rcol_new hk⟩)
 have setO:∀ k,k≠O->(w2.setCell ⟨O,p,none⟩ v').heap[k]? = w2.heap[k]?:=fun k hk=>zO _ _ _ _ hk
 refine ⟨⟨fun q hq=>?_,fun q hq=>?_,(rcol_old h.lt).trans h.co,fun j=>?_,h.lo,by simpa using l2⟩,?_⟩
 ·have hc:w2.cell? ⟨O,q,none⟩=some (V q):=(zH kO).trans (h.top q hq)
  by_cases e:q=p
  ·subst e
   rw [if_pos rfl]
   go_cell
  ·rw [if_neg e]
   have:(⟨O,q,none⟩:Addr)≠⟨O,p,none⟩:=fun h9=>e (by injection h9)
   go_cell
 ·by_cases e:q=p
  ·subst e
   simp only [if_true]
   rw [up_same]
   exact hpush.keep fun k hk _=>setO k fun e9=>by
    have:=hk.2
    rw [e9,rcol_old h.lt,h.co] at this
    omega
  ·simp only [if_neg e]
   rw [up_other e]
   refine ((h.ll q hq).mono (P':=fun k=>B<=k/\rcol c w.heap.size (p+1) k=q+1) fun k hk hl=>⟨hk.1,(rcol_old hl).trans hk.2⟩).keep fun k hk hl=>?_
   have h9:c k=q+1:=(rcol_old (c:=c) hl).symm.trans hk.2
   rw [setO k fun e9=>by rw [e9,h.co] at h9;omega]
   exact keep k hl (by omega)
 ·have:w2.frozen? ⟨O,j,none⟩=false:=(zI kO).trans (h.fz j)
  simpa using this
 ·refine Below.setCell ?_ h.lo _
  exact Below.grown (b1.mono hB) g (zP hB b1.size) (fun k hk=>(ob k hk).1)
open Go.Maps
theorem C3.at {w:World} {B O:Nat} {y:Sy} {d c:Nat->Nat} {V:Nat->Value} {U:Nat->Nat->Value} (h:C3 w B O y d c V U) {p i:Nat} (hp:p<y.pn) (hd:d p=y.hL p) (hi:i<y.hL p):
  ∃ g cp au cu,w.cell? ⟨O,p,none⟩=some (.slice (some ⟨g,0,none⟩) (y.hL p) cp)/\w.cell? ⟨g,i,none⟩=some (.slice au y.pn cu)/\Sl w au (ckN y p i)/\O<w.heap.size/\g<w.heap.size:=by
 obtain ⟨g,cp,eV,-,hgs,cs2,-⟩:=(h.ll p hp).cell (show i<d p by rw [hd];exact hi)
 have oU:OwnI w 0 (U p i) (ckN y p i):=by
  have h9:=(h.ll p hp).own i (by rw [hd];exact hi)
  unfold OwnI
  rw [ckN_len]
  exact h9
 obtain ⟨au,cu,eU,sU⟩:=oU.form
 have ht:=h.top p hp
 rw [eV,hd] at ht
 rw [eU,ckN_len] at cs2
 exact ⟨g,cp,au,cu,ht,cs2,sU,h.lt,hgs⟩
structure Ckx (y:Sy) (d:Nat->Nat):Prop where
 self:∀ p,p<y.pn->∀ i,i<d p->clk y p i p=i+1
 le:∀ p,p<y.pn->∀ i,i<d p->∀ q,clk y p i q<=d q
 mono:∀ p,p<y.pn->∀ i,i<d p->0<i->∀ q,clk y p (i - 1) q<=clk y p i q
 tr:∀ p,p<y.pn->∀ i,i<d p->∀ q,q<y.pn->0<clk y p i q->∀ r,clk y q (clk y p i q - 1) r<=clk y p i r
 anti:∀ p,p<y.pn->∀ i,i<d p->∀ q,q<y.pn->∀ j,j<d q->(p≠q\/i≠j)->j<clk y p i q->¬ i<clk y q j p
 snd:∀ p,p<y.pn->∀ i,i<d p->∀ s,sdr y p i=some s->s.1<y.pn/\s.2<clk y p i s.1
theorem put_ckx {y:Sy} {d:Nat->Nat} (hO:y.Ok) (h:y.hs.Put d):Ckx y d:=by
 induction h with
 | start=>exact ⟨fun p _ i hi=>absurd hi (Nat.not_lt_zero _),fun p _ i hi=>absurd hi (Nat.not_lt_zero _),fun p _ i hi=>absurd hi (Nat.not_lt_zero _),fun p _ i hi=>absurd hi (Nat.not_lt_zero _),fun p _ i hi=>absurd hi (Nat.not_lt_zero _),fun p _ i hi=>absurd hi (Nat.not_lt_zero _)⟩
 | @next d p0 hput hp0 hc ih=>
  have hp0':p0<y.pn:=hp0
  have nx:=clk_next hO hput hp0' hc
  have old:∀ p i,i<up d p0 p->(p=p0/\i=d p0)\/i<d p:=fun p i hi=>by
   by_cases e:p=p0
   ·subst e
    rw [up_same] at hi
    by_cases e':i=d p
    ·exact .inl ⟨rfl,e'⟩
    ·exact .inr (by omega)
   ·rw [up_other e] at hi
    exact .inr hi
  have upl:∀ q,d q<=up d p0 q:=fun q=>by
   by_cases e:q=p0
   ·subst e
    rw [up_same]
    omega
   ·rw [up_other e]
    exact Nat.le_refl _
  have sl:clk y p0 (d p0) p0=d p0+1:=by rw [nx,if_pos rfl]
  have A:∀ q,0<d p0->clk y p0 (d p0 - 1) q<=clk y p0 (d p0) q:=fun q h0=>by
   by_cases e:q=p0
   ·subst e
    rw [sl,ih.self q hp0' (d q - 1) (by omega)]
    omega
   ·rw [nx,if_neg e,if_neg (by omega:¬ d p0=0)]
    exact Nat.le_max_left _ _
  have B:∀ s,sdr y p0 (d p0)=some s->s.1<y.pn/\s.2<d s.1/\∀ q,clk y s.1 s.2 q<=clk y p0 (d p0) q:=fun s hs=>by
   obtain ⟨s1,s2,-⟩:=can_sdr hO hput.le hp0' hc hs
   refine ⟨s1,s2,fun q=>?_⟩
   by_cases e:q=p0
   ·subst e
    rw [sl]
    exact zP (ih.le s.1 s1 s.2 s2 q) (Nat.le_succ _)
   ·rw [nx,if_neg e,hs]
    exact Nat.le_max_right _ _
  have ca:∀ q,q≠p0->0<clk y p0 (d p0) q->(0<d p0/\clk y p0 (d p0) q=clk y p0 (d p0 - 1) q)\/∃ s,sdr y p0 (d p0)=some s/\clk y p0 (d p0) q=clk y s.1 s.2 q:=fun q e h0=>by
   rw [nx,if_neg e] at h0 ⊢
   cases hs:sdr y p0 (d p0) with
   | none=>
    rw [hs] at h0
    by_cases e0:d p0=0
    ·rw [if_pos e0] at h0
     simp at h0
    ·rw [if_neg e0]
     exact .inl ⟨by omega,by simp⟩
   | some s=>
    rw [hs] at h0
    by_cases e0:d p0=0
    ·rw [if_pos e0]
     exact .inr ⟨s,rfl,by simp⟩
    ·rw [if_neg e0]
     rcases Nat.le_total (clk y p0 (d p0 - 1) q) (clk y s.1 s.2 q) with h1 | h1
     ·exact .inr ⟨s,rfl,Nat.max_eq_right h1⟩
     ·exact .inl ⟨by omega,Nat.max_eq_left h1⟩
  have le:∀ q,clk y p0 (d p0) q<=up d p0 q:=fun q=>by
   by_cases e:q=p0
   ·subst e
    rw [sl,up_same]
    exact Nat.le_refl _
   ·rw [up_other e]
    by_cases h0:0<clk y p0 (d p0) q
    ·rcases ca q e h0 with ⟨h1,h2⟩ | ⟨s,h1,h2⟩
     ·rw [h2]
      exact ih.le p0 hp0' _ (by omega) q
     ·obtain ⟨s1,s2,-⟩:=B s h1
      rw [h2]
      exact ih.le s.1 s1 s.2 s2 q
    ·omega
  refine ⟨fun p hp i hi=>?_,fun p hp i hi q=>?_,fun p hp i hi h0 q=>?_,fun p hp i hi q hq h0 r=>?_,fun p hp i hi q hq j hj hne h1 h2=>?_,fun p hp i hi s hs=>?_⟩
  ·rcases old p i hi with ⟨rfl,rfl⟩ | hi'
   ·exact sl
   ·exact ih.self p hp i hi'
  ·rcases old p i hi with ⟨rfl,rfl⟩ | hi'
   ·exact le q
   ·exact zP (ih.le p hp i hi' q) (upl q)
  ·rcases old p i hi with ⟨rfl,rfl⟩ | hi'
   ·exact A q h0
   ·exact ih.mono p hp i hi' h0 q
  ·rcases old p i hi with ⟨rfl,rfl⟩ | hi'
   ·by_cases e:q=p
    ·subst e
     rw [sl,Nat.add_sub_cancel]
     exact Nat.le_refl _
    ·rcases ca q e h0 with ⟨h1,h2⟩ | ⟨s,h1,h2⟩
     ·rw [h2] at h0 ⊢
      exact zP (ih.tr p hp _ (by omega) q hq h0 r) (A r h1)
     ·obtain ⟨s1,s2,s3⟩:=B s h1
      rw [h2] at h0 ⊢
      exact zP (ih.tr s.1 s1 s.2 s2 q hq h0 r) (s3 r)
   ·exact ih.tr p hp i hi' q hq h0 r
  ·rcases old p i hi with ⟨rfl,rfl⟩ | hi'
   ·rcases old q j hj with ⟨rfl,rfl⟩ | hj'
    ·rcases hne with h | h <;> exact h rfl
    ·have:=ih.le q hq j hj' p
     omega
   ·rcases old q j hj with ⟨rfl,rfl⟩ | hj'
    ·have:=ih.le p hp i hi' q
     omega
    ·exact ih.anti p hp i hi' q hq j hj' hne h1 h2
  ·rcases old p i hi with ⟨rfl,rfl⟩ | hi'
   ·obtain ⟨s1,s2,s3⟩:=B s hs
    have h9:=s3 s.1
    rw [ih.self s.1 s1 s.2 s2] at h9
    exact ⟨s1,by omega⟩
   ·exact ih.snd p hp i hi' s hs
theorem Ckx.far {y:Sy} {d:Nat->Nat} (h:Ckx y d) {p:Nat} (hp:p<y.pn) {i:Nat} (hi:i<d p):∀ k,∀ q,clk y p (i - k) q<=clk y p i q
 | 0,q=>Nat.le_refl _
 | k+1,q=>by
  by_cases e:i - k=0
  ·rw [show i - (k+1)=i - k by omega]
   exact h.far hp hi k q
  ·have h1:=h.mono p hp (i - k) (by omega) (by omega) q
   rw [show i - (k+1)=i - k - 1 by omega]
   exact zP h1 (h.far hp hi k q)
theorem Ckx.grow {y:Sy} {d:Nat->Nat} (h:Ckx y d) {p:Nat} (hp:p<y.pn) {i j:Nat} (hi:i<d p) (hj:j<=i) (q:Nat):clk y p j q<=clk y p i q:=by
 have h9:=h.far hp hi (i - j) q
 rw [show i - (i - j)=j by omega] at h9
 exact h9
theorem Ckx.whole {y:Sy} {d:Nat->Nat} (h:Ckx y d) {p:Nat} (hp:p<y.pn) {i:Nat} (hi:i<d p) {q:Nat} (hq:q<y.pn) {k:Nat} (hk:k<clk y p i q) {s:Nat × Nat} (hs:sdr y q k=some s):s.2<clk y p i s.1:=by
 have hd:=h.le p hp i hi q
 obtain ⟨-,h1⟩:=h.snd q hq k (by omega) s hs
 have h2:=h.grow hq (i:=clk y p i q - 1) (j:=k) (by omega) (by omega) s.1
 have h3:=h.tr p hp i hi q hq (by omega) s.1
 omega
theorem Sy.Ok.ckx {y:Sy} (hO:y.Ok):∃ d,Ckx y d/\∀ p,p<y.pn->d p=y.hL p:=by
 obtain ⟨d,hA,hall⟩:=hO.ro
 exact ⟨d,put_ckx hO hA,hall⟩
theorem clk_whole {y:Sy} (ho:y.Ok) {p:Nat} (hp:p<y.pn) {i:Nat} (hi:i<y.hL p):y.Wh (clk y p i):=fun a ha b hb=>by
 obtain ⟨D,hD,hall⟩:=ho.ckx
 have hi':i<D p:=by rw [hall p hp];exact hi
 refine Classical.byContradiction fun h=>?_
 obtain ⟨k,-,hk,hit,hc⟩:=ovN_yes h
 have hkb:k<y.hL b:=by
  have h1:=hD.le p hp i hi' b
  rw [hall b hb] at h1
  omega
 have hk3:(y.hH b k).k=3/\(y.hH b k).q=(a:Int):=by
  unfold hitB at hit
  simpa using hit
 have hs:sdr y b k=some ((y.hH b k).q.toNat,(sndN y b k).toNat):=if_pos hk3.1
 rw [hk3.2,Int.toNat_natCast] at hs
 obtain ⟨-,-,-,m4,-,m6,m7,-⟩:=sdr_at ho hb hkb hs
 have h2:=hD.whole hp hi' hb hk hs
 simp only at m4 m6 m7 h2
 have h3:=cnt_mono (y.hH a) 2 b (show (sndN y b k).toNat+1<=clk y p i a from h2)
 rw [cnt_hit m6,m7,hc] at h3
 unfold sN at h3
 omega
theorem EvAt.put {w:World} {g n:Nat} {E:Nat->E3} (h:EvAt w g 0 n E) (t:Nat) (z:Int):∃ E',EvAt (w.setCell ⟨g,t,none⟩ (.int .i64 z)) g 0 n E':=by
 have key:∀ (o:Nat) (x:Int),w.cell? ⟨g,o,none⟩=some (.int .i64 x)->(w.setCell ⟨g,t,none⟩ (.int .i64 z)).cell? ⟨g,o,none⟩=some (.int .i64 (if o=t then z else x)):=by
  intro o x hx
  by_cases e:o=t
  ·subst e
   rw [if_pos rfl]
   exact World.cell?_setCell_same _ _ _ hx
  ·rw [if_neg e]
   exact (World.cell?_setCell_other _ _ _ _ fun e'=>e (by injection e' with _ e2;exact e2.symm)).trans hx
 refine ⟨fun i=>⟨if 0+i*3=t then z else (E i).k,if 0+i*3+1=t then z else (E i).q,if 0+i*3+2=t then z else (E i).v⟩,fun i hi=>?_⟩
 obtain ⟨h0,h1,h2⟩:=h i hi
 exact ⟨key _ _ h0,key _ _ h1,key _ _ h2⟩
def flatE (E:Nat->E3):Nat->List Value
 | 0=>[]
 | n+1=>flatE E n ++ [.int .i64 (E n).k,.int .i64 (E n).q,.int .i64 (E n).v]
theorem flatE_length (E:Nat->E3):∀ n,(flatE E n).length=n*3
 | 0=>rfl
 | n+1=>by
  rw [flatE,List.length_append,flatE_length E n]
  simp
  omega
theorem flatE_at (E:Nat->E3):∀ n i,i<n->(flatE E n)[i*3]? = some (.int .i64 (E i).k)/\(flatE E n)[i*3+1]? = some (.int .i64 (E i).q)/\(flatE E n)[i*3+2]? = some (.int .i64 (E i).v)
 | 0,i,hi=>by omega
 | n+1,i,hi=>by
  have hl:=flatE_length E n
  by_cases e:i=n
  ·subst e
   rw [flatE,List.getElem?_append_right (by omega),List.getElem?_append_right (by omega),List.getElem?_append_right (by omega),hl]
   simp
  ·obtain ⟨h0,h1,h2⟩:=flatE_at E n i (by omega)
   rw [flatE,List.getElem?_append_left (by omega),List.getElem?_append_left (by omega),List.getElem?_append_left (by omega)]
   exact ⟨h0,h1,h2⟩
theorem EvAt.cut {w:World} {g k j:Nat} {E:Nat->E3} (h:EvAt w g 0 k E) (hj:j<k):EvAt (w.setCells g (j*3) (flatE (fun i=>E (j+1+i)) (k - (j+1)))) g 0 (j+(k - (j+1))) (fun i=>if i<j then E i else E (i+1)):=by
 intro i hi
 have hl:=flatE_length (fun i=>E (j+1+i)) (k - (j+1))
 by_cases e:i<j
 ·have hout:∀ t,t<j*3->(w.setCells g (j*3) (flatE (fun i=>E (j+1+i)) (k - (j+1)))).cell? ⟨g,t,none⟩=w.cell? ⟨g,t,none⟩:=fun t ht=>World.cell?_setCells_out g _ _ _ _ fun _ _=>.inl ht
  obtain ⟨h0,h1,h2⟩:=h i (by omega)
  simp only [if_pos e]
  exact ⟨(hout _ (by omega)).trans h0,(hout _ (by omega)).trans h1,(hout _ (by omega)).trans h2⟩
 ·simp only [if_neg e]
  have hall:∀ t,t<(flatE (fun i=>E (j+1+i)) (k - (j+1))).length->(w.cell? ⟨g,j*3+t,none⟩).isSome=true:=by
   intro t ht
   rw [hl] at ht
   obtain ⟨h0,h1,h2⟩:=h (j+t / 3) (by omega)
   have he:t=t / 3*3\/t=t / 3*3+1\/t=t / 3*3+2:=by omega
   rcases he with e | e | e
   ·rw [show j*3+t=0+(j+t / 3)*3 from by omega,h0];rfl
   ·rw [show j*3+t=0+(j+t / 3)*3+1 from by omega,h1];rfl
   ·rw [show j*3+t=0+(j+t / 3)*3+2 from by omega,h2];rfl
  have hin:=fun t ht=>World.cell?_setCells_in g (flatE (fun i=>E (j+1+i)) (k - (j+1))) (j*3) w hall t ht
  obtain ⟨f0,f1,f2⟩:=flatE_at (fun i=>E (j+1+i)) (k - (j+1)) (i - j) (by omega)
  have hE:E (j+1+(i - j))=E (i+1):=by rw [show j+1+(i - j)=i+1 from by omega]
  rw [hE] at f0 f1 f2
  refine ⟨?_,?_,?_⟩
  ·rw [show 0+i*3=j*3+(i - j)*3 from by omega,hin _ (by omega),<- f0,List.getElem?_eq_getElem (by omega)]
  ·rw [show 0+i*3+1=j*3+((i - j)*3+1) from by omega,hin _ (by omega),<- f1,List.getElem?_eq_getElem (by omega)]
  ·rw [show 0+i*3+2=j*3+((i - j)*3+2) from by omega,hin _ (by omega),<- f2,List.getElem?_eq_getElem (by omega)]
theorem sameInts_same (a0 a1:Option Addr) (c0 c1:Nat) (xs:List Int) (w:World) (hlen:xs.length<=1048576) (h0:Sl w a0 xs) (h1:Sl w a1 xs):
  Calls Tryz.prog 12 #[.slice a0 xs.length c0,.slice a1 xs.length c1] w fun e w'=>e=.returned (.bool true)/\Below w.heap.size w w':=by
 have hl':(xs.length:Int)<=1048576:=by omega
 have H0:Hid (Sl w a0 xs):=h0
 have H1:Hid (Sl w a1 xs):=h1
 clear h0 h1
 go_enter Tryz.func12,Tryz.ntmps12
 go_wp2_with fail
 go_loopw [5] (fun i wr=>∃ k:Nat,k<=xs.length/\i=.int .i64 k/\Below w.heap.size w wr) (fun i _=>xs.length - (intOf i).toNat)
 case atStart=>exact ⟨0,Nat.zero_le _,rfl,Below.refl _ _⟩
 case round=>
  obtain ⟨k,hk,rfl,hbw⟩:=hrel
  by_cases hlt:k<xs.length
  ·obtain ⟨b,off,rfl,hbl,ck⟩:=(H0.out.below hbw).at hlt
   obtain ⟨b',off',rfl,hbl',ck'⟩:=(H1.out.below hbw).at hlt
   have hlt':(k:Int)<(xs.length:Int):=by omega
   go_wp2_with fail
   go_quiet (fail)
   go_wp2
   go_roundw
   case rel=>exact ⟨k+1,by omega,by go_num,yC hbw _⟩
   case measure=>simp [intOf];omega
  ·go_wp2
   go_ret
   exact ⟨rfl,hbw⟩
theorem big_any (a0:Option Addr) (len cap:Nat) (w:World):
  Calls Tryz.prog 9 #[.slice a0 len cap] w fun e w'=>e=.returned (.bool (decide ((1048576:Int)<len)))/\w'=w:=by
 go_enter Tryz.func9,Tryz.ntmps9
 go_wp2
 go_ret
 exact ⟨rfl,rfl⟩
theorem open_bytes {H:Type} {enc:TypeId × Value->H} {w:World} {a0:Option Addr} {len cap:Nat} {d:DataW H} {p:List MemPlace}
  (h:DataW.Trod enc Tryz.prog w 0 (fun _=>true) true 22 (.slice a0 len cap) d p):len<=maxLen/\BytesAt w w.heap.size a0 len:=by
 obtain ⟨fuel,hf⟩:=h
 rcases open_ints Tryz.underlying22 Tryz.underlying5 (by kernel_rfl) hf with ⟨hcs,_⟩ | ⟨x,l,c,zs,hcs,_,hl,hm,hz,_,hcell,hwz⟩
 ·simp [Value.cells] at hcs
  obtain ⟨_,rfl,_⟩:=hcs
  exact ⟨Nat.zero_le _,.inl rfl⟩
 ·simp [Value.cells] at hcs
  obtain ⟨rfl,rfl,rfl⟩:=hcs
  refine ⟨zP hl hm,?_⟩
  by_cases h0:len=0
  ·exact .inl h0
  right
  have hz':zs.length=cap:=by simpa using hz
  obtain ⟨b,off,rfl,hc⟩:=ints_at hcell (by omega)
  refine ⟨b,off,rfl,cell_lt (hc 0 (by omega)),fun j hj=>⟨zs.getD j 0,hc j (by omega),?_⟩⟩
  have hmem:zs.getD j 0 ∈ zs:=by
   rw [List.getD_eq_getElem?_getD,List.getElem?_eq_getElem (by omega)]
   exact List.getElem_mem _
  exact bounds_u8 (hwz _ hmem)
