/- Proved: whatever bytes are drawn by, of a drawn event the clock has itself and, of each other process, no more than that has done, with the clock of the last one of these nowhere greater; the clock is a cut that is whole. Nothing is written into what was handed in. One condition, tied to the program's text: errors.errorType holds what its text lays. -/
import Derived.Test.YthdaejgmfognbaaGreatDoorTe0
import Derived.Test.YthdaejgmfognbaaGreatDoorTe45
import Derived.Test.YthdaejgmfognbaaGreatDoorTe43
import Derived.Test.YthdaejgmfognbaaGreatDoorTe46
import Derived.Test.YthdaejgmfognbaaGreatDoorTe33
import Derived.Deep.RegionLaw
import Derived.Deep.Cut
import Derived.Lib.QuietBelow
import Derived.BigRegion
import Derived.BigQuiet
import Derived.Test.YthdaejgmfognbaaGreatDoorTe14
import Derived.Test.YthdaejgmfognbaaGreatDoorCards
import Derived.SevenTiedAt
namespace Go.Proofs.YthdaejgmfognbaaGreatDoor
set_option maxRecDepth 100000
set_option maxHeartbeats 8000000
open Go.RowKit Go.Deep
theorem Sl.same {w:World} {b off:Nat} {xs:List Int} (h:Sl w (some ⟨b,off,none⟩) xs) {k:Nat} (hk:k<xs.length):b<w.heap.size/\w.cell? ⟨b,off+k,none⟩=some (.int .i64 (zi xs k)):=by
 obtain ⟨b',o',e,z,c⟩:=h.at hk
 obtain ⟨rfl,rfl⟩:b=b'/\off=o':=by simpa using e
 exact ⟨z,c⟩
theorem ckN_whole {y:Sy} (ho:y.Ok) {p:Nat} (hp:p<y.pn) {i:Nat} (hi:i<y.hL p):whB y (ckN y p i)=true:=by
 obtain ⟨D,hD,hall⟩:=ho.ckx
 have hi':i<D p:=by rw [hall p hp];exact hi
 have hc:∀ q,q<y.pn->cN (ckN y p i) q=clk y p i q:=fun q hq=>by
  unfold cN
  rw [ckN_at y p i q hq]
  exact Int.toNat_natCast _
 have h1 : y.Cut (ckN y p i) := ⟨ckN_len y p i, fun q hq => by
  rw [ckN_at y p i q hq]
  have h9:=hD.le p hp i hi' q
  rw [hall q hq] at h9
  omega⟩
 have h2:y.Wh (cN (ckN y p i)):=fun a ha b hb=>by
  have h9:=clk_whole ho hp hi a ha b hb
  unfold tN sN at h9 ⊢
  rw [hc a ha,hc b hb]
  exact h9
 unfold whB cutB
 rw [Sy.okB_true ho,qB_true h1,qB_true h2]
 rfl
theorem clockDLaw_small (a0:Option Addr) (len cap:Nat) (w:World) (hl:len<=1048576) (hB:BytesAt w w.heap.size a0 len) (hV:w.cell? ⟨0,0,none⟩=some (.iface 266 (.agg #[.pointer (some ⟨1,211,none⟩)]))):
  Calls Tryz.prog 6 #[.slice a0 len cap] w fun e w'=>e=.returned (.bool true)/\Below w.heap.size w w':=by
 have HB:Hid (BytesAt w w.heap.size a0 len):=hB
 have HV:Hid (∀ wx,Below w.heap.size w wx->wx.cell? ⟨0,0,none⟩=some (.iface 266 (.agg #[.pointer (some ⟨1,211,none⟩)]))):=fun wx hb=>(hb.cell (p:=⟨0,0,none⟩) (zJ w _ hV)).trans hV
 have hlt:¬ (1048576:Int)<(len:Int):=by omega
 clear hB hV
 go_enter Tryz.func6,Tryz.ntmps6
 go_wp2_with fail
 refine (big_any a0 len cap w).mono ?_
 rintro e w1 ⟨rfl,rfl⟩
 rw [decide_eq_false (show ¬ (1048576:Int)<(len:Int) by omega)]
 go_wp2_with fail
 refine (DrawClock_any w1.heap.size len cap a0 w1 HB.out (Nat.le_refl _) hl).mono ?_
 rintro e w2 ⟨x,p,i,B,T,rfl,hm,hX,-,-,b2⟩
 have HM:Hid (x.Len/\∀ i,i<x.hn->x.hL i<=x.hC i):=⟨hm.inLen,hX.cap⟩
 have K2:Hid (WJ w1 (w2.alloc (oQ4 x.pa x.pn x.pc x.sa x.sn x.sc x.wa x.wn x.wc x.ha x.hn x.hc)) w2.heap.size x):=⟨hX.self.below (zQ _ _),BoxC.new _ _ _ _ _ _,b2.trans ((zQ _ _).mono b2.size)⟩
 clear hX b2 hm HB
 go_upto_region 4 with fail
 generalize w2.alloc (oQ4 x.pa x.pn x.pc x.sa x.sn x.sc x.wa x.wn x.wc x.ha x.hn x.hc)=W2 at *
 generalize w2.heap.size=X at *
 clear w2
 obtain ⟨C,hC⟩:∃ C,ckL x.y p i=C:=⟨_,rfl⟩
 have HC:Hid (ckL x.y p i=C):=hC
 have hl9:C.length<=1048576:=by
  rw [<- hC]
  unfold ckL
  split
  next h=>
   obtain ⟨ho,-⟩:=hasB_parts h
   rw [ckN_len]
   exact zP ho.cn.1.2 (by omega)
  next=>simp
 clear hC
 obtain ⟨k0,k1,k2,k3⟩:=K2.out.bx
 go_wp2_with fail
 clear k0 k1 k2 k3
 refine (implClock_any x p i W2 K2.out.g HM.out.1 HM.out.2 (HV.out _ K2.out.be)).mono ?_
 rintro e w3 ⟨u3,rfl,o3,d3⟩
 rw [HC.out] at o3
 obtain ⟨ag,cg,rfl,-⟩:=o3.form
 have K3:Hid (WJ w1 w3 X x/\Sl w3 ag C):=⟨K2.out.below d3,OwnI.slOf o3⟩
 clear o3 d3 K2
 obtain ⟨k0,k1,k2,k3⟩:=K3.out.1.bx
 go_wp2_with fail
 clear k0 k1 k2 k3
 refine (specClock_any x p i w3 K3.out.1.g HM.out.1 HM.out.2).mono ?_
 rintro e w4 ⟨u4,rfl,o4,d4⟩
 rw [HC.out] at o4
 obtain ⟨aw,cw,rfl,-⟩:=o4.form
 have K4:Hid (WJ w1 w4 X x/\Sl w4 ag C/\Sl w4 aw C):=⟨K3.out.1.below d4,K3.out.2.below d4,OwnI.slOf o4⟩
 clear o4 d4 K3
 go_wp2_with fail
 refine (sameInts_same ag aw cg cw C w4 hl9 K4.out.2.1 K4.out.2.2).mono ?_
 rintro e w5 ⟨rfl,d5⟩
 have K5:Hid (WJ w1 w5 X x/\Sl w5 ag C):=⟨K4.out.1.below d5,K4.out.2.1.below d5⟩
 clear d5 K4
 by_cases hh:hasB x.y p i=true
 case neg=>
  obtain rfl:C=[]:=HC.out.symm.trans (if_neg hh)
  have HS:Hid (∀ wx,WJ w1 wx X x->Calls Tryz.prog 20 #[x.v] wx fun e w'=>e=.returned (.bool x.y.okB)/\WJ w1 w' X x):=fun wx hw=>by
   refine (specSysOk_any x wx hw.g HM.out.1 HM.out.2).mono ?_
   rintro e w' ⟨h1,h2⟩
   exact ⟨h1,hw.below h2⟩
  have HN:Hid (x.y.okB=true->0<=p->p<(x.hn:Int)->0<=i->(x.hL p.toNat:Int)<=i):=fun h1 h2 h3 h4=>by
   refine Classical.byContradiction fun h5=>hh ?_
   have ho:=Sy.ok_of h1
   have e9:x.hn=x.y.pn:=ho.cn.2.2.1
   have h6:=hasB_mk (y:=x.y) (a:=p.toNat) (b:=i.toNat) h1 (by omega) (by have:x.hL p.toNat=x.y.hL p.toNat:=rfl;omega)
   rw [Int.toNat_of_nonneg h2,Int.toNat_of_nonneg h4] at h6
   exact h6
  clear hh
  obtain ⟨k0,k1,k2,k3⟩:=K5.out.1.bx
  go_wp2_with fail
  clear k0 k1 k2 k3
  refine (HS.out w5 K5.out.1).mono ?_
  rintro e w6 ⟨rfl,kk⟩
  have K6:Hid (WJ w1 w6 X x):=kk
  clear kk K5 HS
  obtain ⟨k0,k1,k2,k3⟩:=K6.out.bx
  generalize x.y.okB=t at *
  cases t with
  | false=>
   go_wp2
   go_ret
   exact ⟨rfl,K6.out.be⟩
  | true=>
   by_cases h1:p<0
   ·go_wp2
    go_ret
    exact ⟨rfl,K6.out.be⟩
   by_cases h2:(x.hn:Int)<=p
   ·go_wp2
    go_ret
    exact ⟨rfl,K6.out.be⟩
   by_cases h3:i<0
   ·go_wp2
    go_ret
    exact ⟨rfl,K6.out.be⟩
   obtain ⟨P,rfl⟩:∃ P:Nat,p=P:=⟨p.toNat,by omega⟩
   have h4:=HN.out rfl (by omega) (by omega) (by omega)
   rw [Int.toNat_natCast] at h4
   have hP:P<x.hn:=by omega
   obtain ⟨bb,off,ea,cb⟩:=K6.out.g.h.at hP
   have cb:w6.cell? ⟨bb,off+P,none⟩=some (.slice (x.hA P) (x.hL P) (x.hC P)):=cb
   rw [ea] at k3
   have hP':(P:Int)<(x.hn:Int):=by omega
   clear ea
   go_wp2
   go_ret
   exact ⟨rfl,K6.out.be⟩
 obtain ⟨ho,a,b,rfl,rfl,ha,hb⟩:=hasB_parts hh
 have hCk:C=ckN x.y a b:=HC.out.symm.trans (by unfold ckL;rw [if_pos hh];rfl)
 obtain ⟨D,hD,hall⟩:=ho.ckx
 have HO:Hid (x.y.Ok/\a<x.y.pn/\b<x.y.hL a/\C=ckN x.y a b/\Ckx x.y D/\(∀ q,q<x.y.pn->D q=x.y.hL q)/\x.hn=x.y.pn):=⟨ho,ha,hb,hCk,hD,hall,ho.cn.2.2.1⟩
 have hCl:C.length=x.y.pn:=by rw [hCk,ckN_len]
 have h4:x.y.pn<=4:=ho.cn.1.2
 have h41:1<=x.y.pn:=ho.cn.1.1
 obtain ⟨bg,og,rfl,-,-⟩:=K5.out.2.all (by omega)
 obtain ⟨N,hN⟩:∃ N,C.length=N:=⟨_,rfl⟩
 have HNl:Hid (C.length=N/\N=x.y.pn):=⟨hN,by omega⟩
 have hN4:(N:Int)<=4:=by omega
 have hN0:((N:Int) == 0)=false:=by
  have:¬ (N:Int)=0:=by omega
  simpa using this
 rw [hN]
 have hb200:(b:Int)<=200:=by have h9:=ho.hl200 ha;omega
 clear hh ho ha hb hCk hD hall hCl h4 h41 hN HC hl9
 go_wp2_with fail
 go_loopw [7] (fun m wr=>∃ n:Nat,n<=N/\m=.int .i64 n/\Hid (WJ w1 wr X x/\Sl wr (some ⟨bg,og,none⟩) C)) (fun m _=>N - (intOf m).toNat)
 case atStart=>exact ⟨0,Nat.zero_le _,rfl,K5.out⟩
 case round=>
  clear K5
  rename World=>wr
  obtain ⟨n,hn,rfl,HK⟩:=hrel
  by_cases hlt:n<N
  case neg=>
   have hnn:n=N:=by omega
   subst hnn
   have HW:Hid (∀ wx,WJ w1 wx X x->Sl wx (some ⟨bg,og,none⟩) C->Calls Tryz.prog 15 #[x.v,.slice (some ⟨bg,og,none⟩) n cg] wx fun e w'=>e=.returned (.bool true)/\WJ w1 w' X x):=fun wx hw hs=>by
    have h9:=implWhole_any x (some ⟨bg,og,none⟩) cg C wx hw.g HM.out.1 HM.out.2 hs (by rw [HNl.out.1];omega) (HV.out _ hw.be)
    rw [HNl.out.1] at h9
    refine h9.mono ?_
    rintro e w' ⟨h1,h2⟩
    refine ⟨?_,hw.below h2⟩
    rw [h1,HO.out.2.2.2.1,ckN_whole HO.out.1 HO.out.2.1 HO.out.2.2.1]
   have cA:wr.cell? ⟨bg,og+a,none⟩=some (.int .i64 ((b:Int)+1)):=by
    rw [(HK.out.2.same (k:=a) (by rw [HNl.out.1,HNl.out.2];exact HO.out.2.1)).2,HO.out.2.2.2.1,ckN_at x.y a b a HO.out.2.1,HO.out.2.2.2.2.1.self a HO.out.2.1 b (by rw [HO.out.2.2.2.2.2.1 a HO.out.2.1];exact HO.out.2.2.1)]
    rfl
   have haN:(a:Int)<(n:Int):=by have:=HO.out.2.1;have:=HNl.out.2;omega
   obtain ⟨k0,k1,k2,k3⟩:=HK.out.1.bx
   go_wp2_with fail
   clear k0 k1 k2 k3 cA
   refine (HW.out wr HK.out.1 HK.out.2).mono ?_
   rintro e w9 ⟨rfl,kk⟩
   have K9:Hid (WJ w1 w9 X x):=kk
   clear kk HK HW
   go_wp2
   go_ret
   exact ⟨rfl,K9.out.be⟩
  have hnI:(n:Int)<(N:Int):=by omega
  have hnp:n<x.y.pn:=by have:=HNl.out.2;omega
  obtain ⟨Q,hQ⟩:∃ Q,clk x.y a b n=Q:=⟨_,rfl⟩
  have HQ:Hid (clk x.y a b n=Q/\n<x.y.pn):=⟨hQ,hnp⟩
  have zg:=(HK.out.2.same (k:=n) (by rw [HNl.out.1];exact hlt)).1
  have cQ:wr.cell? ⟨bg,og+n,none⟩=some (.int .i64 (Q:Int)):=by
   rw [(HK.out.2.same (k:=n) (by rw [HNl.out.1];exact hlt)).2,HO.out.2.2.2.1,ckN_at x.y a b n hnp,hQ]
  have hQl:Q<=x.hL n:=by
   have h9:=HO.out.2.2.2.2.1.le a HO.out.2.1 b (by rw [HO.out.2.2.2.2.2.1 a HO.out.2.1];exact HO.out.2.2.1) n
   rw [HO.out.2.2.2.2.2.1 n hnp,hQ] at h9
   exact h9
  have hQ2:(Q:Int)<=200:=by have h9:=HO.out.1.hl200 hnp;have:x.y.hL n=x.hL n:=rfl;omega
  have hQl':¬ (x.hL n:Int)<(Q:Int):=by omega
  have HQl:Hid (Q<=x.hL n):=hQl
  obtain ⟨bb,off,ea,cb⟩:=HK.out.1.g.h.at (k:=n) (by rw [HO.out.2.2.2.2.2.2];exact hnp)
  have cb:wr.cell? ⟨bb,off+n,none⟩=some (.slice (x.hA n) (x.hL n) (x.hC n)):=cb
  have hnh:(n:Int)<(x.hn:Int):=by rw [HO.out.2.2.2.2.2.2];omega
  obtain ⟨k0,k1,k2,k3⟩:=HK.out.1.bx
  rw [ea] at k3
  clear ea hQ hnp hQl
  go_wp2_with fail
  go_quiet (fail)
  have HK2:Hid (WJ w1 (wr.drewN nq) X x/\Sl (wr.drewN nq) (some ⟨bg,og,none⟩) C):=⟨HK.out.1.below (yC (Below.refl _ _) _),HK.out.2.below (yC (Below.refl _ _) _)⟩
  have cQ2:(wr.drewN nq).cell? ⟨bg,og+n,none⟩=some (.int .i64 (Q:Int)):=cQ
  clear k0 k1 k2 k3 cb cQ zg hnh HK
  generalize wr.drewN nq=wq at *
  by_cases hQ0:Q=0
  case pos=>
   subst hQ0
   go_wp2
   go_roundw
   case rel=>exact ⟨n+1,by omega,by go_num,HK2.out⟩
   case measure=>simp [intOf];omega
  have e0:((Q:Int) == 0)=false:=by
   have:¬ (Q:Int)=0:=by omega
   simpa using this
  by_cases hna:n=a
  case pos=>
   have e1:((n:Int) == (a:Int))=true:=by simp [hna]
   clear hna hQ0
   go_wp2
   go_roundw
   case rel=>exact ⟨n+1,by omega,by go_num,HK2.out⟩
   case measure=>simp [intOf];omega
  have e1:((n:Int) == (a:Int))=false:=by
   have:¬ (n:Int)=(a:Int):=by omega
   simpa using this
  have hQ1:(Q:Int) - 1=((Q - 1:Nat):Int):=by omega
  have hwr:IntKind.i64.wrap ((Q:Int) - 1)=(Q:Int) - 1:=by rw [IntKind.wrap_i64];omega
  have HCl:Hid (∀ wx,WJ w1 wx X x->Calls Tryz.prog 16 #[x.v,.int .i64 (n:Int),.int .i64 (IntKind.i64.wrap ((Q:Int) - 1))] wx fun e w'=>∃ ad cd,e=.returned (.slice ad N cd)/\Sl w' ad (ckN x.y n (Q - 1))/\Below wx.heap.size wx w'):=fun wx hw=>by
   rw [hwr]
   refine (implClock_any x n ((Q:Int) - 1) wx hw.g HM.out.1 HM.out.2 (HV.out _ hw.be)).mono ?_
   rintro e w' ⟨u,h1,h2,h3⟩
   have hl:=HQl.out
   have h7:hasB x.y n ((Q:Int) - 1)=true:=by
    rw [hQ1]
    exact hasB_mk (Sy.okB_true HO.out.1) HQ.out.2 (show Q - 1<x.y.hL n by have:x.y.hL n=x.hL n:=rfl;omega)
   have h8:ckL x.y n ((Q:Int) - 1)=ckN x.y n (Q - 1):=by
    unfold ckL
    rw [if_pos h7,hQ1]
    rfl
   rw [h8] at h2
   obtain ⟨ad,cd,rfl,h9⟩:=h2.form
   rw [ckN_len,<- HNl.out.2] at h1
   exact ⟨ad,cd,h1,h9,h3⟩
  have HTr:Hid (∀ r,r<x.y.pn->clk x.y n (Q - 1) r<=clk x.y a b r):=fun r _=>by
   have h9:=HO.out.2.2.2.2.1.tr a HO.out.2.1 b (by rw [HO.out.2.2.2.2.2.1 a HO.out.2.1];exact HO.out.2.2.1) n HQ.out.2 (by rw [HQ.out.1];omega) r
   rw [HQ.out.1] at h9
   exact h9
  clear hna hQ0 hQ1 hwr
  go_upto_region 15 with fail
  obtain ⟨k0,k1,k2,k3⟩:=HK2.out.1.bx
  go_region_with (go_at_call 16;refine (HCl.out _ (HK2.out.1.below (Below.refl _ _).drew)).mono ?_;rintro e w8 ⟨ad,cd,rfl,s8,b8⟩;have K8:Hid (WJ w1 w8 X x/\Sl w8 (some ⟨bg,og,none⟩) C/\Sl w8 ad (ckN x.y n (Q - 1))):=⟨(HK2.out.1.below (Below.refl _ _).drew).below b8,(HK2.out.2.below (Below.refl _ _).drew).below b8,s8⟩;clear s8 b8)
  all_goals
   clear k0 k1 k2 k3 cQ2 HK2 HCl
   go_wp2_with fail
   go_loopw [9] (fun m wr=>∃ r:Nat,r<=N/\m=.int .i64 r/\Hid (WJ w1 wr X x/\Sl wr (some ⟨bg,og,none⟩) C/\Sl wr ad (ckN x.y n (Q - 1)))) (fun m _=>N - (intOf m).toNat)
   case atStart=>exact ⟨0,Nat.zero_le _,rfl,K8.out⟩
   case round=>
    clear K8
    rename World=>wi
    obtain ⟨r,hr,rfl,HR⟩:=hrel
    by_cases hrl:r<N
    case neg=>
     have hrn:r=N:=by omega
     go_wp2
     go_roundw
     case rel=>exact ⟨n+1,by omega,by go_num,HR.out.1,HR.out.2.1⟩
     case measure=>simp [intOf];omega
    have hrI:(r:Int)<(N:Int):=by omega
    have hrp:r<x.y.pn:=by have:=HNl.out.2;omega
    have cR:wi.cell? ⟨bg,og+r,none⟩=some (.int .i64 (clk x.y a b r:Nat)):=by
     rw [(HR.out.2.1.same (k:=r) (by rw [HNl.out.1];exact hrl)).2,HO.out.2.2.2.1,ckN_at x.y a b r hrp]
    obtain ⟨bd,od,rfl,zd,cD⟩:=HR.out.2.2.at (k:=r) (by rw [ckN_len];exact hrp)
    rw [ckN_at x.y n (Q - 1) r hrp] at cD
    have hle:=HTr.out r hrp
    have hng:¬ ((clk x.y a b r:Nat):Int)<((clk x.y n (Q - 1) r:Nat):Int):=by omega
    clear hle hrp
    generalize clk x.y a b r=A at *
    generalize clk x.y n (Q - 1) r=E at *
    go_wp2_with fail
    go_quiet (fail)
    have HR2:Hid (WJ w1 (wi.drewN nq) X x/\Sl (wi.drewN nq) (some ⟨bg,og,none⟩) C/\Sl (wi.drewN nq) (some ⟨bd,od,none⟩) (ckN x.y n (Q - 1))):=⟨HR.out.1.below (yC (Below.refl _ _) _),HR.out.2.1.below (yC (Below.refl _ _) _),HR.out.2.2.below (yC (Below.refl _ _) _)⟩
    clear HR cR cD zd
    generalize wi.drewN nq=wq2 at *
    go_wp2
    go_roundw
    case rel=>exact ⟨r+1,by omega,by go_num,HR2.out⟩
    case measure=>simp [intOf];omega
theorem clockDLaw_great (a0:Option Addr) (len cap:Nat) (w:World) (_hm:len<=maxLen) (hl:1048576<len):
  Calls Tryz.prog 6 #[.slice a0 len cap] w fun e w'=>e=.returned (.bool true)/\Below w.heap.size w w':=by
 go_enter Tryz.func6,Tryz.ntmps6
 go_wp2_with fail
 refine (big_any a0 len cap w).mono ?_
 rintro e w1 ⟨rfl,rfl⟩
 rw [decide_eq_true (show (1048576:Int)<(len:Int) by omega)]
 go_wp2
 go_ret
 exact ⟨rfl,Below.refl _ _⟩
open Go.ChangeShapes Go.WideShapes Go.ChangeAt
theorem clockDLifted (os:Os) (started:os.Started) (H:Type) (enc:TypeId × Value->H):
  ReturnsInHanded {} Tryz.checked os 6 .any (fun w args => (Rows.fnClockSpec.pre enc Tryz.prog Tryz.f6 [] false w args /\ laidMetH Tryz.prog [("errors.errorType", Rows.laid_errors_errorType)] w) /\ sizedMet enc Tryz.prog Tryz.f6 (OpenSpec.ofChange Rows.fnClockSpec) false w args)
   (Rows.fnClockSpec.post enc Tryz.prog Tryz.f6 false true false false):=by
 refine returnsInHanded_of_change_and (C := Tryz.checked) (X := fun w _ => laidMetH Tryz.prog [("errors.errorType", Rows.laid_errors_errorType)] w) (fun _ _ _ hh h => h.of_heap hh) Tryz.own started (by kernel_rfl) Tryz.func6
  (ChangeSpec.witness_at (enc := enc) (C := Tryz.checked) (os := os) (X := fun w _ => laidMetH Tryz.prog [("errors.errorType", Rows.laid_errors_errorType)] w) false (laidWorld os) #[.slice none 0 0] 8 rfl (by kernel_rfl) (by kernel_rfl) (by kernel_rfl) (by kernel_rfl) (by kernel_rfl) (laidWorld_met os _)) ?_
 intro W base args ds gs before hval0 hW _ _ hL _
 have hval:∀ (j:Nat) t v,Tryz.f6.params[j]? = some t->args[j]? = some v->Value.okWide Tryz.prog W .any base t v:=hval0
 have hW':=hW
 obtain ⟨p,q,hA0,hV,rfl,hfz,hnd⟩:=hW
 have hA:DataW.TrodAll enc Tryz.prog W 0 (fun _=>true) true Tryz.f6.params.toList args.toList ds p:=hA0
 rw [Tryz.params6] at hA hval
 obtain ⟨v0,d0,rfl,rfl,h0⟩:=trodAll_one hA
 obtain ⟨rfl,rfl⟩:=trodVars_none hV
 have lt0:∀ x ∈ p,x.block<W.heap.size:=by obtain ⟨m,hm⟩:=h0;exact DataW.trod_lt m _ _ _ hm
 have hg:=handle_of_laid hL
 clear hA0 hval0
 have hlaw:Calls Tryz.prog 6 #[v0] W fun e w'=>e=.returned (.bool true)/\Below W.heap.size W w':=by
  obtain ⟨a0,len,cap,rfl⟩:=okWide_slice Tryz.underlying22 (hval 0 22 v0 rfl rfl)
  obtain ⟨hm,hB⟩:=open_bytes h0
  by_cases hs:len<=1048576
  ·exact clockDLaw_small a0 len cap W hs hB hg
  ·exact clockDLaw_great a0 len cap W hm (by omega)
 refine hlaw.mono fun e W' ⟨he,bel⟩=>?_
 subst he
 exact ⟨_,rfl,_,_,_,[],_,[],hW',trodAll_mk1 (shut_bool Tryz.underlying4 _),trodAll_mk1 (Below.trod Tryz.laidOut (by kernel_rfl) (of_decide_eq_true (by kernel_rfl)) h0 bel lt0),rfl,bel.frame _,fun h=>by cases h⟩
theorem clockDSaid:Rows.FnClockSaid:=
 OpenClaim.holds_of_wide 6 Tryz.f6 rfl rfl rfl rfl rfl rfl rfl ⟨rfl,rfl,rfl,rfl,rfl⟩ rfl rfl rfl rfl rfl (by kernel_rfl) Tryz.func6 (by kernel_rfl)
  (of_decide_eq_true (by kernel_rfl)) (by unfold Func.isWrapper;first|(rw [if_pos (by decide +kernel)];kernel_rfl)|(rw [if_neg (by decide +kernel)];exact ⟨rfl,rfl⟩))
  (fun os started H enc _=>clockDLifted os started H enc)
theorem clockDPlain (f : FuncId) (fn : Func) (hf : Tryz.pinned.checked.prog.funcNamed "loop.example/g00196/laws.FnClock" = some f) (hfn : Tryz.pinned.checked.prog.funcs[f]? = some fn) :
  true=Tryz.pinned.checked.prog.looks []/\∀ (j:Nat) t,fn.params[j]? = some t->Tryz.pinned.checked.prog.wantsStandIn t=false:=by
 obtain rfl : f = 6 := Option.some.inj ((show Tryz.prog.funcNamed "loop.example/g00196/laws.FnClock" = some 6 by kernel_rfl).symm.trans hf) |>.symm
 obtain rfl:fn=Tryz.f6:=(Option.some.inj (Tryz.func6.symm.trans hfn)).symm
 refine ⟨by kernel_rfl,fun j t ht=>?_⟩
 rw [Tryz.params6] at ht
 have hm:=Array.mem_of_getElem? ht
 simp at hm
 obtain rfl:=hm
 exact (show Tryz.prog.wantsStandIn 22=false by kernel_rfl)
theorem clockD_card:Rows.FnClockCardSaid:=
 Claim7.holds_tied_plain_at .later [] _ _ _ _ clockDSaid (fun _ h=>by cases h) (by kernel_rfl) (fun _ h=>by cases h) fnClock_row_tie rfl ⟨rfl,rfl⟩ (by kernel_rfl) rfl clockDPlain (by kernel_rfl)
