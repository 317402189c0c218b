/- Proved: whatever bytes are drawn by, of drawn events none hangs on one that hangs on it; on what one hangs, all ahead of that in its process; a take hangs on its send, which sent it that number. Nothing is written into what was handed in. One condition, tied to the program's text: errors.errorType holds what its text lays. -/
import Derived.Test.YthdaejgmfognbaaGreatDoorTe0
import Derived.Test.YthdaejgmfognbaaGreatDoorTe45
import Derived.Test.YthdaejgmfognbaaGreatDoorTe43
import Derived.Test.YthdaejgmfognbaaGreatDoorTe40
import Derived.Deep.Cut
import Derived.Lib.QuietBelow
import Derived.BigRegion
import Derived.BigQuiet
import Derived.Test.YthdaejgmfognbaaGreatDoorTe14
import Derived.Test.YthdaejgmfognbaaGreatDoorCards
import Derived.SevenTiedAt
namespace Go.Proofs.YthdaejgmfognbaaGreatDoor
set_option maxRecDepth 100000
set_option maxHeartbeats 8000000
open Go.RowKit Go.Deep
theorem hangsDLaw_small (a0:Option Addr) (len cap:Nat) (w:World) (hl:len<=1048576) (hB:BytesAt w w.heap.size a0 len) (hV:w.cell? ⟨0,0,none⟩=some (.iface 266 (.agg #[.pointer (some ⟨1,211,none⟩)]))):
  Calls Tryz.prog 5 #[.slice a0 len cap] w fun e w'=>e=.returned (.bool true)/\Below w.heap.size w w':=by
 have HB:Hid (BytesAt w w.heap.size a0 len):=hB
 have HV:Hid (∀ wx,Below w.heap.size w wx->wx.cell? ⟨0,0,none⟩=some (.iface 266 (.agg #[.pointer (some ⟨1,211,none⟩)]))):=fun wx hb=>(hb.cell (p:=⟨0,0,none⟩) (zJ w _ hV)).trans hV
 have hlt:¬ (1048576:Int)<(len:Int):=by omega
 clear hB hV
 go_enter Tryz.func5,Tryz.ntmps5
 go_wp2_with fail
 refine (big_any a0 len cap w).mono ?_
 rintro e w1 ⟨rfl,rfl⟩
 rw [decide_eq_false (show ¬ (1048576:Int)<(len:Int) by omega)]
 go_wp2_with fail
 refine (DrawHangs_any w1.heap.size len cap a0 w1 HB.out (Nat.le_refl _) hl).mono ?_
 rintro e w2 ⟨x,p,i,q,j,B,T,rfl,hm,hX,-,-,b2⟩
 have HM:Hid (x.Len/\∀ i,i<x.hn->x.hL i<=x.hC i):=⟨hm.inLen,hX.cap⟩
 have K2:Hid (WJ w1 (w2.alloc (oQ4 x.pa x.pn x.pc x.sa x.sn x.sc x.wa x.wn x.wc x.ha x.hn x.hc)) w2.heap.size x):=⟨hX.self.below (zQ _ _),BoxC.new _ _ _ _ _ _,b2.trans ((zQ _ _).mono b2.size)⟩
 clear hX b2 hm HB
 go_upto_region 4 with fail
 generalize w2.alloc (oQ4 x.pa x.pn x.pc x.sa x.sn x.sc x.wa x.wn x.wc x.ha x.hn x.hc)=W2 at *
 generalize w2.heap.size=X at *
 clear w2
 have HHg:Hid (∀ a b c d t,hgB x.y a b c d=t->∀ wx,WJ w1 wx X x->Calls Tryz.prog 23 #[x.v,.int .i64 a,.int .i64 b,.int .i64 c,.int .i64 d] wx fun e w'=>e=.returned (.bool t)/\WJ w1 w' X x):=fun a b c d t h wx hw=>by
  rw [<- h]
  refine (implHangs_any x a b c d wx hw.g HM.out.1 HM.out.2 (HV.out _ hw.be)).mono ?_
  rintro e w' ⟨h1,h2⟩
  exact ⟨h1,hw.below h2⟩
 have HHs:Hid (∀ a b c d t,hgB x.y a b c d=t->∀ wx,WJ w1 wx X x->Calls Tryz.prog 24 #[x.v,.int .i64 a,.int .i64 b,.int .i64 c,.int .i64 d] wx fun e w'=>e=.returned (.bool t)/\WJ w1 w' X x):=fun a b c d t h wx hw=>by
  rw [<- h]
  refine (specHangs_any x a b c d wx hw.g HM.out.1 HM.out.2).mono ?_
  rintro e w' ⟨h1,h2⟩
  exact ⟨h1,hw.below h2⟩
 have HSn:Hid (∀ a b t,sndS x.y a b=t->∀ wx,WJ w1 wx X x->Calls Tryz.prog 25 #[x.v,.int .i64 a,.int .i64 b] wx fun e w'=>e=.returned (.int .i64 t)/\WJ w1 w' X x):=fun a b t h wx hw=>by
  rw [<- h]
  refine (implSender_any x a b wx hw.g HM.out.1 HM.out.2 (HV.out _ hw.be)).mono ?_
  rintro e w' ⟨h1,h2⟩
  exact ⟨h1,hw.below h2⟩
 have HSm:Hid (∀ a b t,sndS x.y a b=t->∀ wx,WJ w1 wx X x->Calls Tryz.prog 26 #[x.v,.int .i64 a,.int .i64 b] wx fun e w'=>e=.returned (.int .i64 t)/\WJ w1 w' X x):=fun a b t h wx hw=>by
  rw [<- h]
  refine (specSender_any x a b wx hw.g HM.out.1 HM.out.2).mono ?_
  rintro e w' ⟨h1,h2⟩
  exact ⟨h1,hw.below h2⟩
 clear HV
 obtain ⟨H,hH⟩:∃ H,hgB x.y p i q j=H:=⟨_,rfl⟩
 have HH:Hid (hgB x.y p i q j=H):=hH
 clear hH
 obtain ⟨k0,k1,k2,k3⟩:=K2.out.bx
 go_wp2_with fail
 clear k0 k1 k2 k3
 refine (HHg.out p i q j H HH.out W2 K2.out).mono ?_
 rintro e v3 ⟨rfl,kk⟩
 have J3:Hid (WJ w1 v3 X x):=kk
 clear kk K2
 go_upto_region 5 with fail
 go_cut [46] from 28 to 45 (fun t wx=>t=.bool false/\Hid (WJ w1 wx X x))
 case first=>
  obtain ⟨k0,k1,k2,k3⟩:=J3.out.bx
  go_wp2_with fail
  clear k0 k1 k2 k3
  refine (HHs.out p i q j H HH.out v3 J3.out).mono ?_
  rintro e v4 ⟨rfl,kk⟩
  have J4:Hid (WJ w1 v4 X x):=kk
  clear kk J3
  cases H with
  | false=>
   go_wp2_with fail
   go_meet
   case rel=>exact ⟨by with_reducible rfl,J4.out⟩
  | true=>
   have HH2:Hid (hgB x.y q j p i=false):=hgB_anti HH.out
   obtain ⟨k0,k1,k2,k3⟩:=J4.out.bx
   go_wp2_with fail
   clear k0 k1 k2 k3
   refine (HHg.out q j p i false HH2.out v4 J4.out).mono ?_
   rintro e v5 ⟨rfl,kk⟩
   have J5:Hid (WJ w1 v5 X x):=kk
   clear kk J4
   go_wp2_with fail
   go_meet
   case rel=>exact ⟨by with_reducible rfl,J5.out⟩
 obtain ⟨rfl,C5⟩:=hcut
 clear J3
 rename World=>w5
 go_upto_region 7 with fail
 go_cut [61] from 47 to 60 (fun t wx=>t=.bool false/\Hid (WJ w1 wx X x))
 case first=>
  cases H with
  | false=>
   go_wp2_with fail
   go_meet
   case rel=>exact ⟨by with_reducible rfl,C5.out⟩
  | true=>
   have hjb:0<=j/\j<=200:=by
    obtain ⟨a,b,c,d,-,-,-,rfl,ho,-,-,hc,hd,-,-⟩:=hgB_parts HH.out
    have h9:=ho.hl200 hc
    omega
   by_cases hj:0<j
   ·have HHj:Hid (hgB x.y p i q (j - 1)=true):=hgB_less HH.out hj
    obtain ⟨k0,k1,k2,k3⟩:=C5.out.bx
    go_wp2_with fail
    clear k0 k1 k2 k3
    refine (HHg.out p i q (j - 1) true HHj.out w5 C5.out).mono ?_
    rintro e v31 ⟨rfl,kk⟩
    have J31:Hid (WJ w1 v31 X x):=kk
    clear kk C5
    go_wp2_with fail
    go_meet
    case rel=>exact ⟨by with_reducible rfl,J31.out⟩
   ·skip
    go_wp2_with fail
    go_meet
    case rel=>exact ⟨by with_reducible rfl,C5.out⟩
 obtain ⟨rfl,C7⟩:=hcut
 clear C5
 rename World=>w7
 go_upto_region 9 with fail
 go_cut [83] from 62 to 82 (fun t wx=>t=.bool false/\Hid (WJ w1 wx X x))
 case first=>
  cases H with
  | false=>
   go_wp2_with fail
   go_meet
   case rel=>exact ⟨by with_reducible rfl,C7.out⟩
  | true=>
   obtain ⟨a,b,c,d,rfl,rfl,rfl,rfl,ho,ha,hb,hc,hd,-,-⟩:=hgB_parts HH.out
   have HA:Hid (a<x.hn/\b<x.hL a/\x.hL a<=200):=⟨by rw [show x.hn=x.y.pn from ho.cn.2.2.1];exact ha,hb,ho.hl200 ha⟩
   have ha':(a:Int)<(x.hn:Int):=by have:=HA.out.1;omega
   have hb2:(b:Int)<=200:=by have:=HA.out.2;omega
   have hl2:(x.hL a:Int)<=200:=by have:=HA.out.2;omega
   clear ho ha hb hc hd
   obtain ⟨bb,off,ea,cb⟩:=C7.out.g.h.at HA.out.1
   have cb:w7.cell? ⟨bb,off+a,none⟩=some (.slice (x.hA a) (x.hL a) (x.hC a)):=cb
   obtain ⟨k0,k1,k2,k3⟩:=C7.out.bx
   rw [ea] at k3
   have HEa:Hid (x.ha=some ⟨bb,off,none⟩):=ea
   clear ea
   have HHn:Hid ((b:Int)+1<(x.hL a:Int)->hgB x.y a (b+1) c d=true):=fun hi=>hgB_next HH.out (by rw [Int.toNat_natCast];exact hi)
   clear HA HH
   generalize x.hL a=La at *
   by_cases hi:(b:Int)+1<(La:Int)
   ·have HHi:Hid (hgB x.y a (b+1) c d=true):=HHn.out hi
    go_wp2_with fail
    rw [<- HEa.out]
    clear k0 k1 k2 k3 cb
    refine (HHg.out a (b+1) c d true HHi.out w7 C7.out).mono ?_
    rintro e vn ⟨rfl,kk⟩
    have JN:Hid (WJ w1 vn X x):=kk
    clear kk HHi
    go_wp2_with fail
    go_meet
    case rel=>exact ⟨by with_reducible rfl,JN.out⟩
   ·skip
    go_wp2_with fail
    go_meet
    case rel=>exact ⟨by with_reducible rfl,C7.out⟩
 obtain ⟨rfl,C9⟩:=hcut
 clear C7
 rename World=>w9
 go_upto_region 11 with fail
 obtain ⟨K,hK⟩:∃ K,sndS x.y p i=K:=⟨_,rfl⟩
 have HK:Hid (sndS x.y p i=K):=hK
 clear hK
 obtain ⟨k0,k1,k2,k3⟩:=C9.out.bx
 go_wp2_with fail
 clear k0 k1 k2 k3
 refine (HSn.out p i K HK.out w9 C9.out).mono ?_
 rintro e v51 ⟨rfl,kk⟩
 have J51:Hid (WJ w1 v51 X x):=kk
 clear kk C9
 obtain ⟨k0,k1,k2,k3⟩:=J51.out.bx
 go_wp2_with fail
 clear k0 k1 k2 k3
 refine (HSm.out p i K HK.out v51 J51.out).mono ?_
 rintro e v52 ⟨rfl,kk⟩
 have J52:Hid (WJ w1 v52 X x):=kk
 clear kk J51
 by_cases hk0:0<=K
 case neg=>
  go_wp2
  go_ret
  exact ⟨rfl,J52.out.be⟩
 obtain ⟨a,b,s1,s2,rfl,rfl,e3,ho,ha,hb,hs1,hs2,eq,f1,f2,f3,hg⟩:=snd_of (show 0<=sndS x.y p i by rw [HK.out];exact hk0)
 obtain rfl:K=(s2:Int):=HK.out.symm.trans e3
 have hn:x.hn=x.y.pn:=ho.cn.2.2.1
 have HG:Hid (hgB x.y a b s1 s2=true):=hg
 obtain ⟨bb,off,ea,cb⟩:=J52.out.g.h.at (k:=a) (by rw [hn];exact ha)
 obtain ⟨bb',off',ea',cs⟩:=J52.out.g.h.at (k:=s1) (by rw [hn];exact hs1)
 have hbo:bb=bb'/\off=off':=by
  rw [ea] at ea'
  simpa using ea'
 obtain ⟨rfl,rfl⟩:=hbo
 replace cb:v52.cell? ⟨bb,off+a,none⟩=some (.slice (x.hA a) (x.hL a) (x.hC a)):=cb
 replace cs:v52.cell? ⟨bb,off+s1,none⟩=some (.slice (x.hA s1) (x.hL s1) (x.hC s1)):=cs
 obtain ⟨be,oe,ee,ze,c0,c1,c2⟩:=(J52.out.g.hi a (by rw [hn];exact ha)).at (show b<x.hL a from hb)
 obtain ⟨bf,of,ef,zf,d0,d1,d2⟩:=(J52.out.g.hi s1 (by rw [hn];exact hs1)).at (show s2<x.hL s1 from hs2)
 replace c1:v52.cell? ⟨be,oe+b*3+1,none⟩=some (.int .i64 (s1:Int)):=by rw [<- eq];exact c1
 replace d0:v52.cell? ⟨bf,of+s2*3,none⟩=some (.int .i64 2):=by rw [<- f1];exact d0
 replace d1:v52.cell? ⟨bf,of+s2*3+1,none⟩=some (.int .i64 (a:Int)):=by rw [<- f2];exact d1
 replace d2:v52.cell? ⟨bf,of+s2*3+2,none⟩=some (.int .i64 (x.y.hH a b).v):=by rw [<- f3];exact d2
 replace c2:v52.cell? ⟨be,oe+b*3+2,none⟩=some (.int .i64 (x.y.hH a b).v):=c2
 replace c0:v52.cell? ⟨be,oe+b*3,none⟩=some (.int .i64 (x.y.hH a b).k):=c0
 obtain ⟨k0,k1,k2,k3⟩:=J52.out.bx
 rw [ea] at k3
 rw [ee] at cb
 rw [ef] at cs
 have ha':(a:Int)<(x.hn:Int):=by rw [hn];omega
 have hs1':(s1:Int)<(x.hn:Int):=by rw [hn];omega
 have hb':(b:Int)<(x.hL a:Int):=by have:b<x.hL a:=hb;omega
 have hs2':(s2:Int)<(x.hL s1:Int):=by have:s2<x.hL s1:=hs2;omega
 have zX:X<v52.heap.size:=J52.out.lt
 have zb:bb<v52.heap.size:=zJ _ _ cb
 have HEa:Hid (x.ha=some ⟨bb,off,none⟩):=ea
 clear ho ha hb hs1 hs2 eq f1 f2 f3 hg hn ea ea' ee ef e3 hk0 HK
 generalize (x.y.hH a b).v=V at *
 generalize (x.y.hH a b).k=Kd at *
 go_wp2_with fail
 rw [<- HEa.out]
 clear k0 k1 k2 k3 cb cs c0 c1 c2 d0 d1 d2 zX zb ze zf ha' hs1' hb' hs2'
 refine (HHg.out a b s1 s2 true HG.out _ ((J52.out.below (zQ _ _)).below (zQ _ _))).mono ?_
 rintro e vz ⟨rfl,kk⟩
 have JL:Hid (WJ w1 vz X x):=kk
 clear kk J52
 go_wp2
 go_ret
 exact ⟨rfl,JL.out.be⟩
theorem hangsDLaw_great (a0:Option Addr) (len cap:Nat) (w:World) (_hm:len<=maxLen) (hl:1048576<len):
  Calls Tryz.prog 5 #[.slice a0 len cap] w fun e w'=>e=.returned (.bool true)/\Below w.heap.size w w':=by
 go_enter Tryz.func5,Tryz.ntmps5
 go_wp2_with fail
 refine (big_any a0 len cap w).mono ?_
 rintro e w1 ⟨rfl,rfl⟩
 rw [decide_eq_true (show (1048576:Int)<(len:Int) by omega)]
 go_wp2
 go_ret
 exact ⟨rfl,Below.refl _ _⟩
open Go.ChangeShapes Go.WideShapes Go.ChangeAt
theorem hangsDLifted (os:Os) (started:os.Started) (H:Type) (enc:TypeId × Value->H):
  ReturnsInHanded {} Tryz.checked os 5 .any (fun w args => (Rows.fnHangsSpec.pre enc Tryz.prog Tryz.f5 [] false w args /\ laidMetH Tryz.prog [("errors.errorType", Rows.laid_errors_errorType)] w) /\ sizedMet enc Tryz.prog Tryz.f5 (OpenSpec.ofChange Rows.fnHangsSpec) false w args)
   (Rows.fnHangsSpec.post enc Tryz.prog Tryz.f5 false true false false):=by
 refine returnsInHanded_of_change_and (C := Tryz.checked) (X := fun w _ => laidMetH Tryz.prog [("errors.errorType", Rows.laid_errors_errorType)] w) (fun _ _ _ hh h => h.of_heap hh) Tryz.own started (by kernel_rfl) Tryz.func5
  (ChangeSpec.witness_at (enc := enc) (C := Tryz.checked) (os := os) (X := fun w _ => laidMetH Tryz.prog [("errors.errorType", Rows.laid_errors_errorType)] w) false (laidWorld os) #[.slice none 0 0] 8 rfl (by kernel_rfl) (by kernel_rfl) (by kernel_rfl) (by kernel_rfl) (by kernel_rfl) (laidWorld_met os _)) ?_
 intro W base args ds gs before hval0 hW _ _ hL _
 have hval:∀ (j:Nat) t v,Tryz.f5.params[j]? = some t->args[j]? = some v->Value.okWide Tryz.prog W .any base t v:=hval0
 have hW':=hW
 obtain ⟨p,q,hA0,hV,rfl,hfz,hnd⟩:=hW
 have hA:DataW.TrodAll enc Tryz.prog W 0 (fun _=>true) true Tryz.f5.params.toList args.toList ds p:=hA0
 rw [Tryz.params5] at hA hval
 obtain ⟨v0,d0,rfl,rfl,h0⟩:=trodAll_one hA
 obtain ⟨rfl,rfl⟩:=trodVars_none hV
 have lt0:∀ x ∈ p,x.block<W.heap.size:=by obtain ⟨m,hm⟩:=h0;exact DataW.trod_lt m _ _ _ hm
 have hg:=handle_of_laid hL
 clear hA0 hval0
 have hlaw:Calls Tryz.prog 5 #[v0] W fun e w'=>e=.returned (.bool true)/\Below W.heap.size W w':=by
  obtain ⟨a0,len,cap,rfl⟩:=okWide_slice Tryz.underlying22 (hval 0 22 v0 rfl rfl)
  obtain ⟨hm,hB⟩:=open_bytes h0
  by_cases hs:len<=1048576
  ·exact hangsDLaw_small a0 len cap W hs hB hg
  ·exact hangsDLaw_great a0 len cap W hm (by omega)
 refine hlaw.mono fun e W' ⟨he,bel⟩=>?_
 subst he
 exact ⟨_,rfl,_,_,_,[],_,[],hW',trodAll_mk1 (shut_bool Tryz.underlying4 _),trodAll_mk1 (Below.trod Tryz.laidOut (by kernel_rfl) (of_decide_eq_true (by kernel_rfl)) h0 bel lt0),rfl,bel.frame _,fun h=>by cases h⟩
theorem hangsDSaid:Rows.FnHangsSaid:=
 OpenClaim.holds_of_wide 5 Tryz.f5 rfl rfl rfl rfl rfl rfl rfl ⟨rfl,rfl,rfl,rfl,rfl⟩ rfl rfl rfl rfl rfl (by kernel_rfl) Tryz.func5 (by kernel_rfl)
  (of_decide_eq_true (by kernel_rfl)) (by unfold Func.isWrapper;first|(rw [if_pos (by decide +kernel)];kernel_rfl)|(rw [if_neg (by decide +kernel)];exact ⟨rfl,rfl⟩))
  (fun os started H enc _=>hangsDLifted os started H enc)
theorem hangsDPlain (f : FuncId) (fn : Func) (hf : Tryz.pinned.checked.prog.funcNamed "loop.example/g00196/laws.FnHangs" = some f) (hfn : Tryz.pinned.checked.prog.funcs[f]? = some fn) :
  true=Tryz.pinned.checked.prog.looks []/\∀ (j:Nat) t,fn.params[j]? = some t->Tryz.pinned.checked.prog.wantsStandIn t=false:=by
 obtain rfl : f = 5 := Option.some.inj ((show Tryz.prog.funcNamed "loop.example/g00196/laws.FnHangs" = some 5 by kernel_rfl).symm.trans hf) |>.symm
 obtain rfl:fn=Tryz.f5:=(Option.some.inj (Tryz.func5.symm.trans hfn)).symm
 refine ⟨by kernel_rfl,fun j t ht=>?_⟩
 rw [Tryz.params5] at ht
 have hm:=Array.mem_of_getElem? ht
 simp at hm
 obtain rfl:=hm
 exact (show Tryz.prog.wantsStandIn 22=false by kernel_rfl)
theorem hangsD_card:Rows.FnHangsCardSaid:=
 Claim7.holds_tied_plain_at .later [] _ _ _ _ hangsDSaid (fun _ h=>by cases h) (by kernel_rfl) (fun _ h=>by cases h) fnHangs_row_tie rfl ⟨rfl,rfl⟩ (by kernel_rfl) rfl hangsDPlain (by kernel_rfl)
